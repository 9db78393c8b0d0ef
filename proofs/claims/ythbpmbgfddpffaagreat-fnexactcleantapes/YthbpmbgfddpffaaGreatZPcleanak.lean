/- Walk of slices.symMergeCmpFunc over records: one element in the second part. -/
import Derived.Maps.OwnSet
import Derived.WideKeyEntry
import Derived.DeepKeys4
import Derived.Test.YthbpmbgfddpffaaGreatZPcleanaj
set_option linter.unusedVariables false
set_option linter.unusedSimpArgs false
set_option maxHeartbeats 16000000
namespace Go.Proofs.YthbpmbgfddpffaaGreat
open Go.RowKit F256
theorem zlQ (m k x:Nat) (h:k+1≤m):Sym.rot (k+1) m (m+1) (Sym.swp (k+1) k x)=Sym.rot k m (m+1) x:=by
 unfold Sym.rot Sym.swp
 repeat' split
 all_goals omega
theorem zlR (m x:Nat):Sym.rot m m (m+1) x=x:=by
 unfold Sym.rot
 repeat' split
 all_goals omega
theorem zoe {lt:Nat→Nat→Prop} {p:Nat→Nat} {a m i:Nat} (hai:a≤i) (
 him:i≤m) (h1:Sym.Srt lt p a m) (hl:∀ k,a≤k→k<i→lt (p k) (p m)) (hr:∀ k,i≤k→k<m→lt (p m) (p k)) :
 Sym.Srt lt (fun k=>p (Sym.rot i m (m+1) k)) a (m+1)∧Sym.Re a (m+1) p (fun k=>p (Sym.rot i m (m+1) k)):=by
 have r1:∀ k,i<k→k≤m→Sym.rot i m (m+1) k=k-1:=fun k h3 h4=>by
  unfold Sym.rot;repeat' split
  all_goals omega
 have r2:Sym.rot i m (m+1) i=m:=by
  unfold Sym.rot;repeat' split
  all_goals omega
 have r3:∀ k,k<i→Sym.rot i m (m+1) k=k:=fun k h3=>by
  unfold Sym.rot;repeat' split
  all_goals omega
 refine ⟨fun x y h3 h4 h5=>?_,(Sym.Re.rots p him (by omega)).mono hai (Nat.le_refl _)⟩
 show lt (p (Sym.rot i m (m+1) x)) (p (Sym.rot i m (m+1) y))
 by_cases c1:x<i
 ·rw [r3 x c1]
  by_cases c2:y<i
  ·rw [r3 y c2];exact h1 _ _ (by omega) (by omega) (by omega)
  ·by_cases c3:y=i
   ·rw [c3,r2];exact hl _ h3 c1
   ·rw [r1 y (by omega) (by omega)];exact h1 _ _ (by omega) (by omega) (by omega)
 ·by_cases c3:x=i
  ·rw [c3,r2,r1 y (by omega) (by omega)];exact hr _ (by omega) (by omega)
  ·rw [r1 x (by omega) (by omega),r1 y (by omega) (by omega)];exact h1 _ _ (by omega) (by omega) (by omega)
set_option maxRecDepth 1000000 in
theorem zkO (x0:Nat→RecD) (enc:Nat→List Value) (p:Nat→Nat) (N blk cap lo hi:Nat) (w:World) (V:RowsV x0 enc N blk cap lo hi w p) (hlo:hi≤lo) (hN:N<1000000000) (a m b:Nat) (ham:a<m) (hmb:m<b) (hb:b≤N) (htag:∀ i j,a≤i→i<m→m≤j→j<b→p i<p j) (hs1:Sym.Srt (numL x0) p a m) (hs2:Sym.Srt (numL x0) p m b) (h0:m≠a+1) (h1:b=m+1) :
 Calls Tryz.prog 194 #[.slice (some ⟨blk,0,none⟩) N cap,.int .i64 a,.int .i64 m,.int .i64 b,.func (.func 134) #[] #[]] w (fun e w'=>e=.returned (.tuple #[])∧∃ q,RowsV x0 enc N blk cap lo hi w' q∧Sym.Re a b p q∧Sym.Srt (numL x0) q a b∧ChgL [blk] w w'):=by
 have HV0:=hid V;have HT:=hid htag;have HS1:=hid hs1;have HM:=hid h1;obtain ⟨D,hD⟩:∃ D,D=m-a:=⟨_,rfl⟩
 have w0:IntKind.i64.wrap ((m:Int)-(a:Int))=(D:Int):=by rw [IntKind.wrap_i64];omega
 have d0:((D:Int)==1)=false:=by simp;omega
 have w9:IntKind.i64.wrap ((b:Int)-(m:Int))=1:=by rw [IntKind.wrap_i64];omega
 clear V htag hs1 hs2 h0 h1 hD
 go_enter Tryz.func194,Tryz.ntmps194
 go_wp2
 go_loopw [14,15] (fun vi vj wr=>∃ (i j:Nat),a≤i∧i≤j∧j≤m∧vi=.int .i64 i∧vj=.int .i64 j∧RowsV x0 enc N blk cap lo hi wr p∧(∀ k,a≤k→k<i→numL x0 (p k) (p m))∧(∀ k,j≤k→k<m→numL x0 (p m) (p k))∧ChgL [blk] w wr) (fun vi vj _=>(intOf vj).toNat-(intOf vi).toNat)
 case atStart=>exact ⟨a,m,Nat.le_refl _,by omega,Nat.le_refl _,by go_num,by go_num,HV0.out,fun k h1 h2=>by omega,fun k h1 h2=>by omega,ChgL.refl _ _⟩
 case round=>
  obtain ⟨i,j,hmi,hij,hjb,rfl,rfl,V,hL,hR,C⟩:=hrel;have HC:=hid C;have HL:=hid hL;have HR:=hid hR;have HV:=hid V;clear C hL hR w0 w9 d0
  by_cases hlt:i<j
  ·have t1:(i:Int)<(j:Int):=by omega
   obtain ⟨B,hB⟩:∃ B,B=(i+j)/2:=⟨_,rfl⟩
   have w1:IntKind.i64.wrap ((i:Int)+(j:Int))=((i+j:Nat):Int):=by rw [IntKind.wrap_i64];omega
   have e1:((i:Int)+(j:Int))/2=(B:Int):=by omega
   have hBi:i≤B:=by omega
   have hBj:B<j:=by omega
   have hAN:m<N:=by omega
   have hBN:B<N:=by omega
   have i1:(m:Int)<(N:Int):=by omega
   have i2:(B:Int)<(N:Int):=by omega
   have i3:(0:Int)≤(m:Int):=by omega
   have i4:(0:Int)≤(B:Int):=by omega
   have hsz:=(V.row.lt blk rfl);have VD:=View.drew V;have rgA:wr.drew.rangeAt blk (m*9) (enc (p m)):=VD.range hAN;have rgB:wr.drew.rangeAt blk (B*9) (enc (p B)):=VD.range hBN;have hsA:(enc (p m)).length=9:=VD.lens m hAN;have hsB:(enc (p B)).length=9:=VD.lens B hBN;have rdA:=VD.each m hAN;have rdB:=VD.each B hBN;obtain ⟨cA,hcA⟩:∃ c,c=enc (p m):=⟨_,rfl⟩;obtain ⟨cB,hcB⟩:∃ c,c=enc (p B):=⟨_,rfl⟩;rw [← hcA] at rgA hsA;rw [← hcB] at rgB hsB;have CC0:=zcy _ _ _ _ hi hi wr.drew rdA rdB;rw [← hcA,← hcB] at CC0;obtain ⟨c,hc⟩:∃ c:Int,c=numC (x0 (p m)) (x0 (p B)):=⟨_,rfl⟩;rw [← hc] at CC0;have HCN:=hid hc
   have CC:Calls Tryz.prog 134 (#[.agg cA.toArray,.agg cB.toArray]++#[]) wr.drew fun e w'=>e=.returned (.int .i64 c)∧Below wr.drew.heap.size wr.drew w':=by rw [Array.append_empty];exact CC0
   have HVD:=hid VD;clear CC0 hc hcA hcB rdA rdB hB VD V HV
   go_upto_region 17 with fail
   try rw [e1]
   refine zay 9 (fun w'=>w'.rangeAt blk (m*9) cA∧w'.rangeAt blk (B*9) cB) zci ⟨rgA,rgB⟩ (fun hHeld=>?_);refine zn9 0 rfl ?_
   try simp only [Act.put,SL]
   refine zn9 1 rfl ?_
   try simp only [Act.put,SL]
   refine zn9 2 rfl ?_
   try simp only [Act.put,SL]
   refine zn9 3 rfl ?_
   try simp only [Act.put,SL]
   refine zaf (i:=4) (oi:=_) 16 rfl (by kernel_rfl) (fun _ _ _ h=>h) (yieldsIf_load_mid (by kernel_rfl) 85 (.tmp 95) rfl blk (m*9) (by simp [Act.eval,Act.put]) cA _ (fun w h=>h.1) Tryz.underlying85 rfl (zam hsA)) (by assumption) ?_
   try simp only [Act.put,SL]
   refine zn9 5 rfl ?_
   try simp only [Act.put,SL]
   refine zn9 6 rfl ?_
   try simp only [Act.put,SL]
   refine zn9 7 rfl ?_
   try simp only [Act.put,SL]
   refine zaf (i:=8) (oi:=_) 16 rfl (by kernel_rfl) (fun _ _ _ h=>h) (yieldsIf_load_mid (by kernel_rfl) 85 (.tmp 99) rfl blk (B*9) (by simp [Act.eval,Act.put]) cB _ (fun w h=>h.2) Tryz.underlying85 rfl (zam hsB)) (by assumption) ?_
   try simp only [Act.put,SL]
   refine zas (i:=9) (o:=_) rfl (by kernel_rfl) (by kernel_rfl) (fun KC hKC=>?_);refine zaQ (by kernel_rfl) (.tmp 92) 134 #[] _ _ rfl (by simp [Act.eval,Act.put]) #[.agg cA.toArray,.agg cB.toArray] (by simp [Act.eval,Act.put]) Tryz.func134 (by kernel_rfl) (by kernel_rfl) CC ?_;rintro ee w5 ⟨rfl,b5⟩;refine ⟨_,rfl,?_⟩;refine hKC _ _ ?_;clear hKC KC
   try simp only [Act.put,SL]
   refine znS 10 (v:=?_) rfl ?_ ?_
   rotate_left
   ·intro w' hSw;go_simp;try with_reducible rfl
   try simp only [Act.put,SL]
   obtain ⟨dd,hdd⟩:∃ d:Bool,d=decide (c<0):=⟨_,rfl⟩;have HDD:=hid hdd;rw [← hdd];clear hdd;refine znS 11 (v:=?_) rfl ?_ ?_
   rotate_left
   ·intro w' hSw;go_simp;try with_reducible rfl
   try simp only [Act.put,SL]
   refine zar (by kernel_rfl) ?_ _;have HV5:Hid (RowsV x0 enc N blk cap lo hi w5 p):=View.below HVD.out b5 (by show hi≤wr.heap.size;omega);have HC5:Hid (ChgL [blk] w w5):=HC.out.trans ((ChgL.of_below ⟨rfl,rfl,rfl,Nat.le_refl _,fun _ _=>rfl⟩:ChgL [blk] wr wr.drew).trans (ChgL.of_below b5));clear HVD HC rgA rgB hsA hsB b5 hHeld CC hsz
   cases dd
   ·go_wp2
    go_roundw
    case rel=>
     refine ⟨B+1,j,by omega,by omega,by omega,by go_num,rfl,HV5.out,fun k k1 k2=>?_,HR.out,HC5.out⟩
     have h2:¬ c<0:=by simpa using HDD.out
     rw [HCN.out] at h2;have h3:=zib (HT.out B m (by omega) (by omega) (Nat.le_refl _) (by omega)) h2
     by_cases ck:k=B
     ·rw [ck];exact h3
     ·exact (zbH x0).trans (HS1.out k B k1 (by omega) (by omega)) h3
    case measure=>simp [intOf];omega
   ·go_wp2
    go_roundw
    case rel=>
     refine ⟨i,B,hmi,hBi,by omega,rfl,by go_num,HV5.out,HL.out,fun k k1 k2=>?_,HC5.out⟩
     have h2:c<0:=by simpa using HDD.out
     rw [HCN.out] at h2;have h3:=zfH h2
     by_cases ck:k=B
     ·rw [ck];exact h3
     ·exact (zbH x0).trans h3 (HS1.out B k (by omega) (by omega) k2)
    case measure=>simp [intOf];omega
  ·obtain rfl:i=j:=by omega
   clear V hij;go_wp2
   go_loopw [17] (fun vk wr=>∃ k:Nat,i≤k∧k≤m∧vk=.int .i64 k∧RowsV x0 enc N blk cap lo hi wr (fun x=>p (Sym.rot k m (m+1) x))∧ChgL [blk] w wr) (fun vk _=>(intOf vk).toNat)
   case atStart=>exact ⟨m,hjb,Nat.le_refl _,by go_num,HV.out.same (fun x _=>by rw [zlR]),HC.out⟩
   case round=>
    obtain ⟨A,haA,hAe,rfl,V,C⟩:=hrel;have HCr:=hid C;clear C
    by_cases hlt:i<A
    ·have t2:(i:Int)<(A:Int):=by omega
     obtain ⟨q,hq⟩:∃ q:Nat→Nat,q=fun x=>p (Sym.rot A m (m+1) x):=⟨_,rfl⟩;have HQ:=hid hq
     have VQ:RowsV x0 enc N blk cap lo hi wr q:=by rw [hq];exact V
     obtain ⟨B,hB⟩:∃ B,A=B+1:=⟨A-1,by omega⟩;have HAB:=hid hB
     have hAN:A<N:=by omega
     have hBN:B<N:=by omega
     have w4:IntKind.i64.wrap ((A:Int)-1)=(B:Int):=by rw [IntKind.wrap_i64];omega
     have i1:(A:Int)<(N:Int):=by omega
     have i2:(B:Int)<(N:Int):=by omega
     have i3:(0:Int)≤(A:Int):=by omega
     have i4:(0:Int)≤(B:Int):=by omega
     have VD:=View.drew VQ;have rgA:wr.drew.rangeAt blk (A*9) (enc (q A)):=VD.range hAN;have rgB:wr.drew.rangeAt blk (B*9) (enc (q B)):=VD.range hBN;have hsA:(enc (q A)).length=9:=VD.lens A hAN;have hsB:(enc (q B)).length=9:=VD.lens B hBN
     have th1:wr.drew.there blk (A*9) (enc (q B)).length:=by rw [hsB];exact VD.there hAN
     have th2:(wr.drew.setCells blk (A*9) (enc (q B))).there blk (B*9) (enc (q A)).length:=by rw [hsA];exact (VD.put (by decide) hlo hAN (VD.each B hBN)).there hBN
     have oneA:=zaT _ _ _ _ (VD.each A hAN);have oneB:=zaT _ _ _ _ (VD.each B hBN);have SW:=zer VD hlo hAN hBN;have HSW:=hid SW.1;have HSC:Hid (ChgL [blk] wr ((wr.drew.setCells blk (A*9) (enc (q B))).setCells blk (B*9) (enc (q A)))):=(ChgL.of_below ⟨rfl,rfl,rfl,Nat.le_refl _,fun _ _=>rfl⟩:ChgL [blk] wr wr.drew).trans SW.2;obtain ⟨cA,hcA⟩:∃ c,c=enc (q A):=⟨_,rfl⟩;obtain ⟨cB,hcB⟩:∃ c,c=enc (q B):=⟨_,rfl⟩;rw [← hcA] at rgA th2 hsA oneA HSW HSC;rw [← hcB] at rgB th1 th2 hsB oneB HSW HSC;clear hcA hcB VD SW;clear hq hB V VQ
     go_upto_region 23 with fail
     refine zay 15 (fun w'=>w'.rangeAt blk (A*9) cA∧w'.rangeAt blk (B*9) cB) zci ⟨rgA,rgB⟩ (fun hHeld=>?_);refine zaa (i:=0) (oi:=_) (v:=?_) rfl (by kernel_rfl) (fun _ _ _ h=>h) (Or.inl ⟨by rfl,?_⟩) (by assumption) ?_
     rotate_left
     ·intro w' hSw;go_simp;try with_reducible rfl
     try simp only [Act.put,SL]
     refine zaa (i:=1) (oi:=_) (v:=?_) rfl (by kernel_rfl) (fun _ _ _ h=>h) (Or.inl ⟨by rfl,?_⟩) (by assumption) ?_
     rotate_left
     ·intro w' hSw;go_simp;try with_reducible rfl
     try simp only [Act.put,SL]
     refine zaa (i:=2) (oi:=_) (v:=?_) rfl (by kernel_rfl) (fun _ _ _ h=>h) (Or.inl ⟨by rfl,?_⟩) (by assumption) ?_
     rotate_left
     ·intro w' hSw;go_simp;try with_reducible rfl
     try simp only [Act.put,SL]
     refine zaa (i:=3) (oi:=_) (v:=?_) rfl (by kernel_rfl) (fun _ _ _ h=>h) (Or.inl ⟨by rfl,?_⟩) (by assumption) ?_
     rotate_left
     ·intro w' hSw;go_simp;try with_reducible rfl
     try simp only [Act.put,SL]
     refine zaa (i:=4) (oi:=_) (v:=?_) rfl (by kernel_rfl) (fun _ _ _ h=>h) (Or.inl ⟨by rfl,?_⟩) (by assumption) ?_
     rotate_left
     ·intro w' hSw;go_simp;try with_reducible rfl
     try simp only [Act.put,SL]
     refine zaa (i:=5) (oi:=_) (v:=?_) rfl (by kernel_rfl) (fun _ _ _ h=>h) (Or.inl ⟨by rfl,?_⟩) (by assumption) ?_
     rotate_left
     ·intro w' hSw;go_simp;try with_reducible rfl
     try simp only [Act.put,SL]
     refine zaa (i:=6) (oi:=_) (v:=?_) rfl (by kernel_rfl) (fun _ _ _ h=>h) (Or.inl ⟨by rfl,?_⟩) (by assumption) ?_
     rotate_left
     ·intro w' hSw;go_simp;try with_reducible rfl
     try simp only [Act.put,SL]
     refine zaa (i:=7) (oi:=_) (v:=?_) rfl (by kernel_rfl) (fun _ _ _ h=>h) (Or.inl ⟨by rfl,?_⟩) (by assumption) ?_
     rotate_left
     ·intro w' hSw;go_simp;try with_reducible rfl
     try simp only [Act.put,SL]
     refine zaa (i:=8) (oi:=_) (v:=?_) rfl (by kernel_rfl) (fun _ _ _ h=>h) (Or.inl ⟨by rfl,?_⟩) (by assumption) ?_
     rotate_left
     ·intro w' hSw;go_simp;try with_reducible rfl
     try simp only [Act.put,SL]
     refine zaf (i:=9) (oi:=_) 16 rfl (by kernel_rfl) (fun _ _ _ h=>h) (yieldsIf_load_mid (by rfl) 85 (.tmp 121) rfl blk (B*9) (by simp [Act.eval,Act.put]) cB _ (fun w h=>h.2) Tryz.underlying85 rfl (zam hsB)) (by assumption) ?_
     try simp only [Act.put,SL]
     refine zaa (i:=10) (oi:=_) (v:=?_) rfl (by kernel_rfl) (fun _ _ _ h=>h) (Or.inl ⟨by rfl,?_⟩) (by assumption) ?_
     rotate_left
     ·intro w' hSw;go_simp;try with_reducible rfl
     try simp only [Act.put,SL]
     refine zaa (i:=11) (oi:=_) (v:=?_) rfl (by kernel_rfl) (fun _ _ _ h=>h) (Or.inl ⟨by rfl,?_⟩) (by assumption) ?_
     rotate_left
     ·intro w' hSw;go_simp;try with_reducible rfl
     try simp only [Act.put,SL]
     refine zaa (i:=12) (oi:=_) (v:=?_) rfl (by kernel_rfl) (fun _ _ _ h=>h) (Or.inl ⟨by rfl,?_⟩) (by assumption) ?_
     rotate_left
     ·intro w' hSw;go_simp;try with_reducible rfl
     try simp only [Act.put,SL]
     refine zaf (i:=13) (oi:=_) 16 rfl (by kernel_rfl) (fun _ _ _ h=>h) (yieldsIf_load_mid (by rfl) 85 (.tmp 125) rfl blk (A*9) (by simp [Act.eval,Act.put]) cA _ (fun w h=>h.1) Tryz.underlying85 rfl (zam hsA)) (by assumption) ?_
     try simp only [Act.put,SL]
     refine zaa (i:=14) (oi:=_) (v:=?_) rfl (by kernel_rfl) (fun _ _ _ h=>h) (Or.inl ⟨by rfl,?_⟩) (by assumption) ?_
     rotate_left
     ·intro w' hSw;go_simp;try with_reducible rfl
     try simp only [Act.put,SL]
     refine zbw (i:=15) rfl (by kernel_rfl) (by kernel_rfl) rfl rfl 85 (.tmp 127) (.tmp 122) rfl blk (A*9) cB (by simp [Act.eval]) (by simp [Act.eval]) th1 (zam hsB) oneB ?_;refine zak (i:=16) (oi:=_) (v:=?_) rfl (by kernel_rfl) (fun _ _ _ h=>h) (Or.inl ⟨by rfl,?_⟩) ?_
     rotate_left
     ·intro w' hSw;go_simp;try with_reducible rfl
     try simp only [Act.put,SL]
     refine zbw (i:=17) rfl (by kernel_rfl) (by kernel_rfl) rfl rfl 85 (.tmp 128) (.tmp 126) rfl blk (B*9) cA (by simp [Act.eval]) (by simp [Act.eval]) th2 (zam hsA) oneA ?_;refine zar (by kernel_rfl) ?_ _;go_wp2
     go_roundw
     case rel=>
      have hAB:=HAB.out
      have e9:∀ x,q (Sym.swp A B x)=p (Sym.rot B m (m+1) x):=fun x=>by
       rw [HQ.out,hAB]
       show p (Sym.rot (B+1) m (m+1) (Sym.swp (B+1) B x))=_
       rw [zlQ m B x (by omega)]
      exact ⟨B,by omega,by omega,by go_num,HSW.out.same (fun x _=>e9 x),HCr.out.trans HSC.out⟩
     case measure=>have hAB:=HAB.out;simp [intOf];omega
    ·obtain rfl:A=i:=by omega
     have HVA:=hid V;clear V;go_wp2;refine bodyPost_ret (results_none rfl _ _ _) rfl ?_;have M:=zoe (p:=p) (a:=a) (m:=m) (i:=A) hmi (by omega) HS1.out (fun k h3 h4=>HL.out k h3 h4) (fun k h3 h4=>HR.out k h3 h4);rw [← HM.out] at M;exact ⟨rfl,_,by rw [← HM.out] at HVA;exact HVA.out,M.2,M.1,HCr.out⟩
theorem znA (p q:Prop) [Decidable p] [Decidable q]:(p∧q)∨(p∧¬ q)∨¬ p:=by
 by_cases h:p
 ·by_cases k:q
  ·exact .inl ⟨h,k⟩
  ·exact .inr (.inl ⟨h,k⟩)
 ·exact .inr (.inr h)
theorem dT {x y:Nat} (h:x<y):decide ((x:Int)<(y:Int))=true:=decide_eq_true (by omega)
theorem dN {x y:Nat} (h:x<y):decide (x<y)=true:=decide_eq_true h
theorem dF {x y:Nat} (h:¬ x<y):decide ((x:Int)<(y:Int))=false:=decide_eq_false (by omega)
theorem dM {x y:Nat} (h:¬ x<y):decide (x<y)=false:=decide_eq_false h
theorem znB (m e x:Nat):Sym.rot m m e x=x:=by
 unfold Sym.rot
 repeat' split
 all_goals omega
theorem znC (s m x:Nat):Sym.rot s m m x=x:=by
 unfold Sym.rot
 repeat' split
 all_goals omega
theorem rot_a {s m e x:Nat} (h:x<s):Sym.rot s m e x=x:=by
 unfold Sym.rot
 repeat' split
 all_goals omega
theorem rot_b {s m e x:Nat} (h:e≤x):Sym.rot s m e x=x:=by
 unfold Sym.rot
 repeat' split
 all_goals omega
theorem rot_c {s m e mid x:Nat} (hm:mid+m=s+e) (h1:s≤m) (h2:m≤e) (h3:s≤x) (h4:x<mid):m≤Sym.rot s m e x∧Sym.rot s m e x<e:=by
 unfold Sym.rot
 repeat' split
 all_goals omega
theorem rot_d {s m e mid x:Nat} (hm:mid+m=s+e) (h1:s≤m) (h2:m≤e) (h3:mid≤x) (h4:x<e):s≤Sym.rot s m e x∧Sym.rot s m e x<m:=by
 unfold Sym.rot
 repeat' split
 all_goals omega
set_option maxRecDepth 1000000 in
theorem zgv (x0:Nat→RecD) (enc:Nat→List Value) (p:Nat→Nat) (N blk cap lo hi:Nat) (w:World) (V:RowsV x0 enc N blk cap lo hi w p) (hlo:hi≤lo) (hN:N<1000000000) (a m b mid:Nat) (ham:a<m) (hmb:m<b) (hb:b≤N) (htag:∀ i j,a≤i→i<m→m≤j→j<b→p i<p j) (hs1:Sym.Srt (numL x0) p a m) (hs2:Sym.Srt (numL x0) p m b) (h0:m≠a+1) (h1:b≠m+1) (hmid:mid=(a+b)/2) (hx:mid<m∨m≤mid) (IH:∀ (p':Nat→Nat) (w':World) (a' m' b':Nat),b'-a'<b-a→RowsV x0 enc N blk cap lo hi w' p'→a'<m'→m'<b'→b'≤N→(∀ i j,a'≤i→i<m'→m'≤j→j<b'→p' i<p' j)→Sym.Srt (numL x0) p' a' m'→Sym.Srt (numL x0) p' m' b'→Calls Tryz.prog 194 #[.slice (some ⟨blk,0,none⟩) N cap,.int .i64 a',.int .i64 m',.int .i64 b',.func (.func 134) #[] #[]] w' (fun e w''=>e=.returned (.tuple #[])∧∃ q,RowsV x0 enc N blk cap lo hi w'' q∧Sym.Re a' b' p' q∧Sym.Srt (numL x0) q a' b'∧ChgL [blk] w' w'')) :
 Calls Tryz.prog 194 #[.slice (some ⟨blk,0,none⟩) N cap,.int .i64 a,.int .i64 m,.int .i64 b,.func (.func 134) #[] #[]] w (fun e w'=>e=.returned (.tuple #[])∧∃ q,RowsV x0 enc N blk cap lo hi w' q∧Sym.Re a b p q∧Sym.Srt (numL x0) q a b∧ChgL [blk] w w'):=by
 have HV0:=hid V;have HT:=hid htag;have HS1:=hid hs1;have HS2:=hid hs2;have HIH:=hid IH;have HMID:=hid hmid;obtain ⟨D,hD⟩:∃ D,D=m-a:=⟨_,rfl⟩
 have w0:IntKind.i64.wrap ((m:Int)-(a:Int))=(D:Int):=by rw [IntKind.wrap_i64];omega
 have d0:((D:Int)==1)=false:=by simp;omega
 obtain ⟨E,hE⟩:∃ E,E=b-m:=⟨_,rfl⟩
 have w9:IntKind.i64.wrap ((b:Int)-(m:Int))=(E:Int):=by rw [IntKind.wrap_i64];omega
 have d9:((E:Int)==1)=false:=by simp;omega
 have w1:IntKind.i64.wrap ((a:Int)+(b:Int))=((a+b:Nat):Int):=by rw [IntKind.wrap_i64];omega
 have e1:((a:Int)+(b:Int))/2=(mid:Int):=by omega
 obtain ⟨n,hn⟩:∃ n,n=mid+m:=⟨_,rfl⟩
 have w2:IntKind.i64.wrap ((mid:Int)+(m:Int))=(n:Int):=by rw [IntKind.wrap_i64];omega
 obtain ⟨P,hP⟩:∃ P,n=P+1:=⟨n-1,by omega⟩
 have w3:IntKind.i64.wrap ((n:Int)-1)=(P:Int):=by rw [IntKind.wrap_i64];omega
 obtain ⟨S0,R0,hSR⟩:∃ S0 R0:Nat,(mid<m∧S0=n-b∧R0=mid)∨(¬ mid<m∧S0=a∧R0=m):=by
  rcases hx with h | h
  ·exact ⟨_,_,.inl ⟨h,rfl,rfl⟩⟩
  ·exact ⟨_,_,.inr ⟨by omega,rfl,rfl⟩⟩
 have F:a≤S0∧n≤S0+b∧(S0=a∨n=S0+b)∧S0≤R0∧R0≤m∧R0≤mid∧(R0=m∨R0=mid):=by omega
 have HF:=hid F;have HN:Hid (n=mid+m∧n=P+1):=⟨hn,hP⟩;have HSR:=hid hSR;clear V htag hs1 hs2 h0 h1 hD hE IH hmid hn hP F
 rcases hSR with ⟨hx1,hS0,hR0⟩ | ⟨hx1,hS0,hR0⟩
 all_goals
  first
  | (
   have x4:(mid:Int)<(m:Int):=by exact Int.ofNat_lt.mpr (hx1:mid<m)
   have x5:IntKind.i64.wrap ((n:Int)-(b:Int))=(S0:Int):=by rw [IntKind.wrap_i64];have:=HN.out;have:=HF.out;omega
   have HSX:Hid (S0=n-b∧R0=mid):=⟨hS0,hR0⟩)
  | (
   have x4:=dF (hx1:¬ mid<m);have x5:=dM (hx1:¬ mid<m)
   have HSX:Hid (S0=a∧R0=m):=⟨hS0,hR0⟩)
  clear hx1 hS0 hR0
  go_enter Tryz.func194,Tryz.ntmps194
  go_wp2
  go_loopw [20,21] (fun vi vj wr=>∃ (i j:Nat),S0≤i∧i≤j∧j≤R0∧vi=.int .i64 i∧vj=.int .i64 j∧RowsV x0 enc N blk cap lo hi wr p∧(i=S0∨numL x0 (p (i-1)) (p (n-i)))∧(j=R0∨numL x0 (p (P-j)) (p j))∧ChgL [blk] w wr) (fun vi vj _=>(intOf vj).toNat-(intOf vi).toNat)
  case atStart=>exact ⟨S0,R0,Nat.le_refl _,HF.out.2.2.2.1,Nat.le_refl _,by have:=HSX.out;go_num,by have:=HSX.out;go_num,HV0.out,.inl rfl,.inl rfl,ChgL.refl _ _⟩
  case round=>
   obtain ⟨i,j,hmi,hij,hjb,rfl,rfl,V,hL,hR,C⟩:=hrel;have HC:=hid C;have HL:=hid hL;have HR:=hid hR;have HV:=hid V;clear C hL hR w0 w9 d0 d9 w1 e1 w2 w3
   by_cases hlt:i<j
   ·have t1:(i:Int)<(j:Int):=by omega
    obtain ⟨B,hB⟩:∃ B,B=(i+j)/2:=⟨_,rfl⟩
    have w1:IntKind.i64.wrap ((i:Int)+(j:Int))=((i+j:Nat):Int):=by rw [IntKind.wrap_i64];have:=HF.out;omega
    have e1:((i:Int)+(j:Int))/2=(B:Int):=by omega
    have hBi:i≤B:=by omega
    have hBj:B<j:=by omega
    obtain ⟨A,hA⟩:∃ A,A=P-B:=⟨_,rfl⟩;have hF:=HF.out;have hNN:=HN.out;have hMID:=HMID.out
    have hAm:m≤A∧A<b:=by omega
    have HAP:Hid (A+B=P):=(by omega:A+B=P)
    have w4:IntKind.i64.wrap ((P:Int)-(B:Int))=(A:Int):=by rw [IntKind.wrap_i64];omega
    have hAN:A<N:=by omega
    have hBN:B<N:=by omega
    have i1:(A:Int)<(N:Int):=by omega
    have i2:(B:Int)<(N:Int):=by omega
    have i3:(0:Int)≤(A:Int):=by omega
    have i4:(0:Int)≤(B:Int):=by omega
    have hsz:=(V.row.lt blk rfl);have HTG:Hid (p B<p A):=HT.out B A (by omega) (by omega) (by omega) (by omega);have VD:=View.drew V;have rgA:wr.drew.rangeAt blk (A*9) (enc (p A)):=VD.range hAN;have rgB:wr.drew.rangeAt blk (B*9) (enc (p B)):=VD.range hBN;have hsA:(enc (p A)).length=9:=VD.lens A hAN;have hsB:(enc (p B)).length=9:=VD.lens B hBN;have rdA:=VD.each A hAN;have rdB:=VD.each B hBN;obtain ⟨cA,hcA⟩:∃ c,c=enc (p A):=⟨_,rfl⟩;obtain ⟨cB,hcB⟩:∃ c,c=enc (p B):=⟨_,rfl⟩;rw [← hcA] at rgA hsA;rw [← hcB] at rgB hsB;have CC0:=zcy _ _ _ _ hi hi wr.drew rdA rdB;rw [← hcA,← hcB] at CC0;obtain ⟨c,hc⟩:∃ c:Int,c=numC (x0 (p A)) (x0 (p B)):=⟨_,rfl⟩;rw [← hc] at CC0;have HCN:=hid hc
    have CC:Calls Tryz.prog 134 (#[.agg cA.toArray,.agg cB.toArray]++#[]) wr.drew fun e w'=>e=.returned (.int .i64 c)∧Below wr.drew.heap.size wr.drew w':=by rw [Array.append_empty];exact CC0
    have HVD:=hid VD;clear CC0 hc hcA hcB rdA rdB hB hA hF hNN hMID VD V HV
    go_upto_region 35 with fail
    try rw [e1]
    refine zay 11 (fun w'=>w'.rangeAt blk (A*9) cA∧w'.rangeAt blk (B*9) cB) zci ⟨rgA,rgB⟩ (fun hHeld=>?_);refine zn9 0 rfl ?_
    try simp only [Act.put,SL]
    refine zn9 1 rfl ?_
    try simp only [Act.put,SL]
    refine zn9 2 rfl ?_
    try simp only [Act.put,SL]
    refine zn9 3 rfl ?_
    try simp only [Act.put,SL]
    refine zn9 4 rfl ?_
    try simp only [Act.put,SL]
    refine zn9 5 rfl ?_
    try simp only [Act.put,SL]
    refine zaf (i:=6) (oi:=_) 16 rfl (by kernel_rfl) (fun _ _ _ h=>h) (yieldsIf_load_mid (by kernel_rfl) 85 (.tmp 163) rfl blk (A*9) (by simp [Act.eval,Act.put]) cA _ (fun w h=>h.1) Tryz.underlying85 rfl (zam hsA)) (by assumption) ?_
    try simp only [Act.put,SL]
    refine zn9 7 rfl ?_
    try simp only [Act.put,SL]
    refine zn9 8 rfl ?_
    try simp only [Act.put,SL]
    refine zn9 9 rfl ?_
    try simp only [Act.put,SL]
    refine zaf (i:=10) (oi:=_) 16 rfl (by kernel_rfl) (fun _ _ _ h=>h) (yieldsIf_load_mid (by kernel_rfl) 85 (.tmp 167) rfl blk (B*9) (by simp [Act.eval,Act.put]) cB _ (fun w h=>h.2) Tryz.underlying85 rfl (zam hsB)) (by assumption) ?_
    try simp only [Act.put,SL]
    refine zas (i:=11) (o:=_) rfl (by kernel_rfl) (by kernel_rfl) (fun KC hKC=>?_);refine zaQ (by kernel_rfl) (.tmp 158) 134 #[] _ _ rfl (by simp [Act.eval,Act.put]) #[.agg cA.toArray,.agg cB.toArray] (by simp [Act.eval,Act.put]) Tryz.func134 (by kernel_rfl) (by kernel_rfl) CC ?_;rintro ee w5 ⟨rfl,b5⟩;refine ⟨_,rfl,?_⟩;refine hKC _ _ ?_;clear hKC KC
    try simp only [Act.put,SL]
    refine znS 12 (v:=?_) rfl ?_ ?_
    rotate_left
    ·intro w' hSw;go_simp;try with_reducible rfl
    try simp only [Act.put,SL]
    obtain ⟨dd,hdd⟩:∃ d:Bool,d=decide (c<0):=⟨_,rfl⟩;have HDD:=hid hdd;rw [← hdd];clear hdd;refine znS 13 (v:=?_) rfl ?_ ?_
    rotate_left
    ·intro w' hSw;go_simp;try with_reducible rfl
    try simp only [Act.put,SL]
    refine zar (by kernel_rfl) ?_ _;have HV5:Hid (RowsV x0 enc N blk cap lo hi w5 p):=View.below HVD.out b5 (by show hi≤wr.heap.size;omega);have HC5:Hid (ChgL [blk] w w5):=HC.out.trans ((ChgL.of_below ⟨rfl,rfl,rfl,Nat.le_refl _,fun _ _=>rfl⟩:ChgL [blk] wr wr.drew).trans (ChgL.of_below b5));clear HVD HC rgA rgB hsA hsB b5 hHeld CC hsz
    cases dd
    ·go_wp2
     go_roundw
     case rel=>
      refine ⟨B+1,j,by omega,by omega,by omega,by go_num,rfl,HV5.out,.inr ?_,HR.out,HC5.out⟩
      have h2:¬ c<0:=by simpa using HDD.out
      rw [HCN.out] at h2;rw [show B+1-1=B by omega,show n-(B+1)=A by have h8:=HN.out;have h9:=HAP.out;omega];exact zib HTG.out h2
     case measure=>simp [intOf];omega
    ·go_wp2
     go_roundw
     case rel=>
      refine ⟨i,B,hmi,hBi,by omega,rfl,by go_num,HV5.out,HL.out,.inr ?_,HC5.out⟩
      have h2:c<0:=by simpa using HDD.out
      rw [HCN.out] at h2;rw [show P-B=A by have h9:=HAP.out;omega];exact zfH h2
     case measure=>simp [intOf];omega
   ·obtain rfl:i=j:=by omega
    clear V hij;obtain ⟨e,he⟩:∃ e,e=n-i:=⟨_,rfl⟩;have hF:=HF.out;have hNN:=HN.out;have hMID:=HMID.out
    have hie:mid+m=i+e:=by omega
    have hae:a≤i∧i≤m∧m≤e∧e≤b∧i≤mid∧mid≤e:=by omega
    have w5:IntKind.i64.wrap ((n:Int)-(i:Int))=(e:Int):=by rw [IntKind.wrap_i64];omega
    have SP:=Sym.split (zbH x0) (p:=p) (a:=a) (m:=m) (b:=b) (s:=i) (e:=e) (mid:=mid) HS1.out HS2.out hie hae.1 hae.2.1 hae.2.2.1 hae.2.2.2.1 (fun h3 h4=>by
     rcases HL.out with h5 | h5
     ·omega
     ·rw [← he] at h5;exact h5) (fun h3 h4=>by
     rcases HR.out with h5 | h5
     ·omega
     ·rw [show P-i=e-1 by omega] at h5;exact h5)
    obtain ⟨q0,hq0⟩:∃ q0:Nat→Nat,q0=fun k=>p (Sym.rot i m e k):=⟨_,rfl⟩;have HQ0:=hid hq0;rw [← hq0] at SP;have HSa:=hid SP.1;have HSb:=hid SP.2.1;have HSc:=hid SP.2.2.1;have HSd:=hid SP.2.2.2.1;have HX:Hid (∀ x y,a≤x→x<mid→mid≤y→y<b→numL x0 (q0 x) (q0 y)):=(fun x y h3 h4 h5 h6=>by rw [hq0];exact SP.2.2.2.2 x y h3 h4 h5 h6:∀ x y,a≤x→x<mid→mid≤y→y<b→numL x0 (q0 x) (q0 y));have HRe0:Hid (Sym.Re a b p q0):=(by rw [hq0];exact (Sym.Re.rots p hae.2.1 hae.2.2.1).mono hae.1 hae.2.2.2.1:Sym.Re a b p q0);have HO:Hid (a≤mid∧mid≤b∧b≤N∧mid≤N∧a<mid∧mid<b∧e≤N):=⟨by omega,by omega,by omega,by omega,by omega,by omega,by omega⟩
    have HT2:Hid (∀ x y,a≤x→x<i→i≤y→y<mid→q0 x<q0 y):=(fun x y h3 h4 h5 h6=>by
     have h7:=rot_c (e:=e) hie hae.2.1 hae.2.2.1 h5 h6;rw [hq0]
     show p (Sym.rot i m e x)<p (Sym.rot i m e y)
     rw [rot_a h4]
     exact HT.out x _ h3 (by omega) h7.1 (by omega):∀ x y,a≤x→x<i→i≤y→y<mid→q0 x<q0 y)
    have HT3':Hid (∀ q1,Sym.Re a mid q0 q1→∀ x y,mid≤x→x<e→e≤y→y<b→q1 x<q1 y):=(fun q1 k x y h3 h4 h5 h6=>by
     have h7:=rot_d (e:=e) hie hae.2.1 hae.2.2.1 h3 h4;rw [k.out (.inr h3),k.out (.inr (by omega)),hq0]
     show p (Sym.rot i m e x)<p (Sym.rot i m e y)
     rw [rot_b h5]
     exact HT.out _ y (by omega) h7.2 (by omega) h6:∀ q1,Sym.Re a mid q0 q1→∀ x y,mid≤x→x<e→e≤y→y<b→q1 x<q1 y)
    have HT3:∀ {q1},Sym.Re a mid q0 q1→∀ x y,mid≤x→x<e→e≤y→y<b→q1 x<q1 y:=fun k=>HT3'.out _ k;have HL3:∀ {q1},Sym.Re a mid q0 q1→Sym.Srt (numL x0) q1 mid e:=fun k=>HSc.out.congr (fun x h3 h4=>k.out (.inr h3));have HL4:∀ {q1},Sym.Re a mid q0 q1→Sym.Srt (numL x0) q1 e b:=fun k=>HSd.out.congr (fun x h3 h4=>k.out (.inr (by omega)))
    have HN1:¬ (i<m∧m<e)→∀ x,p (Sym.rot i m e x)=p x:=fun h x=>by
     by_cases h3:i=m
     ·rw [h3,znB]
     ·have h4:e=m:=by omega
      rw [h4,znC]
    have HN2:¬ (a<i∧i<mid)→Sym.Srt (numL x0) q0 a mid:=fun h=>by
     by_cases h3:a=i
     ·rw [h3];exact HSb.out
     ·have h4:mid=i:=by omega
      rw [h4];exact HSa.out
    have HN3:∀ {q1},Sym.Re a mid q0 q1→¬ (mid<e∧e<b)→Sym.Srt (numL x0) q1 mid b:=fun k h=>by
     by_cases h3:mid=e
     ·rw [h3];rw [h3] at k;exact HSd.out.congr (fun x h3 h4=>k.out (.inr h3))
     ·have h4:b=e:=by omega
      rw [h4];exact HL3 k
    clear hF hNN hMID SP hq0 he
    rcases znA (i<m) (m<e) with h | h | h
    all_goals first
     | (
      have HK1:=hid h;have f1:=dT h.1;have g1:=dN h.1;have u1:(i:Int)<(m:Int):=Int.ofNat_lt.mpr h.1;have f1b:=dT h.2;have g1b:=dN h.2;have u1b:(m:Int)<(e:Int):=Int.ofNat_lt.mpr h.2;clear h;have CS:=zkF x0 enc p N blk cap lo hi wr HV.out hlo hN i m e (.func (.func 134) #[] #[]) HK1.out.1 HK1.out.2 (by have h9:=HO.out;omega)
      go_wp2_with fail
      refine CS.mono ?_;rintro ee wv ⟨rfl,V6,C6⟩;have HV1:Hid (RowsV x0 enc N blk cap lo hi wv q0):=(by rw [HQ0.out];exact V6:RowsV x0 enc N blk cap lo hi wv q0);have HC1:=hid (HC.out.trans C6)
      clear V6 C6 CS)
     | (
      have HK1:Hid (¬ (i<m∧m<e)):=fun k=>h.2 k.2;have f1:=dT h.1;have g1:=dN h.1;have u1:(i:Int)<(m:Int):=Int.ofNat_lt.mpr h.1;have f1b:=dF h.2;have g1b:=dM h.2;clear h;obtain ⟨wv,rfl⟩:∃ y,y=wr:=⟨_,rfl⟩;have HV1:Hid (RowsV x0 enc N blk cap lo hi wv q0):=(HV.out.same (fun x _=>by rw [HQ0.out];exact (HN1 HK1.out x).symm):RowsV x0 enc N blk cap lo hi wv q0)
      have HC1:Hid (ChgL [blk] w wv):=HC.out)
     | (
      have HK1:Hid (¬ (i<m∧m<e)):=fun k=>h k.1;have f1:=dF h;have g1:=dM h;clear h;obtain ⟨wv,rfl⟩:∃ y,y=wr:=⟨_,rfl⟩;have HV1:Hid (RowsV x0 enc N blk cap lo hi wv q0):=(HV.out.same (fun x _=>by rw [HQ0.out];exact (HN1 HK1.out x).symm):RowsV x0 enc N blk cap lo hi wv q0)
      have HC1:Hid (ChgL [blk] w wv):=HC.out)
    all_goals rcases znA (a<i) (i<mid) with h | h | h
    all_goals first
     | (
      have HK2:=hid h;have f2:=dT h.1;have g2:=dN h.1;have u2:(a:Int)<(i:Int):=Int.ofNat_lt.mpr h.1;have f2b:=dT h.2;have g2b:=dN h.2;have u2b:(i:Int)<(mid:Int):=Int.ofNat_lt.mpr h.2;clear h;have CS:=HIH.out q0 wv a i mid (by have h9:=HO.out;omega) HV1.out HK2.out.1 HK2.out.2 HO.out.2.2.2.1 HT2.out HSa.out HSb.out
      go_wp2_with fail
      refine CS.mono ?_;rintro ee wz ⟨rfl,q1,Vq,hRe1,hSo1,C7⟩;have HVq:=hid Vq;have HRe1:=hid hRe1;have HSo1:=hid hSo1;have HCq:=hid (HC1.out.trans C7)
      clear Vq hRe1 hSo1 C7 CS)
     | (
      have HK2:Hid (¬ (a<i∧i<mid)):=fun k=>h.2 k.2;have f2:=dT h.1;have g2:=dN h.1;have u2:(a:Int)<(i:Int):=Int.ofNat_lt.mpr h.1;have f2b:=dF h.2;have g2b:=dM h.2;clear h;obtain ⟨wz,rfl⟩:∃ y,y=wv:=⟨_,rfl⟩;obtain ⟨q1,hq1⟩:∃ q1,q1=q0:=⟨_,rfl⟩;have HVq:Hid (RowsV x0 enc N blk cap lo hi wz q1):=(by rw [hq1];exact HV1.out:RowsV x0 enc N blk cap lo hi wz q1);have HRe1:Hid (Sym.Re a mid q0 q1):=(by rw [hq1];exact Sym.Re.refl _ _ _:Sym.Re a mid q0 q1);have HSo1:Hid (Sym.Srt (numL x0) q1 a mid):=(by rw [hq1];exact HN2 HK2.out:Sym.Srt (numL x0) q1 a mid);have HCq:=hid HC1.out
      clear hq1)
     | (
      have HK2:Hid (¬ (a<i∧i<mid)):=fun k=>h k.1;have f2:=dF h;have g2:=dM h;clear h;obtain ⟨wz,rfl⟩:∃ y,y=wv:=⟨_,rfl⟩;obtain ⟨q1,hq1⟩:∃ q1,q1=q0:=⟨_,rfl⟩;have HVq:Hid (RowsV x0 enc N blk cap lo hi wz q1):=(by rw [hq1];exact HV1.out:RowsV x0 enc N blk cap lo hi wz q1);have HRe1:Hid (Sym.Re a mid q0 q1):=(by rw [hq1];exact Sym.Re.refl _ _ _:Sym.Re a mid q0 q1);have HSo1:Hid (Sym.Srt (numL x0) q1 a mid):=(by rw [hq1];exact HN2 HK2.out:Sym.Srt (numL x0) q1 a mid);have HCq:=hid HC1.out
      clear hq1)
    all_goals rcases znA (mid<e) (e<b) with h | h | h
    all_goals first
     | (
      have HK3:=hid h;have f3:=dT h.1;have g3:=dN h.1;have u3:(mid:Int)<(e:Int):=Int.ofNat_lt.mpr h.1;have f3b:=dT h.2;have g3b:=dN h.2;have u3b:(e:Int)<(b:Int):=Int.ofNat_lt.mpr h.2;clear h;have CS:=HIH.out q1 wz mid e b (by have h9:=HO.out;omega) HVq.out HK3.out.1 HK3.out.2 HO.out.2.2.1 (HT3 HRe1.out) (HL3 HRe1.out) (HL4 HRe1.out)
      go_wp2_with fail
      refine CS.mono ?_;rintro ee wx ⟨rfl,r,Vr,hRe2,hSo2,C9⟩;have HVr:=hid Vr;have HRe2:=hid hRe2;have HSo2:=hid hSo2;have HCr:=hid (HCq.out.trans C9)
      clear Vr hRe2 hSo2 C9 CS)
     | (
      have HK3:Hid (¬ (mid<e∧e<b)):=fun k=>h.2 k.2;have f3:=dT h.1;have g3:=dN h.1;have u3:(mid:Int)<(e:Int):=Int.ofNat_lt.mpr h.1;have f3b:=dF h.2;have g3b:=dM h.2;clear h;obtain ⟨wx,rfl⟩:∃ y,y=wz:=⟨_,rfl⟩;obtain ⟨r,hr⟩:∃ r,r=q1:=⟨_,rfl⟩;have HVr:Hid (RowsV x0 enc N blk cap lo hi wx r):=(by rw [hr];exact HVq.out:RowsV x0 enc N blk cap lo hi wx r);have HRe2:Hid (Sym.Re mid b q1 r):=(by rw [hr];exact Sym.Re.refl _ _ _:Sym.Re mid b q1 r);have HSo2:Hid (Sym.Srt (numL x0) r mid b):=(by rw [hr];exact HN3 HRe1.out HK3.out:Sym.Srt (numL x0) r mid b);have HCr:=hid HCq.out
      clear hr)
     | (
      have HK3:Hid (¬ (mid<e∧e<b)):=fun k=>h k.1;have f3:=dF h;have g3:=dM h;clear h;obtain ⟨wx,rfl⟩:∃ y,y=wz:=⟨_,rfl⟩;obtain ⟨r,hr⟩:∃ r,r=q1:=⟨_,rfl⟩;have HVr:Hid (RowsV x0 enc N blk cap lo hi wx r):=(by rw [hr];exact HVq.out:RowsV x0 enc N blk cap lo hi wx r);have HRe2:Hid (Sym.Re mid b q1 r):=(by rw [hr];exact Sym.Re.refl _ _ _:Sym.Re mid b q1 r);have HSo2:Hid (Sym.Srt (numL x0) r mid b):=(by rw [hr];exact HN3 HRe1.out HK3.out:Sym.Srt (numL x0) r mid b);have HCr:=hid HCq.out
      clear hr)
    all_goals
     go_wp2
     go_end0
     have hl:=Sym.halves HO.out.1 HO.out.2.1 HX.out HRe1.out HRe2.out HSo1.out HSo2.out;exact ⟨rfl,_,HVr.out,HRe0.out.trans hl.2,hl.1,HCr.out⟩
theorem zgw (x0:Nat→RecD) (enc:Nat→List Value) (N blk cap lo hi:Nat) (hlo:hi≤lo) (hN:N<1000000000):∀ (n:Nat) (p:Nat→Nat) (w:World) (a m b:Nat),b-a≤n→RowsV x0 enc N blk cap lo hi w p→a<m→m<b→b≤N→(∀ i j,a≤i→i<m→m≤j→j<b→p i<p j)→Sym.Srt (numL x0) p a m→Sym.Srt (numL x0) p m b→Calls Tryz.prog 194 #[.slice (some ⟨blk,0,none⟩) N cap,.int .i64 a,.int .i64 m,.int .i64 b,.func (.func 134) #[] #[]] w (fun e w'=>e=.returned (.tuple #[])∧∃ q,RowsV x0 enc N blk cap lo hi w' q∧Sym.Re a b p q∧Sym.Srt (numL x0) q a b∧ChgL [blk] w w')
 | 0,p,w,a,m,b,h,V,ham,hmb,hb,ht,h1,h2=>by omega
 | n+1,p,w,a,m,b,h,V,ham,hmb,hb,ht,h1,h2=>by
  have IH:∀ (p':Nat→Nat) (w':World) (a' m' b':Nat),b'-a'<b-a→RowsV x0 enc N blk cap lo hi w' p'→a'<m'→m'<b'→b'≤N→(∀ i j,a'≤i→i<m'→m'≤j→j<b'→p' i<p' j)→Sym.Srt (numL x0) p' a' m'→Sym.Srt (numL x0) p' m' b'→Calls Tryz.prog 194 #[.slice (some ⟨blk,0,none⟩) N cap,.int .i64 a',.int .i64 m',.int .i64 b',.func (.func 134) #[] #[]] w' (fun e w''=>e=.returned (.tuple #[])∧∃ q,RowsV x0 enc N blk cap lo hi w'' q∧Sym.Re a' b' p' q∧Sym.Srt (numL x0) q a' b'∧ChgL [blk] w' w''):=fun p' w' a' m' b' h' V'=>zgw x0 enc N blk cap lo hi hlo hN n p' w' a' m' b' (by omega) V'
  by_cases c1:m=a+1
  ·exact zkN x0 enc p N blk cap lo hi w V hlo hN a m b ham hmb hb ht h1 h2 c1
  ·by_cases c2:b=m+1
   ·exact zkO x0 enc p N blk cap lo hi w V hlo hN a m b ham hmb hb ht h1 h2 c1 c2
   ·by_cases c3:(a+b)/2<m
    ·exact zgv x0 enc p N blk cap lo hi w V hlo hN a m b _ ham hmb hb ht h1 h2 c1 c2 rfl (.inl c3) IH
    ·exact zgv x0 enc p N blk cap lo hi w V hlo hN a m b _ ham hmb hb ht h1 h2 c1 c2 rfl (.inr (by omega)) IH
theorem zeX (x0:Nat→RecD) (enc:Nat→List Value) (p:Nat→Nat) (N blk cap lo hi:Nat) (w:World) (V:RowsV x0 enc N blk cap lo hi w p) (hlo:hi≤lo) (hN:N<1000000000) (a m b:Nat) (ham:a<m) (hmb:m<b) (hb:b≤N) (htag:∀ i j,a≤i→i<m→m≤j→j<b→p i<p j) (hs1:Sym.Srt (numL x0) p a m) (hs2:Sym.Srt (numL x0) p m b):Calls Tryz.prog 194 #[.slice (some ⟨blk,0,none⟩) N cap,.int .i64 a,.int .i64 m,.int .i64 b,.func (.func 134) #[] #[]] w (fun e w'=>e=.returned (.tuple #[])∧∃ q,RowsV x0 enc N blk cap lo hi w' q∧Sym.Re a b p q∧Sym.Srt (numL x0) q a b∧ChgL [blk] w w'):=zgw x0 enc N blk cap lo hi hlo hN (b-a) p w a m b (Nat.le_refl _) V ham hmb hb htag hs1 hs2
structure Good (lt:Nat→Nat→Prop) (q:Nat→Nat) (a b:Nat):Prop where
 srt:Sym.Srt lt q a b
 own:∀ i,a≤i→i<b→a≤q i∧q i<b
theorem Good.congr {lt:Nat→Nat→Prop} {q q':Nat→Nat} {a b:Nat} (h:Good lt q a b) (e:∀ i,a≤i→i<b→q' i=q i):Good lt q' a b:=⟨h.srt.congr e,fun i h1 h2=>by rw [e i h1 h2];exact h.own i h1 h2⟩
inductive Blks (lt:Nat→Nat→Prop) (q:Nat→Nat) (s N:Nat):Nat→Prop
 | nil {a:Nat} (h:N≤a):Blks lt q s N a
 | cons {a:Nat} (h:a<N) (g:Good lt q a (min (a+s) N)) (r:Blks lt q s N (a+s)):Blks lt q s N a
theorem Blks.congr {lt:Nat→Nat→Prop} {q q':Nat→Nat} {s N a:Nat} (h:Blks lt q s N a) (e:∀ i,a≤i→q' i=q i):Blks lt q' s N a:=by
 induction h with
 | nil h=>exact .nil h
 | cons h g r ih=>exact .cons h (g.congr fun i h1 _=>e i h1) (ih fun i h1=>e i (by omega))
inductive Done (lt:Nat→Nat→Prop) (q:Nat→Nat) (s:Nat):Nat→Prop
 | zero:Done lt q s 0
 | snoc {a:Nat} (r:Done lt q s a) (g:Good lt q a (a+s)):Done lt q s (a+s)
theorem Done.congr {lt:Nat→Nat→Prop} {q q':Nat→Nat} {s a:Nat} (h:Done lt q s a) (e:∀ i,i<a→q' i=q i):Done lt q' s a:=by
 induction h with
 | zero=>exact .zero
 | snoc r g ih=>exact .snoc (ih fun i h1=>e i (by omega)) (g.congr fun i _ h2=>e i h2)
theorem Done.app {lt:Nat→Nat→Prop} {q:Nat→Nat} {s N a:Nat} (hs:0<s) (h:Done lt q s a) (hN:a≤N) (b:Blks lt q s N a):Blks lt q s N 0:=by
 induction h with
 | zero=>exact b
 | snoc r g ih=>exact ih (by omega) (.cons (by omega) (by rw [Nat.min_eq_left hN];exact g) b)
theorem Blks.last {lt:Nat→Nat→Prop} {q:Nat→Nat} {s N a:Nat} (g:Good lt q a N) (h:N≤a+s):Blks lt q s N a:=by
 by_cases c:a<N
 ·exact .cons c (by rw [Nat.min_eq_right h];exact g) (.nil h)
 ·exact .nil (by omega)
theorem Blks.all {lt:Nat→Nat→Prop} {q:Nat→Nat} {s N:Nat} (h:Blks lt q s N 0) (hs:N≤s):Sym.Srt lt q 0 N:=by
 cases h with
 | nil h=>exact fun i j _ _ h3=>by omega
 | cons h g r=>
  have:=g.srt;rw [Nat.min_eq_right (by omega)] at this;exact this
theorem Blks.open {lt:Nat→Nat→Prop} {q:Nat→Nat} {s N a:Nat} (h:Blks lt q s N a) (ha:a<N):Good lt q a (min (a+s) N)∧Blks lt q s N (a+s):=by
 cases h with
 | nil h=>omega
 | cons h g r=>exact ⟨g,r⟩
theorem Good.merged {lt:Nat→Nat→Prop} {q q':Nat→Nat} {a m b:Nat} (g1:Good lt q a m) (g2:Good lt q m b) (am:a≤m) (mb:m≤b) (k:Sym.Re a b q q') (s:Sym.Srt lt q' a b):Good lt q' a b:=⟨s,fun i h1 h2=>by
 obtain ⟨j,hj,e⟩:=k.from ⟨h1,h2⟩
 rw [e]
 by_cases c:j<m
 ·have:=g1.own j hj.1 c
  omega
 ·have:=g2.own j (by omega) hj.2
  omega⟩
theorem Good.tags {lt:Nat→Nat→Prop} {q:Nat→Nat} {a m b:Nat} (g1:Good lt q a m) (g2:Good lt q m b):∀ i j,a≤i→i<m→m≤j→j<b→q i<q j:=fun i j h1 h2 h3 h4=>by
 have:=g1.own i h1 h2;have:=g2.own j h3 h4;omega
theorem Good.fresh {lt:Nat→Nat→Prop} {q q':Nat→Nat} {a b:Nat} (e:∀ i,a≤i→q i=i) (k:Sym.Re a b q q') (s:Sym.Srt lt q' a b):Good lt q' a b:=⟨s,fun i h1 h2=>by
 obtain ⟨j,hj,e1⟩:=k.from ⟨h1,h2⟩
 rw [e1,e j hj.1]
 exact hj⟩
set_option maxRecDepth 1000000 in
theorem zkP (x0:Nat→RecD) (enc:Nat→List Value) (N blk cap lo hi:Nat) (w:World) (V:RowsV x0 enc N blk cap lo hi w (fun i=>i)) (hlo:hi≤lo) (hN:N<1000000000) :
 Calls Tryz.prog 167 #[.slice (some ⟨blk,0,none⟩) N cap,.int .i64 N,.func (.func 134) #[] #[]] w (fun e w'=>e=.returned (.tuple #[])∧∃ q,RowsV x0 enc N blk cap lo hi w' q∧Sym.Re 0 N (fun i=>i) q∧Sym.Srt (numL x0) q 0 N∧ChgL [blk] w w'):=by
 have HV0:Hid (RowsV x0 enc N blk cap lo hi w (fun i=>i)):=V;clear V
 go_enter Tryz.func167,Tryz.ntmps167
 go_wp2
 go_loopw [7,8] (fun va vb wr=>∃ (a B:Nat) (q:Nat→Nat),B=a+20∧a≤N∧va=.int .i64 a∧vb=.int .i64 B∧RowsV x0 enc N blk cap lo hi wr q∧Done (numL x0) q 20 a∧(∀ i,a≤i→q i=i)∧Sym.Re 0 N (fun i=>i) q∧ChgL [blk] w wr) (fun va _ _=>N-(intOf va).toNat)
 case atStart=>exact ⟨0,20,(fun i=>i),rfl,Nat.zero_le _,by go_num,by go_num,HV0.out,.zero,fun i _=>rfl,Sym.Re.refl _ _ _,ChgL.refl _ _⟩
 case round=>
  obtain ⟨a,B,q,hB,haN,rfl,rfl,V,hD,hid,hRe,C⟩:=hrel;have HC:Hid (ChgL [blk] w wr):=C;have HD:Hid (Done (numL x0) q 20 a):=hD;have HI:Hid (∀ i,a≤i→q i=i):=hid;have HRe:Hid (Sym.Re 0 N (fun i=>i) q):=hRe;have HB:Hid (B=a+20):=hB;clear C hD hid hRe
  have w1:IntKind.i64.wrap ((B:Int)+20)=((B+20:Nat):Int):=by rw [IntKind.wrap_i64];omega
  by_cases hlt:B≤N
  ·have t1:(B:Int)≤(N:Int):=by omega
   have CS:=zet x0 enc q N blk cap lo hi wr V hlo hN a B (by omega) hlt (fun i j h1 h2 h3=>by rw [HI.out i h1,HI.out j (by omega)];exact h2);clear V hB
   go_wp2_with fail
   refine CS.mono ?_;rintro ee w2 ⟨rfl,q2,V2,hRe2,hS2,C2⟩;have HV2:Hid (RowsV x0 enc N blk cap lo hi w2 q2):=V2;have HRe2:Hid (Sym.Re a B q q2):=hRe2;have HS2:Hid (Sym.Srt (numL x0) q2 a B):=hS2;have HC2:Hid (ChgL [blk] w w2):=HC.out.trans C2;clear V2 hRe2 hS2 C2 CS;go_wp2
   go_roundw
   case rel=>
    have hB:=HB.out;have hk:=HRe2.out;exact ⟨B,B+20,q2,rfl,hlt,rfl,by go_num,HV2.out,by rw [hB] at hk ⊢;exact .snoc (HD.out.congr fun i h1=>hk.out (.inl h1)) (Good.fresh HI.out hk (by rw [← hB];exact HS2.out)),fun i h1=>by rw [hk.out (.inr h1)];exact HI.out i (by omega),HRe.out.trans (hk.mono (Nat.zero_le _) hlt),HC2.out⟩
   case measure=>have hB:=HB.out;simp [intOf];omega
  ·have HNL:Hid (¬ B≤N):=hlt
   have f1:decide ((B:Int)≤(N:Int))=false:=decide_eq_false (by omega);have g1:decide (B≤N)=false:=decide_eq_false hlt;have CS:=zet x0 enc q N blk cap lo hi wr V hlo hN a N haN (Nat.le_refl _) (fun i j h1 h2 h3=>by rw [HI.out i h1,HI.out j (by omega)];exact h2);clear V hB w1 hlt
   go_wp2_with fail
   refine CS.mono ?_;rintro ee w2 ⟨rfl,q2,V2,hRe2,hS2,C2⟩;have HV2:Hid (RowsV x0 enc N blk cap lo hi w2 q2):=V2;have HRe2:Hid (Sym.Re a N q q2):=hRe2;have HS2:Hid (Sym.Srt (numL x0) q2 a N):=hS2;have HC2:Hid (ChgL [blk] w w2):=HC.out.trans C2;clear V2 hRe2 hS2 C2 CS;have HBl:Hid (Blks (numL x0) q2 20 N 0):=Done.app (by decide) (HD.out.congr fun i h1=>HRe2.out.out (.inl h1)) haN (Blks.last (Good.fresh HI.out HRe2.out HS2.out) (by have h1:=HB.out;have h2:=HNL.out;omega));have HReN:Hid (Sym.Re 0 N (fun i=>i) q2):=HRe.out.trans (HRe2.out.mono (Nat.zero_le _) (Nat.le_refl _));clear HD HI HRe HRe2 HS2 HC HNL HB f1 g1;go_wp2
   go_loopw [6] (fun vs wr=>∃ (s:Nat) (q:Nat→Nat),20≤s∧s<2000000000∧vs=.int .i64 s∧RowsV x0 enc N blk cap lo hi wr q∧Blks (numL x0) q s N 0∧Sym.Re 0 N (fun i=>i) q∧ChgL [blk] w wr) (fun vs _=>N-(intOf vs).toNat)
   case atStart=>exact ⟨20,q2,Nat.le_refl _,by decide,by go_num,HV2.out,HBl.out,HReN.out,HC2.out⟩
   case round=>
    obtain ⟨s,q3,hs20,hs2,rfl,V,hBl,hRe,C⟩:=hrel;have HVs:Hid (RowsV x0 enc N blk cap lo hi wr q3):=V;have HCs:Hid (ChgL [blk] w wr):=C;have HBs:Hid (Blks (numL x0) q3 s N 0):=hBl;have HRes:Hid (Sym.Re 0 N (fun i=>i) q3):=hRe;clear C hBl hRe V HV2 HBl HReN HC2
    by_cases hlt:s<N
    ·have t2:(s:Int)<(N:Int):=by omega
     obtain ⟨T,hT⟩:∃ T,T=2*s:=⟨_,rfl⟩;have HT:Hid (T=2*s):=hT
     have w2:IntKind.i64.wrap (2*(s:Int))=(T:Int):=by rw [IntKind.wrap_i64];omega
     have w3:IntKind.i64.wrap ((s:Int)*2)=(T:Int):=by rw [IntKind.wrap_i64];omega
     clear hT;go_wp2
     go_loopw [7,8] (fun va vb wr=>∃ (a B:Nat) (q:Nat→Nat),B=a+T∧a≤N∧va=.int .i64 a∧vb=.int .i64 B∧RowsV x0 enc N blk cap lo hi wr q∧Done (numL x0) q T a∧Blks (numL x0) q s N a∧Sym.Re 0 N (fun i=>i) q∧ChgL [blk] w wr) (fun va _ _=>N-(intOf va).toNat)
     case atStart=>exact ⟨0,T,q3,by omega,Nat.zero_le _,by go_num,by go_num,HVs.out,.zero,HBs.out,HRes.out,HCs.out⟩
     case round=>
      obtain ⟨a,B,q4,hB,haN,rfl,rfl,V,hD,hBl,hRe,C⟩:=hrel;have hT:=HT.out;have HC:Hid (ChgL [blk] w wr):=C;have HD:Hid (Done (numL x0) q4 T a):=hD;have HBl:Hid (Blks (numL x0) q4 s N a):=hBl;have HRe:Hid (Sym.Re 0 N (fun i=>i) q4):=hRe;have HB:Hid (B=a+T):=hB;have HV4:Hid (RowsV x0 enc N blk cap lo hi wr q4):=V;clear C hD hBl hRe HVs HBs HRes HCs V;obtain ⟨M,hM⟩:∃ M,M=a+s:=⟨_,rfl⟩;have HM:Hid (M=a+s):=hM
      have w4:IntKind.i64.wrap ((a:Int)+(s:Int))=(M:Int):=by rw [IntKind.wrap_i64];omega
      have w5:IntKind.i64.wrap ((B:Int)+(T:Int))=((B+T:Nat):Int):=by rw [IntKind.wrap_i64];omega
      by_cases hle:B≤N
      ·have t3:(B:Int)≤(N:Int):=by omega
       have o1:=HBl.out.open (by omega);rw [← hM] at o1;have o2:=o1.2.open (by omega);rw [Nat.min_eq_left (by omega)] at o1;rw [show M+s=B by omega,Nat.min_eq_left hle] at o2;have HG1:Hid (Good (numL x0) q4 a M):=o1.1;have HG2:Hid (Good (numL x0) q4 M B):=o2.1;have HBr:Hid (Blks (numL x0) q4 s N B):=o2.2;have CS:=zeX x0 enc q4 N blk cap lo hi wr HV4.out hlo hN a M B (by omega) (by omega) hle (HG1.out.tags HG2.out) HG1.out.srt HG2.out.srt;clear o1 o2 hB hM hT
       go_wp2_with fail
       refine CS.mono ?_;rintro ee w9 ⟨rfl,q5,V2,hRe2,hS2,C2⟩;have HV2:Hid (RowsV x0 enc N blk cap lo hi w9 q5):=V2;have HRe2:Hid (Sym.Re a B q4 q5):=hRe2;have HS2:Hid (Sym.Srt (numL x0) q5 a B):=hS2;have HC2:Hid (ChgL [blk] w w9):=HC.out.trans C2;clear V2 hRe2 hS2 C2 CS;go_wp2
       go_roundw
       case rel=>
        have hB:=HB.out;have hM:=HM.out;have hT:=HT.out;have hk:=HRe2.out
        exact ⟨B,B+T,q5,rfl,hle,rfl,by go_num,HV2.out,by
         have g:=HG1.out.merged HG2.out (by omega) (by omega) hk HS2.out;rw [hB] at hk g ⊢
         exact .snoc (HD.out.congr fun i h1=>hk.out (.inl h1)) g,HBr.out.congr (fun i h1=>hk.out (.inr h1)),HRe.out.trans (hk.mono (Nat.zero_le _) hle),HC2.out⟩
       case measure=>have hB:=HB.out;have hT:=HT.out;simp [intOf];omega
      ·have HNL:Hid (¬ B≤N):=hle
       have f1:decide ((B:Int)≤(N:Int))=false:=decide_eq_false (by omega);have g1:decide (B≤N)=false:=decide_eq_false hle
       by_cases hm:M<N
       ·have t3:(M:Int)<(N:Int):=by omega
        have o1:=HBl.out.open (by omega);rw [← hM] at o1;have o2:=o1.2.open (by omega);rw [Nat.min_eq_left (by omega)] at o1;rw [Nat.min_eq_right (by omega)] at o2;have HG1:Hid (Good (numL x0) q4 a M):=o1.1;have HG2:Hid (Good (numL x0) q4 M N):=o2.1;have CS:=zeX x0 enc q4 N blk cap lo hi wr HV4.out hlo hN a M N (by omega) hm (Nat.le_refl _) (HG1.out.tags HG2.out) HG1.out.srt HG2.out.srt;clear o1 o2 hB hM hT hle
        go_wp2_with fail
        refine CS.mono ?_;rintro ee w9 ⟨rfl,q5,V2,hRe2,hS2,C2⟩;have HV2:Hid (RowsV x0 enc N blk cap lo hi w9 q5):=V2;have HRe2:Hid (Sym.Re a N q4 q5):=hRe2;have HS2:Hid (Sym.Srt (numL x0) q5 a N):=hS2;have HC2:Hid (ChgL [blk] w w9):=HC.out.trans C2;clear V2 hRe2 hS2 C2 CS;go_wp2
        go_roundw
        case rel=>
         have hB:=HB.out;have hM:=HM.out;have hT:=HT.out;have hNL:=HNL.out;have hk:=HRe2.out;exact ⟨T,q5,by omega,by omega,by go_num,HV2.out,Done.app (by omega) (HD.out.congr fun i h1=>hk.out (.inl h1)) haN (Blks.last (HG1.out.merged HG2.out (by omega) (by omega) hk HS2.out) (by omega)),HRe.out.trans (hk.mono (Nat.zero_le _) (Nat.le_refl _)),HC2.out⟩
        case measure=>have hT:=HT.out;simp [intOf];omega
       ·have f2:decide ((M:Int)<(N:Int))=false:=decide_eq_false (by omega)
        have g2:decide (M<N)=false:=decide_eq_false hm
        have HBT:Hid (Blks (numL x0) q4 T N a):=(by
         by_cases c:a<N
         ·have o1:=(HBl.out.open c).1
          rw [Nat.min_eq_right (by omega)] at o1;exact Blks.last o1 (by omega)
         ·exact .nil (by omega):Blks (numL x0) q4 T N a)
        clear hB hM hT hle hm;go_wp2
        go_roundw
        case rel=>have hT:=HT.out;exact ⟨T,q4,by omega,by omega,by go_num,HV4.out,Done.app (by omega) HD.out haN HBT.out,HRe.out,HC.out⟩
        case measure=>have hT:=HT.out;simp [intOf];omega
    ·have f2:decide ((s:Int)<(N:Int))=false:=decide_eq_false (by omega)
     have g2:decide (s<N)=false:=decide_eq_false hlt;have HNL:Hid (N≤s):=(by omega:N≤s);clear hlt;go_wp2
     go_end0
     exact ⟨rfl,q3,HVs.out,HRes.out,HBs.out.all HNL.out,HCs.out⟩
set_option maxRecDepth 1000000 in
theorem zf9 (x0:Nat→RecD) (enc:Nat→List Value) (N blk cap lo hi:Nat) (w:World) (V:RowsV x0 enc N blk cap lo hi w (fun i=>i)) (hlo:hi≤lo) (hN:N<1000000000) :
 Calls Tryz.prog 133 #[.slice (some ⟨blk,0,none⟩) N cap,.func (.func 134) #[] #[]] w (fun e w'=>e=.returned (.tuple #[])∧∃ q,RowsV x0 enc N blk cap lo hi w' q∧Sym.Re 0 N (fun i=>i) q∧Sym.Srt (numL x0) q 0 N∧ChgL [blk] w w'):=by
 have CS:=zkP x0 enc N blk cap lo hi w V hlo hN;clear V
 go_enter Tryz.func133,Tryz.ntmps133
 go_wp2_with fail
 refine CS.mono ?_;rintro ee w2 ⟨rfl,q,V2,hRe,hS,C⟩;have HV2:=hid V2;have HRe:=hid hRe;have HS:=hid hS;have HC:=hid C;clear V2 hRe hS C CS;go_wp2
 go_end0
 exact ⟨rfl,q,HV2.out,HRe.out,HS.out,HC.out⟩
set_option maxRecDepth 1000000 in
theorem zg7 (w:World):Calls Tryz.prog 193 #[.slice none 0 0,.int .i64 0,.int .i64 0,.func (.func 134) #[] #[]] w (fun e w'=>e=.returned (.tuple #[])∧Below w.heap.size w w'):=by
 go_enter Tryz.func193,Tryz.ntmps193
 go_wp2
 go_loopw [8] (fun vi wr=>vi=.int .i64 1∧Below w.heap.size w wr) (fun _ _=>0)
 case atStart=>exact ⟨by go_num,⟨rfl,rfl,rfl,Nat.le_refl _,fun _ _=>rfl⟩⟩
 case round=>
  obtain ⟨rfl,hb⟩:=hrel;go_wp2
  go_end0
  exact ⟨rfl,hb⟩
set_option maxRecDepth 1000000 in
theorem zkQ (w:World):Calls Tryz.prog 167 #[.slice none 0 0,.int .i64 0,.func (.func 134) #[] #[]] w (fun e w'=>e=.returned (.tuple #[])∧Below w.heap.size w w'):=by
 have CS:=zg7 w
 go_enter Tryz.func167,Tryz.ntmps167
 go_wp2
 go_loopw [7,8] (fun va vb wr=>va=.int .i64 0∧vb=.int .i64 20∧wr=w) (fun _ _ _=>0)
 case atStart=>exact ⟨by go_num,by go_num,rfl⟩
 case round=>
  obtain ⟨rfl,rfl,rfl⟩:=hrel
  go_wp2_with fail
  refine CS.mono ?_;rintro ee w2 ⟨rfl,hb⟩;have HB:=hid hb;clear hb CS;go_wp2
  go_loopw [6] (fun vs w'=>vs=.int .i64 20∧Below wr.heap.size wr w') (fun _ _=>0)
  case atStart=>exact ⟨by go_num,HB.out⟩
  case round=>
   obtain ⟨rfl,hb⟩:=hrel;go_wp2
   go_end0
   exact ⟨rfl,hb⟩
set_option maxRecDepth 1000000 in
theorem zga (w:World):Calls Tryz.prog 133 #[.slice none 0 0,.func (.func 134) #[] #[]] w (fun e w'=>e=.returned (.tuple #[])∧Below w.heap.size w w'):=by
 have CS:=zkQ w
 go_enter Tryz.func133,Tryz.ntmps133
 go_wp2_with fail
 refine CS.mono ?_;rintro ee w2 ⟨rfl,hb⟩;go_wp2
 go_end0
 exact ⟨rfl,hb⟩
theorem zeu:(Tryz.prog.info? 85).map (·.size)=some 9:=by kernel_rfl
set_option maxRecDepth 100000 in
theorem zkR (a r:RecD) (ca cr:List Value) (hi p:Nat) (w:World) (ha:zab.rd w hi a ca) (hr:zab.rd w hi r cr) (hB:Box w p cr.toArray 85) (hhi:hi≤w.heap.size) :
 Calls Tryz.prog 171 #[.agg ca.toArray,.pointer (some ⟨p,0,none⟩)] w (zba (SameR a r) w):=by
 have hpl:=hB.lt;have B0:=zaK w ca.toArray 85;have HB0:=hid B0.bel;have X1:Box (w.alloc (.cells ca.toArray 85)) w.heap.size ca.toArray 85:=B0.b1;have X2:Box (w.alloc (.cells ca.toArray 85)) p cr.toArray 85:=hB.below B0.bel hpl;have CS:=zeW a r ca cr hi hi (w.alloc (.cells ca.toArray 85)) (zab.rd_below ha B0.bel hhi) (zab.rd_below hr B0.bel hhi) (Nat.le_trans hhi B0.bel.size) (Nat.le_trans hhi B0.bel.size);obtain ⟨a6,ak6,a7,ak7,a8,ak8,rfl,-⟩:=zaD ha;obtain ⟨b6,bk6,b7,bk7,b8,bk8,rfl,-⟩:=zaD hr;clear B0 hB
 go_enter Tryz.func171,Tryz.ntmps171
 go_wp2_with (first | (refine zav 85 (.tmp 2) rfl rfl (w.heap.size) rfl X1 Tryz.underlying85 zeu rfl ?_) | (refine zav 85 (.tmp 1) rfl rfl p rfl X2 Tryz.underlying85 zeu rfl ?_))
 refine CS.mono ?_;rintro e w1 ⟨t,rfl,ht,b1⟩;have HB1:=hid (HB0.out.trans (b1.mono HB0.out.size));have HT:=hid ht;clear CS b1 ht X1 X2;go_wp2;go_ret;exact ⟨t,rfl,HT.out,HB1.out⟩
set_option maxRecDepth 100000 in
theorem zg8 (v:Value) (m:Nat) (y:Nat→RecD) (r:RecD) (cr:List Value) (hi p:Nat) (w:World) (h:(zab.slice 85).rd w hi (m,y) [v]) (hr:zab.rd w hi r cr) (hB:Box w p cr.toArray 85) (hhi:hi≤w.heap.size) (hm:m≤1048576) :
 Calls Tryz.prog 139 #[v,.func (.func 171) #[] #[.pointer (some ⟨p,0,none⟩)]] w fun e w'=>((e=.returned (.int .i64 (-1))∧∀ i,i<m→¬ SameR (y i) r)∨∃ i:Nat,i<m∧e=.returned (.int .i64 (i:Int))∧SameR (y i) r)∧Below w.heap.size w w':=by
 obtain ⟨ao,cap,e,hmm,hc⟩:=h
 obtain rfl:v=.slice ao m cap:=by simpa using e
 have hpl:=hB.lt;have HBx:=hid hB;have HR:=hid hr;have HCC:=hc;have HC:=hid hc;clear hB hr e hmm hc HCC
 go_enter Tryz.func139,Tryz.ntmps139
 go_wp2
 go_loopw [8] (fun z wr=>∃ k:Nat,k≤m∧z=.int .i64 k∧(∀ t,t<k→¬ SameR (y t) r)∧Below w.heap.size w wr) (fun z _=>m-(intOf z).toNat)
 case atStart=>exact ⟨0,Nat.zero_le _,rfl,fun t ht=>by omega,Below.refl _ _⟩
 case round=>
  obtain ⟨k,hk,rfl,hall,hbl⟩:=hrel;obtain ⟨wx,rfl⟩:∃ y,y=wr:=⟨_,rfl⟩;have HALL:=hid hall;have HBL:=hid hbl;have zx:=hbl.size;clear hall
  by_cases hlt:k<m
  ·obtain ⟨b,off,rfl,hbh,hel⟩:=HC.out (by omega)
   obtain ⟨ce,hy,hcell⟩:=zat (t:=85) hel hbl hhi hbh hlt;have CS:=zkR (y k) r ce cr hi p wx hy (zab.rd_below HR.out hbl hhi) (HBx.out.below hbl hpl) (by omega);obtain ⟨c6,ck6,c7,ck7,c8,ck8,rfl,-⟩:=zaD hy;have hcell:∀ j,j<9→wx.cell? ⟨b,off+(k*9+j),none⟩=[.int .i64 (y k).kind,.int .i64 (y k).seq,.string (y k).name,.int .i64 (y k).length,.int .i64 (y k).group,.int .i64 (y k).row,.slice c6 (y k).rows.1 ck6,.slice c7 (y k).data.1 ck7,.slice c8 (y k).delta.1 ck8][j]?:=hcell
   have s_0:wx.cell? ⟨b,off+k*9,none⟩=some (.int .i64 (y k).kind):=by have:=hcell 0 (by decide);rw [← Nat.add_assoc] at this;exact this
   have s_1:wx.cell? ⟨b,off+k*9+1,none⟩=some (.int .i64 (y k).seq):=by have:=hcell 1 (by decide);rw [← Nat.add_assoc] at this;exact this
   have s_2:wx.cell? ⟨b,off+k*9+2,none⟩=some (.string (y k).name):=by have:=hcell 2 (by decide);rw [← Nat.add_assoc] at this;exact this
   have s_3:wx.cell? ⟨b,off+k*9+3,none⟩=some (.int .i64 (y k).length):=by have:=hcell 3 (by decide);rw [← Nat.add_assoc] at this;exact this
   have s_4:wx.cell? ⟨b,off+k*9+4,none⟩=some (.int .i64 (y k).group):=by have:=hcell 4 (by decide);rw [← Nat.add_assoc] at this;exact this
   have s_5:wx.cell? ⟨b,off+k*9+5,none⟩=some (.int .i64 (y k).row):=by have:=hcell 5 (by decide);rw [← Nat.add_assoc] at this;exact this
   have s_6:wx.cell? ⟨b,off+k*9+6,none⟩=some (.slice c6 (y k).rows.1 ck6):=by have:=hcell 6 (by decide);rw [← Nat.add_assoc] at this;exact this
   have s_7:wx.cell? ⟨b,off+k*9+7,none⟩=some (.slice c7 (y k).data.1 ck7):=by have:=hcell 7 (by decide);rw [← Nat.add_assoc] at this;exact this
   have s_8:wx.cell? ⟨b,off+k*9+8,none⟩=some (.slice c8 (y k).delta.1 ck8):=by have:=hcell 8 (by decide);rw [← Nat.add_assoc] at this;exact this
   have i1:(0:Int)≤(k:Int):=by omega
   have i2:(k:Int)<(m:Int):=by omega
   clear hbl hcell hel
   go_wp2_with fail
   refine CS.mono ?_;rintro e w5 ⟨t,rfl,ht,b5⟩;have B5:=hid (HBL.out.trans (b5.mono zx));have HT:=hid ht;clear b5 CS ht hy
   cases t with
   | true=>
    go_wp2;go_ret;exact ⟨.inr ⟨k,hlt,rfl,HT.out.1 (by simp)⟩,B5.out⟩
   | false=>
    go_wp2
    go_roundw
    case rel=>exact ⟨k+1,by omega,by go_num,fun t ht=>by
     by_cases c:t=k
     ·rw [c];intro hs;exact absurd (HT.out.2 hs) (by simp)
     ·exact HALL.out t (by omega),B5.out⟩
    case measure=>simp [intOf];omega
  ·obtain rfl:k=m:=by omega
   clear hbl;go_wp2;go_ret;exact ⟨.inl ⟨rfl,HALL.out⟩,HBL.out⟩
set_option maxRecDepth 100000 in
theorem ze3 (v:Value) (m:Nat) (y:Nat→RecD) (r:RecD) (cr:List Value) (hi p:Nat) (w:World) (h:(zab.slice 85).rd w hi (m,y) [v]) (hr:zab.rd w hi r cr) (hB:Box w p cr.toArray 85) (hhi:hi≤w.heap.size) (hm:m≤1048576) :
 Calls Tryz.prog 170 #[v,.func (.func 171) #[] #[.pointer (some ⟨p,0,none⟩)]] w (zba (∃ i,i<m∧SameR (y i) r) w):=by
 have CS:=zg8 v m y r cr hi p w h hr hB hhi hm;clear h hr hB
 go_enter Tryz.func170,Tryz.ntmps170
 go_wp2_with fail
 refine CS.mono ?_;rintro e w1 ⟨⟨rfl,hn⟩ | ⟨i,hi',rfl,hs⟩,b1⟩
 ·have HN:=hid hn
  have HB:=hid b1;clear hn b1 CS;go_wp2;go_ret;exact zau rfl (fun ⟨i,h1,h2⟩=>HN.out i h1 h2) HB.out
 ·have HS:=hid hs
  have HB:=hid b1
  have hd:decide ((0:Int)≤(i:Int))=true:=by simp
  clear hs b1 CS;go_wp2;go_ret;exact zaL (by simp) ⟨i,hi',HS.out⟩ HB.out
set_option maxRecDepth 100000 in
theorem zeL (v:Value) (m:Nat) (y:Nat→RecD) (r:RecD) (cr:List Value) (hi:Nat) (w:World) (h:(zab.slice 85).rd w hi (m,y) [v]) (hr:zab.rd w hi r cr) (hhi:hi≤w.heap.size) (hm:m≤1048576) :
 Calls Tryz.prog 135 #[v,.agg cr.toArray] w (zba (∃ i,i<m∧SameR (y i) r) w):=by
 have B0:=zaK w cr.toArray 85;have HB0:=hid B0.bel;have CS:=ze3 v m y r cr hi w.heap.size (w.alloc (.cells cr.toArray 85)) (Lay.rd_below _ h B0.bel hhi) (zab.rd_below hr B0.bel hhi) B0.b1 (Nat.le_trans hhi B0.bel.size) hm;obtain ⟨b6,bk6,b7,bk7,b8,bk8,rfl,-⟩:=zaD hr;clear B0 h
 go_enter Tryz.func135,Tryz.ntmps135
 go_wp2_with fail
 refine CS.mono ?_;rintro e w1 ⟨t,rfl,ht,b1⟩;have HB1:=hid (HB0.out.trans (b1.mono HB0.out.size));have HT:=hid ht;clear CS b1 ht;go_wp2;go_ret;exact ⟨t,rfl,HT.out,HB1.out⟩
def lenT (tp:Nat→TapeD):Nat→Nat
 | 0=>0
 | k+1=>lenT tp k+(tp k).recs.1
def recT (tp:Nat→TapeD):Nat→Nat→RecD
 | 0=>(tp 0).recs.2
 | k+1=>cat2 (recT tp k) (lenT tp k) (tp k).recs.2
theorem zlS (x0:Nat→RecD) (enc:Nat→List Value) (v:Value) (N lo hi:Nat) (w:World) (V:View zab 85 w lo hi v N x0 enc) (hlo:hi≤lo) (hN:N<1000000000) (hlw:lo≤w.heap.size) :
 Calls Tryz.prog 133 #[v,.func (.func 134) #[] #[]] w (fun e w'=>e=.returned (.tuple #[])∧∃ q,View zab 85 w' lo hi v N (fun i=>x0 (q i)) (fun i=>enc (q i))∧Sym.Re 0 N (fun i=>i) q∧Sym.Srt (numL x0) q 0 N∧Below lo w w'):=by
 rcases V.form2 with ⟨rfl,rfl⟩ | ⟨g,cap,rfl,hnc,hg⟩
 ·refine (zga w).mono fun e w' ⟨h1,h2⟩=>⟨h1,fun i=>i,V.below h2 (by omega),Sym.Re.refl _ _ _,fun i j _ _ h=>by omega,h2.mono hlw⟩
 ·have hlo':=V.row.lt g rfl
  refine (zf9 x0 enc N g cap lo hi w V hlo hN).mono fun e w' ⟨h1,q,h2,h3,h4,h5⟩=>⟨h1,q,h2,h3,h4,h5.bel (fun b hb=>by simp at hb;omega) hlw⟩
theorem zfM:(Tryz.prog.info? 85).map (fun i=>(i.zero.map (·.cells),i.size))=some (some #[.int .i64 0,.int .i64 0,.string ByteArray.empty,.int .i64 0,.int .i64 0,.int .i64 0,.slice none 0 0,.slice none 0 0,.slice none 0 0],9):=by kernel_rfl
set_option maxRecDepth 100000 in
theorem zg9 (tp:Nat→TapeD) (v:Value) (hi:Nat) (w:World) (h:(zaj.slice 80).rd w hi (2,tp) [v]) (hhi:hi≤w.heap.size) (hn0:(tp 0).recs.1≤400000) (hn1:(tp 1).recs.1≤400000) :
 Calls Tryz.prog 88 #[v] w (fun e w'=>∃ v' l ce lo,e=.returned v'∧Cnt (recT tp 2) (lenT tp 2) l∧w.heap.size≤lo∧View zab 85 w' lo hi v' l.length (fun i=>recT tp 2 (l.getD i 0)) ce∧Below w.heap.size w w'):=by
 obtain ⟨ao,cap,e,hmm,hc⟩:=h
 obtain rfl:v=.slice ao 2 cap:=by simpa using e
 obtain ⟨b,off,rfl,hbh,hel⟩:=hc (by simp);have hel:∀ i,i<2→∃ ce,zaj.rd w hi (tp i) ce∧∀ j,j<zaj.sz→w.cell? ⟨b,off+(i*zaj.sz+j),none⟩=ce[j]?:=hel;have HEL:=hid hel;clear e hmm hc hel
 go_enter Tryz.func88,Tryz.ntmps88
 go_wp2
 go_loopw [3,12] (fun va i wr=>∃ (k:Nat) (ce:Nat→List Value),k≤2∧i=.int .i64 k∧View zab 85 wr w.heap.size hi va (lenT tp k) (recT tp k) ce∧Below w.heap.size w wr) (fun _ i _=>2-(intOf i).toNat)
 case atStart=>exact ⟨0,fun _=>[],by omega,rfl,View.nil _ _ _ _ _,Below.refl _ _⟩
 case round=>
  obtain ⟨k,ce,hk,rfl,V,bw⟩:=hrel;have zr:=bw.size;have HV:=hid V;have HBW:=hid bw
  by_cases hlt:k<2
  ·obtain ⟨ct,hy,hcell⟩:=zat (t:=80) HEL.out bw hhi hbh hlt
   obtain ⟨ao1,cap1,rfl,hrs⟩:=zbq hy;have c0:wr.cell? ⟨b,off+k*2,none⟩=some (.bool (tp k).wiped):=hcell 0 (by decide)
   have c1:wr.cell? ⟨b,off+k*2+1,none⟩=some (.slice ao1 (tp k).recs.1 cap1):=by have:=hcell 1 (by decide);exact this
   have bA:=bAl wr (.cells #[.bool (tp k).wiped,.slice ao1 (tp k).recs.1 cap1] 80)
   have hL:lenT tp k+(tp k).recs.1≤10000000:=by
    have:k=0∨k=1:=by omega
    rcases this with rfl | rfl<;>simp only [lenT]<;>omega
   have hrs':(zab.slice 85).rd (wr.alloc (.cells #[.bool (tp k).wiped,.slice ao1 (tp k).recs.1 cap1] 80)) hi ((tp k).recs.1,(tp k).recs.2) [.slice ao1 (tp k).recs.1 cap1]:=Lay.rd_below _ hrs bA (by omega);obtain ⟨cy,hS,hz⟩:=zne hrs';obtain ⟨v3,w3,hrun,V3,_,b3⟩:=zbn zcO zaT 78 (HV.out.below bA (by omega)) cap1 hS (by simp;omega) (by omega) hL hz;have HV3:=hid V3;have HB3:Hid (Below w.heap.size w w3):=(HBW.out.trans (bA.mono zr)).trans b3
   have i1:(0:Int)≤(k:Int):=by omega
   have i2:(k:Int)<(2:Int):=by omega
   obtain ⟨ao9,cap9,rfl⟩:=V.form;obtain ⟨nT,hnT⟩:∃ n,n=(tp k).recs.1:=⟨_,rfl⟩;obtain ⟨nL,hnL⟩:∃ n,n=lenT tp k:=⟨_,rfl⟩;rw [← hnT] at c1 hrun;rw [← hnL] at hrun;have HnL:=hid hnL;rw [← hnL];clear V3 b3 bA hrs' hrs hcell hy hS V bw hL hz hnT hnL
   go_wp2_with (at_builtin;refine zcm rfl (.tmp 16) (.tmp 18) rfl ?_ ?_ hrun ?_;(simp [Act.eval]);(simp [Act.eval]))
   clear hrun;go_wp2
   go_roundw
   case rel=>exact ⟨k+1,_,by omega,by go_num,HV3.out,HB3.out⟩
   case measure=>simp [intOf];omega
  ·obtain rfl:k=2:=by omega
   have hN:lenT tp 2<1000000000:=by simp only [lenT];omega
   obtain ⟨N,hNe⟩:∃ N,N=lenT tp 2:=⟨_,rfl⟩;obtain ⟨x0,hx0⟩:∃ x,x=recT tp 2:=⟨_,rfl⟩;obtain ⟨enc,henc⟩:∃ x,x=ce:=⟨_,rfl⟩
   have hN':N≤800000:=by rw [hNe];simp only [lenT];omega
   rw [← hNe,← hx0,← henc] at V;rw [← hNe] at hN;have CS:=zlS x0 enc u3 N w.heap.size hi wr V hhi hN zr;have HNE:Hid (N=lenT tp 2∧x0=recT tp 2):=⟨hNe,hx0⟩;have HV0:=hid V;obtain ⟨aA,capA,hA⟩:=V.form;subst hA;clear V hlt hNe hx0 henc HV bw
   go_wp2_with fail
   refine CS.mono ?_;rintro ee w2 ⟨rfl,q,V2,hRe,hSrt,b2⟩;have HV2:=hid V2;have HRe:=hid hRe;have HSrt:=hid hSrt;have HB2:=hid (HBW.out.trans b2);have z2:w.heap.size≤w2.heap.size:=HB2.out.size;clear V2 hRe hSrt b2 CS HBW HV0;go_wp2
   go_loopw [4,7,25] (fun vo va vi wr=>∃ (k al:Nat) (l:List Nat) (co:Nat→List Value),k≤N∧vi=.int .i64 k∧va=.int .i64 al∧CntQ x0 q k l∧Alk x0 l al∧l.length≤k∧View zab 85 wr w2.heap.size hi vo l.length (fun i=>x0 (l.getD i 0)) co∧Below w2.heap.size w2 wr) (fun _ _ i _=>N-(intOf i).toNat)
   case atStart=>exact ⟨0,0,[],fun _=>[],Nat.zero_le _,rfl,rfl,CntQ.nil x0 q,Alk.start x0,Nat.le_refl _,View.nil _ _ _ _ _,Below.refl _ _⟩
   case round=>
    obtain ⟨k,al,l,co,hk,rfl,rfl,hCQ,hAl,hLk,V,bw⟩:=hrel;obtain ⟨n,hn⟩:∃ n,n=l.length:=⟨_,rfl⟩;have HN:=hid hn;have HCQ:=hid hCQ;have HAl:=hid hAl;have HLk:=hid hLk;rw [← hn] at V hLk;obtain ⟨ao,cap,hvo⟩:=V.form;subst hvo;have HVO:=hid V;have HBR:=hid bw;have zr2:w2.heap.size≤wr.heap.size:=bw.size
    by_cases hlt:k<N
    ·have VAr:=HV2.out.below bw (by omega)
     obtain ⟨gA,cA',hgA⟩:=VAr.form0 (by omega)
     have rgA:wr.rangeAt gA (k*9) (enc (q k)):=by rw [hgA] at VAr;exact VAr.range hlt
     obtain ⟨rfl,rfl⟩:aA=some ⟨gA,0,none⟩∧capA=cA':=by simpa using hgA
     have rdR:=VAr.each k hlt;have hcR:(enc (q k)).length=9:=VAr.lens k hlt;obtain ⟨cR,hcRe⟩:∃ c,c=enc (q k):=⟨_,rfl⟩
     have rdR':zab.rd wr hi (x0 (q k)) cR:=by rw [hcRe];exact rdR
     rw [← hcRe] at rgA hcR;have oneR:∀ v,v∈cR→v.oneCell'=true:=zaT _ _ _ _ rdR'
     have i1:(0:Int)≤(k:Int):=by omega
     have i2:(k:Int)<(N:Int):=by omega
     have bA:=bAl wr (.cells cR.toArray 85);have XA:=zaq wr cR.toArray 85;have rdW:zab.rd (wr.alloc (.cells cR.toArray 85)) hi (x0 (q k)) cR:=zab.rd_below rdR' bA (by omega);clear VAr rdR hcRe hgA rdR' V bw hn hCQ hAl
     go_upto_region 12 with (first | (refine wpList_load_mid rfl 85 (.tmp 27) rfl gA (k*9) (by simp [Act.eval]) cR _ rgA Tryz.underlying85 rfl (zam hcR) ?_) | (refine zbd 85 9 (.tmp 28) cR _ 9 rfl rfl rfl rfl rfl rfl rfl rfl zfM rfl hcR oneR ?_))
     obtain ⟨W,hW⟩:∃ x,x=wr.alloc (.cells cR.toArray 85):=⟨_,rfl⟩;rw [← hW] at bA XA rdW ⊢;clear hW rgA;have HVOW:Hid (View zab 85 W w2.heap.size hi (.slice ao n cap) n (fun i=>x0 (l.getD i 0)) co):=HVO.out.below bA (by omega);have HXW:=hid XA;have HRW:=hid rdW;have HBW:=hid (HBR.out.trans (bA.mono zr2));have zW:w2.heap.size≤W.heap.size:=HBW.out.size;have zW':wr.heap.size<W.heap.size:=XA.lt;have bD:Below W.heap.size W W.drew:=⟨rfl,rfl,rfl,Nat.le_refl _,fun _ _=>rfl⟩;clear HVO HBR
     by_cases hne:n=0
     ·have hnil:l=[]:=List.eq_nil_of_length_eq_zero (by rw [← HN.out];exact hne)
      have HZ:=hid hne;have hal0:al=0:=HAl.out.nil hnil
      have HBf:Hid (∀ e,e∈l.take al→numC (x0 e) (x0 (q k))<0):=by
       show ∀ e,e∈l.take al→_
       rw [hnil];intro e he;simp at he
      have HAn:Hid (Alk x0 (l++[q k]) al):=by
       show Alk x0 (l++[q k]) al
       have:=Alk.open_ (x0:=x0) (l:=l) (r:=q k) (fun e he=>by rw [hnil] at he;simp at he);rw [← HN.out,hne,← hal0] at this;exact this
      have hal5:al≤n:=by omega
      have d1:decide (0<n)=false:=decide_eq_false (by omega);have d2:decide ((0:Int)<(n:Int))=false:=decide_eq_false (by omega);clear hnil hal0 hne rdW XA bA;refine zay 9 (fun w'=>True) zci trivial (fun hHeld=>?_);refine zn9 0 rfl ?_
      try simp only [Act.put,SL]
      refine zn9 1 rfl ?_
      try simp only [Act.put,SL]
      refine zn9 2 rfl ?_
      try simp only [Act.put,SL]
      try rw [d1]
      refine zn9 3 rfl ?_
      try simp only [Act.put,SL]
      refine zob 4 rfl ?_
      try simp only [Act.put,SL]
      refine zob 5 rfl ?_
      try simp only [Act.put,SL]
      refine zob 6 rfl ?_
      try simp only [Act.put,SL]
      refine zob 7 rfl ?_
      try simp only [Act.put,SL]
      refine zob 8 rfl ?_
      try simp only [Act.put,SL]
      refine zas (i:=9) (o:=_) rfl (by kernel_rfl) (by kernel_rfl) (fun KC hKC=>?_);refine znz (by kernel_rfl) (hKC _ _ ?_);clear hKC KC
      try simp only [Act.put,SL]
      refine zak (i:=10) (oi:=_) (v:=undef) rfl (by kernel_rfl) (fun _ _ _ h=>h) (Or.inr ⟨by kernel_rfl,rfl⟩) ?_
      try simp only [Act.put,SL]
      refine znS 11 (v:=?_) rfl ?_ ?_
      rotate_left
      ·intro w' hSw;go_simp;try with_reducible rfl
      try simp only [Act.put,SL]
      refine zar (by kernel_rfl) ?_ _;obtain ⟨w5,hw5⟩:∃ x,x=W.drew:=⟨_,rfl⟩;rw [← hw5] at bD ⊢;have b5':Below W.heap.size W w5:=bD;clear bD hw5 hHeld d1 d2;have HVO5:Hid (View zab 85 w5 w2.heap.size hi (.slice ao n cap) n (fun i=>x0 (l.getD i 0)) co):=HVOW.out.below b5' (by omega);have z5':W.heap.size≤w5.heap.size:=b5'.size;have HX5:=hid (HXW.out.below b5' HXW.out.lt);have HR5:Hid (zab.rd w5 hi (x0 (q k)) cR):=zab.rd_below HRW.out b5' (by omega);have HB5:=hid (HBW.out.trans (b5'.mono zW))
      have z5:w2.heap.size≤w5.heap.size:=by omega
      clear b5' HVOW HXW HRW HBW;have bD6:Below w5.heap.size w5 w5.drew:=⟨rfl,rfl,rfl,Nat.le_refl _,fun _ _=>rfl⟩;have V6:=HVO5.out.drew;obtain ⟨aS,cS,hSl,sS,rS,-⟩:=V6.from_ (show hi≤w5.drew.heap.size by show hi≤w5.heap.size;omega) (al:=al) hal5;have rdR6:zab.rd w5.drew w5.drew.heap.size (x0 (q k)) cR:=zab.rd_mono (zab.rd_below HR5.out bD6 (by omega)) (by show hi≤w5.heap.size;omega);have CH0:=zeL (.slice aS (n-al) cS) (n-al) (fun j=>x0 (l.getD (al+j) 0)) (x0 (q k)) cR w5.drew.heap.size w5.drew rS rdR6 (Nat.le_refl _) (by omega)
      have CH:Calls Tryz.prog 135 (#[.slice aS (n-al) cS,.agg cR.toArray]++#[]) w5.drew (zba (∃ i,i<n-al∧SameR (x0 (l.getD (al+i) 0)) (x0 (q k))) w5.drew):=by rw [Array.append_empty];exact CH0
      have r6:w5.drew.rangeAt wr.heap.size 0 cR:=fun j v hv=>by
       have:=(HX5.out.cell j).trans (by simpa using hv);rw [Nat.zero_add];exact this
      clear CH0 rdR6 rS sS V6
      go_upto_region 14 with fail
      refine zay 4 (fun w'=>w'.rangeAt wr.heap.size 0 cR) zci r6 (fun hHeld=>?_);refine zn9 0 rfl ?_
      try simp only [Act.put,SL]
      refine zn9 1 rfl ?_
      try simp only [Act.put,SL]
      refine zn7 2 (v:=?_) rfl ?_ ?_
      rotate_left
      ·intro w' hSw
       try rw [show (Instr.slice 78 (.slice ao n cap) (some (.int .i64 (al:Int))) none none).run Tryz.prog w'=_ from hSl w']
       have hSl':=hSl w';go_simp
       try with_reducible rfl
      try simp only [Act.put,SL]
      refine zaf (i:=3) (oi:=_) 16 rfl (by kernel_rfl) (fun _ _ _ h=>h) (yieldsIf_load_mid (by kernel_rfl) 85 (.tmp 9) rfl wr.heap.size (0) (by simp [Act.eval,Act.put]) cR _ (fun w h=>h) Tryz.underlying85 rfl (zam hcR)) (by assumption) ?_
      try simp only [Act.put,SL]
      refine zas (i:=4) (o:=_) rfl (by kernel_rfl) (by kernel_rfl) (fun KC hKC=>?_);refine zaQ (by kernel_rfl) (.func 135) 135 #[] _ _ rfl (by simp [Act.eval,Act.put]) #[.slice aS (n-al) cS,.agg cR.toArray] (by simp [Act.eval,Act.put]) Tryz.func135 (by kernel_rfl) (by kernel_rfl) CH ?_;rintro ee w7 ⟨t,rfl,ht,b7⟩;refine ⟨_,rfl,?_⟩;refine hKC _ _ ?_;clear hKC KC
      try simp only [Act.put,SL]
      refine znS 5 (v:=?_) rfl ?_ ?_
      rotate_left
      ·intro w' hSw;go_simp;try with_reducible rfl
      try simp only [Act.put,SL]
      refine zar (by kernel_rfl) ?_ _;have b7':Below w5.heap.size w5 w7:=bD6.trans b7;have z7:w5.heap.size≤w7.heap.size:=b7'.size;have HVO7:Hid (View zab 85 w7 w2.heap.size hi (.slice ao n cap) n (fun i=>x0 (l.getD i 0)) co):=HVO5.out.below b7' (by omega);have HX7:Hid (Box w7 wr.heap.size cR.toArray 85):=HX5.out.below b7' (by omega);have HR7:Hid (zab.rd w7 hi (x0 (q k)) cR):=zab.rd_below HR5.out b7' (by omega);have HB7:=hid (HB5.out.trans (b7'.mono z5))
      have HT:Hid (t=true↔¬ Fst x0 (q k)):=by
       show t=true↔¬ Fst x0 (q k)
       rw [ht,← HCQ.out.has HSrt.out HRe.out hlt HBf.out];rw [HN.out];exact (zcF (l:=l) (al:=al) (P:=fun o=>SameR (x0 o) (x0 (q k)))).symm
      have hFR:Hid (t=true→al<n):=fun h=>by
       obtain ⟨i,hi',_⟩:=ht.1 h;omega
      clear ht b7 b7' bD6 CH hSl r6 hHeld HVO5 HX5 HR5 HB5
      cases t with
      | true=>
       exfalso
       have:=hFR.out (by simp);have:=HZ.out;omega
      | false=>
       have hF:Fst x0 (q k):=Classical.byContradiction fun h=>absurd (HT.out.2 h) (by simp);have HF:=hid hF;clear hF hFR HT;have RR:=HR7.out;have XX:=HX7.out;obtain ⟨b6,bk6,b7,bk7,b8,bk8,eR,-⟩:=zaD RR;have HER:=hid eR;rw [eR] at XX;have bA:=bAl w7 (.cells #[.int .i64 (x0 (q k)).kind,.int .i64 (x0 (q k)).seq,.string (x0 (q k)).name,.int .i64 (x0 (q k)).length,.int .i64 (x0 (q k)).group,.int .i64 (x0 (q k)).row,.slice b6 (x0 (q k)).rows.1 bk6,.slice b7 (x0 (q k)).data.1 bk7,.slice b8 (x0 (q k)).delta.1 bk8] 85)
       obtain ⟨v8,w8,hrun,V8,_,b8⟩:=zbn zcO zaT 78 (HVO7.out.below bA (by omega)) 1 (zd6 (b:=w7.heap.size) (hi:=hi) (y:=x0 (q k)) (cs:=cR) (fun j hj=>by
        have:=(zaq w7 #[.int .i64 (x0 (q k)).kind,.int .i64 (x0 (q k)).seq,.string (x0 (q k)).name,.int .i64 (x0 (q k)).length,.int .i64 (x0 (q k)).group,.int .i64 (x0 (q k)).row,.slice b6 (x0 (q k)).rows.1 bk6,.slice b7 (x0 (q k)).data.1 bk7,.slice b8 (x0 (q k)).delta.1 bk8] 85).cell j;rw [this,eR]
        simp) (zab.rd_below HR7.out bA (by omega))) (by simp;omega) (by omega) (by omega) (fun h=>by cases h)
       have HV8:Hid (View zab 85 w8 w2.heap.size hi v8 (l++[q k]).length (fun i=>x0 ((l++[q k]).getD i 0)) (cat2 co n (fun _=>cR))):=by
        have e:(l++[q k]).length=n+1:=by rw [List.length_append,← HN.out];rfl
        show View zab 85 w8 w2.heap.size hi v8 (l++[q k]).length (fun i=>x0 ((l++[q k]).getD i 0)) (cat2 co n (fun _=>cR))
        rw [e];refine V8.congr (fun i hi'=>?_)
        by_cases c:i<n
        ·rw [zbN _ _ c,zg6 (by rw [← HN.out];exact c)]
        ·obtain rfl:i=n:=by omega
         have e1:=zbX (fun i=>x0 (l.getD i 0)) i (fun _=>x0 (q k)) 0;rw [Nat.add_zero] at e1;rw [e1]
         show x0 (q k)=x0 ((l++[q k]).getD i 0)
         rw [HN.out,zes]
       have HB8:Hid (Below w2.heap.size w2 w8):=(HB7.out.trans (bA.mono (by omega))).trans b8;clear V8 b8 bA RR eR;have u_0:w7.cell? ⟨wr.heap.size,0,none⟩=some (.int .i64 (x0 (q k)).kind):=XX.cell 0;have u_1:w7.cell? ⟨wr.heap.size,1,none⟩=some (.int .i64 (x0 (q k)).seq):=XX.cell 1;have u_2:w7.cell? ⟨wr.heap.size,2,none⟩=some (.string (x0 (q k)).name):=XX.cell 2;have u_3:w7.cell? ⟨wr.heap.size,3,none⟩=some (.int .i64 (x0 (q k)).length):=XX.cell 3;have u_4:w7.cell? ⟨wr.heap.size,4,none⟩=some (.int .i64 (x0 (q k)).group):=XX.cell 4;have u_5:w7.cell? ⟨wr.heap.size,5,none⟩=some (.int .i64 (x0 (q k)).row):=XX.cell 5;have u_6:w7.cell? ⟨wr.heap.size,6,none⟩=some (.slice b6 (x0 (q k)).rows.1 bk6):=XX.cell 6;have u_7:w7.cell? ⟨wr.heap.size,7,none⟩=some (.slice b7 (x0 (q k)).data.1 bk7):=XX.cell 7;have u_8:w7.cell? ⟨wr.heap.size,8,none⟩=some (.slice b8 (x0 (q k)).delta.1 bk8):=XX.cell 8;clear XX
       go_wp2_with (at_builtin;refine zcm rfl (.tmp 49) (.tmp 51) rfl ?_ ?_ hrun ?_;(simp [Act.eval]);(simp [Act.eval]))
       clear hrun;go_wp2
       go_roundw
       case rel=>exact ⟨k+1,al,l++[q k],_,by omega,by go_num,rfl,HCQ.out.more HSrt.out hlt HF.out,HAn.out,by rw [List.length_append];have:=HLk.out;simp;omega,HV8.out,HB8.out⟩
       case measure=>simp [intOf];omega
     ·have hne':l≠[]:=fun h=>hne (by rw [HN.out,h];rfl)
      have haln:al<n:=by rw [HN.out];exact HAl.out.lt hne'
      have VD:=HVOW.out.drew;obtain ⟨gO,cO',hgO⟩:=VD.form0 hne
      have rgO:W.drew.rangeAt gO (al*9) (co al):=by rw [hgO] at VD;exact VD.range haln
      obtain ⟨rfl,rfl⟩:ao=some ⟨gO,0,none⟩∧cap=cO':=by simpa using hgO
      have hcO:(co al).length=9:=VD.lens al haln;have CC0:=zcy (x0 (l.getD al 0)) (x0 (q k)) (co al) cR hi hi W.drew (VD.each al haln) (zab.rd_below rdW bD (by omega));obtain ⟨cO,hcOe⟩:∃ c,c=co al:=⟨_,rfl⟩;rw [← hcOe] at rgO hcO CC0;obtain ⟨c,hc⟩:∃ c:Int,c=numC (x0 (l.getD al 0)) (x0 (q k)):=⟨_,rfl⟩;rw [← hc] at CC0;have HCN:=hid hc
      have CC:Calls Tryz.prog 134 (#[.agg cO.toArray,.agg cR.toArray]++#[]) W.drew fun e w'=>e=.returned (.int .i64 c)∧Below W.drew.heap.size W.drew w':=by rw [Array.append_empty];exact CC0
      have rgB:W.drew.rangeAt wr.heap.size 0 cR:=fun j v hv=>by
       have:=(XA.cell j).trans (by simpa using hv);rw [Nat.zero_add];exact this
      have d1:decide (0<n)=true:=decide_eq_true (by omega);have d2:decide ((0:Int)<(n:Int))=true:=decide_eq_true (by omega)
      have i3:(0:Int)≤(al:Int):=by omega
      have i4:(al:Int)<(n:Int):=by omega
      clear CC0 hc hcOe VD hgO XA rdW bA;refine zay 9 (fun w'=>w'.rangeAt gO (al*9) cO∧w'.rangeAt wr.heap.size 0 cR) zci ⟨rgO,rgB⟩ (fun hHeld=>?_);refine zn9 0 rfl ?_
      try simp only [Act.put,SL]
      refine zn9 1 rfl ?_
      try simp only [Act.put,SL]
      refine zn9 2 rfl ?_
      try simp only [Act.put,SL]
      try rw [d1]
      refine zn9 3 rfl ?_
      try simp only [Act.put,SL]
      refine zn9 4 rfl ?_
      try simp only [Act.put,SL]
      refine zn9 5 rfl ?_
      try simp only [Act.put,SL]
      refine zn9 6 rfl ?_
      try simp only [Act.put,SL]
      refine zaf (i:=7) (oi:=_) 16 rfl (by kernel_rfl) (fun _ _ _ h=>h) (yieldsIf_load_mid (by kernel_rfl) 85 (.tmp 35) rfl gO (al*9) (by simp [Act.eval,Act.put]) cO _ (fun w h=>h.1) Tryz.underlying85 rfl (zam hcO)) (by assumption) ?_
      try simp only [Act.put,SL]
      refine zaf (i:=8) (oi:=_) 16 rfl (by kernel_rfl) (fun _ _ _ h=>h) (yieldsIf_load_mid (by kernel_rfl) 85 (.tmp 9) rfl wr.heap.size (0) (by simp [Act.eval,Act.put]) cR _ (fun w h=>h.2) Tryz.underlying85 rfl (zam hcR)) (by assumption) ?_
      try simp only [Act.put,SL]
      refine zas (i:=9) (o:=_) rfl (by kernel_rfl) (by kernel_rfl) (fun KC hKC=>?_);refine zaQ (by kernel_rfl) (.func 134) 134 #[] _ _ rfl (by simp [Act.eval,Act.put]) #[.agg cO.toArray,.agg cR.toArray] (by simp [Act.eval,Act.put]) Tryz.func134 (by kernel_rfl) (by kernel_rfl) CC ?_;rintro ee w5 ⟨rfl,b5⟩;refine ⟨_,rfl,?_⟩;refine hKC _ _ ?_;clear hKC KC
      try simp only [Act.put,SL]
      refine znS 10 (v:=?_) rfl ?_ ?_
      rotate_left
      ·intro w' hSw;go_simp;try with_reducible rfl
      try simp only [Act.put,SL]
      refine znS 11 (v:=?_) rfl ?_ ?_
      rotate_left
      ·intro w' hSw;go_simp;try with_reducible rfl
      try simp only [Act.put,SL]
      refine zar (by kernel_rfl) ?_ _;have b5':Below W.heap.size W w5:=bD.trans b5;have HVO5:Hid (View zab 85 w5 w2.heap.size hi (.slice (some ⟨gO,0,none⟩) n cap) n (fun i=>x0 (l.getD i 0)) co):=HVOW.out.below b5' (by omega);have z5':W.heap.size≤w5.heap.size:=b5'.size;have HX5:=hid (HXW.out.below b5' HXW.out.lt);have HR5:Hid (zab.rd w5 hi (x0 (q k)) cR):=zab.rd_below HRW.out b5' (by omega);have HB5:=hid (HBW.out.trans (b5'.mono zW))
      have z5:w2.heap.size≤w5.heap.size:=by omega
      clear b5' b5 HVOW HXW HRW HBW CC rgO rgB hHeld bD d1 d2 hcO
      by_cases hc0:c=0
      ·have e0:(c != 0)=false:=by simp [hc0]
       have hst:=HAl.out.stay hne' (r:=q k) (by rw [← HCN.out];exact hc0);have HBf:=hid hst.1;have HAn:=hid hst.2
       have hal5:al≤n:=by omega
       subst hc0;clear hst HCN;have bD6:Below w5.heap.size w5 w5.drew:=⟨rfl,rfl,rfl,Nat.le_refl _,fun _ _=>rfl⟩;have V6:=HVO5.out.drew;obtain ⟨aS,cS,hSl,sS,rS,-⟩:=V6.from_ (show hi≤w5.drew.heap.size by show hi≤w5.heap.size;omega) (al:=al) hal5;have rdR6:zab.rd w5.drew w5.drew.heap.size (x0 (q k)) cR:=zab.rd_mono (zab.rd_below HR5.out bD6 (by omega)) (by show hi≤w5.heap.size;omega);have CH0:=zeL (.slice aS (n-al) cS) (n-al) (fun j=>x0 (l.getD (al+j) 0)) (x0 (q k)) cR w5.drew.heap.size w5.drew rS rdR6 (Nat.le_refl _) (by omega)
       have CH:Calls Tryz.prog 135 (#[.slice aS (n-al) cS,.agg cR.toArray]++#[]) w5.drew (zba (∃ i,i<n-al∧SameR (x0 (l.getD (al+i) 0)) (x0 (q k))) w5.drew):=by rw [Array.append_empty];exact CH0
       have r6:w5.drew.rangeAt wr.heap.size 0 cR:=fun j v hv=>by
        have:=(HX5.out.cell j).trans (by simpa using hv);rw [Nat.zero_add];exact this
       clear CH0 rdR6 rS sS V6
       go_upto_region 14 with fail
       refine zay 4 (fun w'=>w'.rangeAt wr.heap.size 0 cR) zci r6 (fun hHeld=>?_);refine zn9 0 rfl ?_
       try simp only [Act.put,SL]
       refine zn9 1 rfl ?_
       try simp only [Act.put,SL]
       refine zn7 2 (v:=?_) rfl ?_ ?_
       rotate_left
       ·intro w' hSw
        try rw [show (Instr.slice 78 (.slice (some ⟨gO,0,none⟩) n cap) (some (.int .i64 (al:Int))) none none).run Tryz.prog w'=_ from hSl w']
        have hSl':=hSl w';go_simp
        try with_reducible rfl
       try simp only [Act.put,SL]
       refine zaf (i:=3) (oi:=_) 16 rfl (by kernel_rfl) (fun _ _ _ h=>h) (yieldsIf_load_mid (by kernel_rfl) 85 (.tmp 9) rfl wr.heap.size (0) (by simp [Act.eval,Act.put]) cR _ (fun w h=>h) Tryz.underlying85 rfl (zam hcR)) (by assumption) ?_
       try simp only [Act.put,SL]
       refine zas (i:=4) (o:=_) rfl (by kernel_rfl) (by kernel_rfl) (fun KC hKC=>?_);refine zaQ (by kernel_rfl) (.func 135) 135 #[] _ _ rfl (by simp [Act.eval,Act.put]) #[.slice aS (n-al) cS,.agg cR.toArray] (by simp [Act.eval,Act.put]) Tryz.func135 (by kernel_rfl) (by kernel_rfl) CH ?_;rintro ee w7 ⟨t,rfl,ht,b7⟩;refine ⟨_,rfl,?_⟩;refine hKC _ _ ?_;clear hKC KC
       try simp only [Act.put,SL]
       refine znS 5 (v:=?_) rfl ?_ ?_
       rotate_left
       ·intro w' hSw;go_simp;try with_reducible rfl
       try simp only [Act.put,SL]
       refine zar (by kernel_rfl) ?_ _;have b7':Below w5.heap.size w5 w7:=bD6.trans b7;have z7:w5.heap.size≤w7.heap.size:=b7'.size;have HVO7:Hid (View zab 85 w7 w2.heap.size hi (.slice (some ⟨gO,0,none⟩) n cap) n (fun i=>x0 (l.getD i 0)) co):=HVO5.out.below b7' (by omega);have HX7:Hid (Box w7 wr.heap.size cR.toArray 85):=HX5.out.below b7' (by omega);have HR7:Hid (zab.rd w7 hi (x0 (q k)) cR):=zab.rd_below HR5.out b7' (by omega);have HB7:=hid (HB5.out.trans (b7'.mono z5))
       have HT:Hid (t=true↔¬ Fst x0 (q k)):=by
        show t=true↔¬ Fst x0 (q k)
        rw [ht,← HCQ.out.has HSrt.out HRe.out hlt HBf.out];rw [HN.out];exact (zcF (l:=l) (al:=al) (P:=fun o=>SameR (x0 o) (x0 (q k)))).symm
       have hFR:Hid (t=true→al<n):=fun h=>by
        obtain ⟨i,hi',_⟩:=ht.1 h;omega
       clear ht b7 b7' bD6 CH hSl r6 hHeld HVO5 HX5 HR5 HB5
       cases t with
       | true=>
        go_wp2
        go_roundw
        case rel=>exact ⟨k+1,al,l,co,by omega,by go_num,rfl,HCQ.out.skip (HT.out.1 (by simp)),HAl.out,by have:=HLk.out;omega,by rw [← HN.out];exact HVO7.out,HB7.out⟩
        case measure=>simp [intOf];omega
       | false=>
        have hF:Fst x0 (q k):=Classical.byContradiction fun h=>absurd (HT.out.2 h) (by simp);have HF:=hid hF;clear hF hFR HT;have RR:=HR7.out;have XX:=HX7.out;obtain ⟨b6,bk6,b7,bk7,b8,bk8,eR,-⟩:=zaD RR;have HER:=hid eR;rw [eR] at XX;have bA:=bAl w7 (.cells #[.int .i64 (x0 (q k)).kind,.int .i64 (x0 (q k)).seq,.string (x0 (q k)).name,.int .i64 (x0 (q k)).length,.int .i64 (x0 (q k)).group,.int .i64 (x0 (q k)).row,.slice b6 (x0 (q k)).rows.1 bk6,.slice b7 (x0 (q k)).data.1 bk7,.slice b8 (x0 (q k)).delta.1 bk8] 85)
        obtain ⟨v8,w8,hrun,V8,_,b8⟩:=zbn zcO zaT 78 (HVO7.out.below bA (by omega)) 1 (zd6 (b:=w7.heap.size) (hi:=hi) (y:=x0 (q k)) (cs:=cR) (fun j hj=>by
         have:=(zaq w7 #[.int .i64 (x0 (q k)).kind,.int .i64 (x0 (q k)).seq,.string (x0 (q k)).name,.int .i64 (x0 (q k)).length,.int .i64 (x0 (q k)).group,.int .i64 (x0 (q k)).row,.slice b6 (x0 (q k)).rows.1 bk6,.slice b7 (x0 (q k)).data.1 bk7,.slice b8 (x0 (q k)).delta.1 bk8] 85).cell j;rw [this,eR]
         simp) (zab.rd_below HR7.out bA (by omega))) (by simp;omega) (by omega) (by omega) (fun h=>by cases h)
        have HV8:Hid (View zab 85 w8 w2.heap.size hi v8 (l++[q k]).length (fun i=>x0 ((l++[q k]).getD i 0)) (cat2 co n (fun _=>cR))):=by
         have e:(l++[q k]).length=n+1:=by rw [List.length_append,← HN.out];rfl
         show View zab 85 w8 w2.heap.size hi v8 (l++[q k]).length (fun i=>x0 ((l++[q k]).getD i 0)) (cat2 co n (fun _=>cR))
         rw [e];refine V8.congr (fun i hi'=>?_)
         by_cases c:i<n
         ·rw [zbN _ _ c,zg6 (by rw [← HN.out];exact c)]
         ·obtain rfl:i=n:=by omega
          have e1:=zbX (fun i=>x0 (l.getD i 0)) i (fun _=>x0 (q k)) 0;rw [Nat.add_zero] at e1;rw [e1]
          show x0 (q k)=x0 ((l++[q k]).getD i 0)
          rw [HN.out,zes]
        have HB8:Hid (Below w2.heap.size w2 w8):=(HB7.out.trans (bA.mono (by omega))).trans b8;clear V8 b8 bA RR eR;have u_0:w7.cell? ⟨wr.heap.size,0,none⟩=some (.int .i64 (x0 (q k)).kind):=XX.cell 0;have u_1:w7.cell? ⟨wr.heap.size,1,none⟩=some (.int .i64 (x0 (q k)).seq):=XX.cell 1;have u_2:w7.cell? ⟨wr.heap.size,2,none⟩=some (.string (x0 (q k)).name):=XX.cell 2;have u_3:w7.cell? ⟨wr.heap.size,3,none⟩=some (.int .i64 (x0 (q k)).length):=XX.cell 3;have u_4:w7.cell? ⟨wr.heap.size,4,none⟩=some (.int .i64 (x0 (q k)).group):=XX.cell 4;have u_5:w7.cell? ⟨wr.heap.size,5,none⟩=some (.int .i64 (x0 (q k)).row):=XX.cell 5;have u_6:w7.cell? ⟨wr.heap.size,6,none⟩=some (.slice b6 (x0 (q k)).rows.1 bk6):=XX.cell 6;have u_7:w7.cell? ⟨wr.heap.size,7,none⟩=some (.slice b7 (x0 (q k)).data.1 bk7):=XX.cell 7;have u_8:w7.cell? ⟨wr.heap.size,8,none⟩=some (.slice b8 (x0 (q k)).delta.1 bk8):=XX.cell 8;clear XX
        go_wp2_with (at_builtin;refine zcm rfl (.tmp 49) (.tmp 51) rfl ?_ ?_ hrun ?_;(simp [Act.eval]);(simp [Act.eval]))
        clear hrun;go_wp2
        go_roundw
        case rel=>exact ⟨k+1,al,l++[q k],_,by omega,by go_num,rfl,HCQ.out.more HSrt.out hlt HF.out,HAn.out,by rw [List.length_append];have:=HLk.out;simp;omega,HV8.out,HB8.out⟩
        case measure=>simp [intOf];omega
      ·have e0:(c != 0)=true:=by simp [hc0]
       have hfr:=HAl.out.fresh HCQ.out HSrt.out hlt hne' (by rw [← HCN.out];exact hc0);have HAf:=hid hfr;have HBf:Hid (∀ e,e∈l.take n→numC (x0 e) (x0 (q k))<0):=fun e he=>hfr e (List.mem_of_mem_take he);have HZ:Hid (n=n):=rfl;have hal5:n≤n:=Nat.le_refl _;clear hfr HCN;have bD6:Below w5.heap.size w5 w5.drew:=⟨rfl,rfl,rfl,Nat.le_refl _,fun _ _=>rfl⟩;have V6:=HVO5.out.drew;obtain ⟨aS,cS,hSl,sS,rS,-⟩:=V6.from_ (show hi≤w5.drew.heap.size by show hi≤w5.heap.size;omega) (al:=n) hal5;have rdR6:zab.rd w5.drew w5.drew.heap.size (x0 (q k)) cR:=zab.rd_mono (zab.rd_below HR5.out bD6 (by omega)) (by show hi≤w5.heap.size;omega);have CH0:=zeL (.slice aS (n-n) cS) (n-n) (fun j=>x0 (l.getD (n+j) 0)) (x0 (q k)) cR w5.drew.heap.size w5.drew rS rdR6 (Nat.le_refl _) (by omega)
       have CH:Calls Tryz.prog 135 (#[.slice aS (n-n) cS,.agg cR.toArray]++#[]) w5.drew (zba (∃ i,i<n-n∧SameR (x0 (l.getD (n+i) 0)) (x0 (q k))) w5.drew):=by rw [Array.append_empty];exact CH0
       have r6:w5.drew.rangeAt wr.heap.size 0 cR:=fun j v hv=>by
        have:=(HX5.out.cell j).trans (by simpa using hv);rw [Nat.zero_add];exact this
       clear CH0 rdR6 rS sS V6
       go_upto_region 14 with fail
       refine zay 4 (fun w'=>w'.rangeAt wr.heap.size 0 cR) zci r6 (fun hHeld=>?_);refine zn9 0 rfl ?_
       try simp only [Act.put,SL]
       refine zn9 1 rfl ?_
       try simp only [Act.put,SL]
       refine zn7 2 (v:=?_) rfl ?_ ?_
       rotate_left
       ·intro w' hSw
        try rw [show (Instr.slice 78 (.slice (some ⟨gO,0,none⟩) n cap) (some (.int .i64 (n:Int))) none none).run Tryz.prog w'=_ from hSl w']
        have hSl':=hSl w';go_simp
        try with_reducible rfl
       try simp only [Act.put,SL]
       refine zaf (i:=3) (oi:=_) 16 rfl (by kernel_rfl) (fun _ _ _ h=>h) (yieldsIf_load_mid (by kernel_rfl) 85 (.tmp 9) rfl wr.heap.size (0) (by simp [Act.eval,Act.put]) cR _ (fun w h=>h) Tryz.underlying85 rfl (zam hcR)) (by assumption) ?_
       try simp only [Act.put,SL]
       refine zas (i:=4) (o:=_) rfl (by kernel_rfl) (by kernel_rfl) (fun KC hKC=>?_);refine zaQ (by kernel_rfl) (.func 135) 135 #[] _ _ rfl (by simp [Act.eval,Act.put]) #[.slice aS (n-n) cS,.agg cR.toArray] (by simp [Act.eval,Act.put]) Tryz.func135 (by kernel_rfl) (by kernel_rfl) CH ?_;rintro ee w7 ⟨t,rfl,ht,b7⟩;refine ⟨_,rfl,?_⟩;refine hKC _ _ ?_;clear hKC KC
       try simp only [Act.put,SL]
       refine znS 5 (v:=?_) rfl ?_ ?_
       rotate_left
       ·intro w' hSw;go_simp;try with_reducible rfl
       try simp only [Act.put,SL]
       refine zar (by kernel_rfl) ?_ _;have b7':Below w5.heap.size w5 w7:=bD6.trans b7;have z7:w5.heap.size≤w7.heap.size:=b7'.size;have HVO7:Hid (View zab 85 w7 w2.heap.size hi (.slice (some ⟨gO,0,none⟩) n cap) n (fun i=>x0 (l.getD i 0)) co):=HVO5.out.below b7' (by omega);have HX7:Hid (Box w7 wr.heap.size cR.toArray 85):=HX5.out.below b7' (by omega);have HR7:Hid (zab.rd w7 hi (x0 (q k)) cR):=zab.rd_below HR5.out b7' (by omega);have HB7:=hid (HB5.out.trans (b7'.mono z5))
       have HT:Hid (t=true↔¬ Fst x0 (q k)):=by
        show t=true↔¬ Fst x0 (q k)
        rw [ht,← HCQ.out.has HSrt.out HRe.out hlt HBf.out];rw [HN.out];exact (zcF (l:=l) (al:=l.length) (P:=fun o=>SameR (x0 o) (x0 (q k)))).symm
       have hFR:Hid (t=true→n<n):=fun h=>by
        obtain ⟨i,hi',_⟩:=ht.1 h;omega
       clear ht b7 b7' bD6 CH hSl r6 hHeld HVO5 HX5 HR5 HB5
       cases t with
       | true=>
        exfalso
        have:=hFR.out (by simp);have:=HZ.out;omega
       | false=>
        have hF:Fst x0 (q k):=Classical.byContradiction fun h=>absurd (HT.out.2 h) (by simp);have HF:=hid hF;clear hF hFR HT;have RR:=HR7.out;have XX:=HX7.out;obtain ⟨b6,bk6,b7,bk7,b8,bk8,eR,-⟩:=zaD RR;have HER:=hid eR;rw [eR] at XX;have bA:=bAl w7 (.cells #[.int .i64 (x0 (q k)).kind,.int .i64 (x0 (q k)).seq,.string (x0 (q k)).name,.int .i64 (x0 (q k)).length,.int .i64 (x0 (q k)).group,.int .i64 (x0 (q k)).row,.slice b6 (x0 (q k)).rows.1 bk6,.slice b7 (x0 (q k)).data.1 bk7,.slice b8 (x0 (q k)).delta.1 bk8] 85)
        obtain ⟨v8,w8,hrun,V8,_,b8⟩:=zbn zcO zaT 78 (HVO7.out.below bA (by omega)) 1 (zd6 (b:=w7.heap.size) (hi:=hi) (y:=x0 (q k)) (cs:=cR) (fun j hj=>by
         have:=(zaq w7 #[.int .i64 (x0 (q k)).kind,.int .i64 (x0 (q k)).seq,.string (x0 (q k)).name,.int .i64 (x0 (q k)).length,.int .i64 (x0 (q k)).group,.int .i64 (x0 (q k)).row,.slice b6 (x0 (q k)).rows.1 bk6,.slice b7 (x0 (q k)).data.1 bk7,.slice b8 (x0 (q k)).delta.1 bk8] 85).cell j;rw [this,eR]
         simp) (zab.rd_below HR7.out bA (by omega))) (by simp;omega) (by omega) (by omega) (fun h=>by cases h)
        have HV8:Hid (View zab 85 w8 w2.heap.size hi v8 (l++[q k]).length (fun i=>x0 ((l++[q k]).getD i 0)) (cat2 co n (fun _=>cR))):=by
         have e:(l++[q k]).length=n+1:=by rw [List.length_append,← HN.out];rfl
         show View zab 85 w8 w2.heap.size hi v8 (l++[q k]).length (fun i=>x0 ((l++[q k]).getD i 0)) (cat2 co n (fun _=>cR))
         rw [e];refine V8.congr (fun i hi'=>?_)
         by_cases c:i<n
         ·rw [zbN _ _ c,zg6 (by rw [← HN.out];exact c)]
         ·obtain rfl:i=n:=by omega
          have e1:=zbX (fun i=>x0 (l.getD i 0)) i (fun _=>x0 (q k)) 0;rw [Nat.add_zero] at e1;rw [e1]
          show x0 (q k)=x0 ((l++[q k]).getD i 0)
          rw [HN.out,zes]
        have HB8:Hid (Below w2.heap.size w2 w8):=(HB7.out.trans (bA.mono (by omega))).trans b8;clear V8 b8 bA RR eR;have u_0:w7.cell? ⟨wr.heap.size,0,none⟩=some (.int .i64 (x0 (q k)).kind):=XX.cell 0;have u_1:w7.cell? ⟨wr.heap.size,1,none⟩=some (.int .i64 (x0 (q k)).seq):=XX.cell 1;have u_2:w7.cell? ⟨wr.heap.size,2,none⟩=some (.string (x0 (q k)).name):=XX.cell 2;have u_3:w7.cell? ⟨wr.heap.size,3,none⟩=some (.int .i64 (x0 (q k)).length):=XX.cell 3;have u_4:w7.cell? ⟨wr.heap.size,4,none⟩=some (.int .i64 (x0 (q k)).group):=XX.cell 4;have u_5:w7.cell? ⟨wr.heap.size,5,none⟩=some (.int .i64 (x0 (q k)).row):=XX.cell 5;have u_6:w7.cell? ⟨wr.heap.size,6,none⟩=some (.slice b6 (x0 (q k)).rows.1 bk6):=XX.cell 6;have u_7:w7.cell? ⟨wr.heap.size,7,none⟩=some (.slice b7 (x0 (q k)).data.1 bk7):=XX.cell 7;have u_8:w7.cell? ⟨wr.heap.size,8,none⟩=some (.slice b8 (x0 (q k)).delta.1 bk8):=XX.cell 8;clear XX
        go_wp2_with (at_builtin;refine zcm rfl (.tmp 49) (.tmp 51) rfl ?_ ?_ hrun ?_;(simp [Act.eval]);(simp [Act.eval]))
        clear hrun;go_wp2
        go_roundw
        case rel=>exact ⟨k+1,l.length,l++[q k],_,by omega,by go_num,by rw [← HN.out],HCQ.out.more HSrt.out hlt HF.out,Alk.open_ (x0:=x0) HAf.out,by rw [List.length_append];have:=HLk.out;simp;omega,HV8.out,HB8.out⟩
        case measure=>simp [intOf];omega
    ·obtain rfl:k=N:=by omega
     clear hlt;go_wp2;go_ret;obtain ⟨e1,e2⟩:=HNE.out;exact ⟨_,l,co,w2.heap.size,rfl,by rw [← e1,← e2];exact HCQ.out.all HRe.out,z2,by rw [← e2,← HN.out];exact HVO.out,HB2.out.trans (HBR.out.mono z2)⟩
end Go.Proofs.YthbpmbgfddpffaaGreat
namespace Go.Proofs.YthbpmbgfddpffaaGreat
open Go.RowKit F256
open Go.Maps (Keyed)
def zmO (v:Value):Option (DataW Value×List MemPlace):=some (.held v,[])
def MapV (w:World) (k:TypeId) (b n:Nat) (f:Value→Option Value):Prop:=
 ∃ D,w.ownsMap Tryz.prog k zmO b n D∧∀ x l,keyOf Tryz.prog k x=some l→Maps.has D l=(f x).isSome∧∀ z,D.atKey l (.held z)=.held ((f x).getD z)
open Classical in
noncomputable def putF (f:Value→Option Value) (x v:Value):Value→Option Value:=fun y=>if y=x then some v else f y
theorem zdI (f:Value→Option Value) (x v:Value):putF f x v x=some v:=by unfold putF;rw [if_pos rfl]
theorem zdV (f:Value→Option Value) {x y:Value} (v:Value) (h:y≠x):putF f x v y=f y:=by unfold putF;rw [if_neg h]
section
variable {w w':World} {k t e:TypeId} {b n:Nat} {f:Value→Option Value}
theorem zc0 (w:World) (k:TypeId):MapV (w.alloc (.map #[] 0)) k w.heap.size 0 (fun _=>none):=
 ⟨.map [],World.ownsMap_made w Tryz.prog k zmO,fun x l hx=>⟨by simp [Maps.has],fun z=>by simp [DataW.atKey]⟩⟩
theorem MapV.lt (h:MapV w k b n f):b<w.heap.size:=by
 obtain ⟨D,h1,_⟩:=h;exact h1.lt
theorem MapV.mono (h:MapV w k b n f) {m:Nat} (hm:n≤m):MapV w k b m f:=by
 obtain ⟨D,h1,h2⟩:=h;exact ⟨D,h1.mono hm,h2⟩
theorem MapV.block (h:MapV w k b n f) (hb:w'.heap[b]?=w.heap[b]?):MapV w' k b n f:=by
 obtain ⟨D,⟨es,clock,h1,h3⟩,h2⟩:=h;exact ⟨D,⟨es,clock,hb.trans h1,h3⟩,h2⟩
theorem MapV.look (h:MapV w k b n f) (K:Keyed Tryz.prog k) (ht:Tryz.prog.underlying t=some (.map k e)) {z:Value} (hz:(zeroValue e).run Tryz.prog w=.ok z w) {x:Value} {l:Lit} (hx:keyOf Tryz.prog k x=some l) :
 (Instr.lookup t (.map (some b)) x false).run Tryz.prog w=.ok ((f x).getD z) w:=by
 obtain ⟨D,h1,h2⟩:=h;obtain ⟨v,ps,h3,h4⟩:=h1.lookup K ht hz (zd:=.held z) (zp:=[]) rfl hx;rw [(h2 x l hx).2 z] at h4;unfold zmO at h4
 simp only [Option.some.injEq,Prod.mk.injEq,DataW.held.injEq] at h4
 rw [h3,h4.1]
theorem zj2 {D:DataW Value} (K:Keyed Tryz.prog k) (hD:Maps.IsMap D) {x v:Value} {l:Lit} (hx:keyOf Tryz.prog k x=some l) (h2:∀ x l,keyOf Tryz.prog k x=some l→Maps.has D l=(f x).isSome∧∀ z,D.atKey l (.held z)=.held ((f x).getD z)) :
 ∀ y m,keyOf Tryz.prog k y=some m→Maps.has (D.put l (.held v)) m=(putF f x v y).isSome∧∀ z,(D.put l (.held v)).atKey m (.held z)=.held ((putF f x v y).getD z):=by
 intro y m hy
 by_cases c:y=x
 ·subst c
  rw [hx] at hy
  cases hy
  rw [zdI];exact ⟨Maps.has_put_same hD (K.key hx) _,fun z=>Maps.atKey_put_same hD (K.key hx) _ _⟩
 ·have hne:m≠l:=fun e=>c (K.inj hy (by rw [e];exact hx))
  rw [zdV f v c];exact ⟨(Maps.has_put_other hne _).trans (h2 y m hy).1,fun z=>(Maps.atKey_put_other hne _ _).trans ((h2 y m hy).2 z)⟩
theorem MapV.put (h:MapV w k b n f) (K:Keyed Tryz.prog k) (ht:Tryz.prog.underlying t=some (.map k e)) (hn:n<maxLen) {x:Value} {l:Lit} (hx:keyOf Tryz.prog k x=some l) (v:Value) :
 ∃ w',(Instr.mapUpdate t (.map (some b)) x v).run Tryz.prog w=.ok () w'∧MapV w' k b (n+1) (putF f x v)∧w.grownBy w' (some b)∧w'.heap.size=w.heap.size:=by
 obtain ⟨D,h1,h2⟩:=h;obtain ⟨w',h3,h4,h5⟩:=h1.store K ht hn hx (val:=v) (d:=.held v) (ps:=[]) rfl;refine ⟨w',h3,⟨_,h4,zj2 K h1.isMap hx h2⟩,h5.grown,?_⟩;obtain ⟨es,clock,es',clock',_,rfl⟩:=h5
 simp [ChangeMaps.setBlock]
theorem zlT {es:Array MapEntry} {clock:Nat} (K:WideMaps.KeyLaw Tryz.prog k) (ht:Tryz.prog.underlying t=some (.map k e)) {z:Value} (hz:∀ u:World,(zeroValue e).run Tryz.prog u=.ok z u) (hb:w.heap[b]?=some (.map es clock)) (F:WideElems.Fit Tryz.prog k zmO es clock)
 {x:Value} {l:Lit} (hx:keyOf Tryz.prog k x=some l) :
 ∃ (v0:Value) (st:Nat) (es1:Array MapEntry) (clock1:Nat),(Instr.mapEntry t (.map (some b)) x).run Tryz.prog w=.ok (.tuple #[v0,goInt st]) (ChangeMaps.setBlock w b (.map es1 clock1))∧
  (Instr.lookup t (.map (some b)) x false).run Tryz.prog w=.ok v0 w∧(Instr.mapUpdate t (.map (some b)) x v0).run Tryz.prog w=.ok () (ChangeMaps.setBlock w b (.map es1 clock1)):=by
 rcases K.find w hx es.toList F.keys with ⟨h1,h2⟩ | ⟨j,e0,h1,h2,h3⟩
 ·refine ⟨z,clock,es.push ⟨x,z,clock⟩,clock+1,?_,?_,?_⟩
  ·simp [Instr.mapEntry,run_underlying ht,MapKept.run_getObj_map hb,K.check w false hx,h1,hz,MapKept.run_setObj_map _ hb,Result.andThen,ChangeMaps.setBlock]
  ·simp [Instr.lookup,run_underlying ht,MapKept.run_getObj_map hb,K.check w _ hx,h1,hz,Result.andThen]
  ·simp [Instr.mapUpdate,run_underlying ht,MapKept.run_getObj_map hb,K.check w false hx,h1,MapKept.run_setObj_map _ hb,Result.andThen,ChangeMaps.setBlock]
 ·have hj:es[j]?=some e0:=by simpa using h2
  have hs1:es.modify j (fun e=>{ e with key:=x })=es:=by
   apply Array.ext'
   rw [Array.toList_modify,ChangeMaps.modify_eq_set _ _ _ _ h2]
   have:({ e0 with key:=x }:MapEntry)=e0:=by rw [← h3]
   rw [this];exact WideElems.set_self _ _ _ h2
  have hs2:es.modify j (fun e=>{ e with key:=x,val:=e0.val })=es:=by
   apply Array.ext'
   rw [Array.toList_modify,ChangeMaps.modify_eq_set _ _ _ _ h2]
   have:({ e0 with key:=x,val:=e0.val }:MapEntry)=e0:=by rw [← h3]
   rw [this];exact WideElems.set_self _ _ _ h2
  refine ⟨e0.val,e0.born,es,clock,?_,?_,?_⟩
  ·simp [Instr.mapEntry,run_underlying ht,MapKept.run_getObj_map hb,K.check w false hx,h1,hj,h3,K.stays w hx,hs1,MapKept.run_setObj_map _ hb,Result.andThen,ChangeMaps.setBlock]
  ·simp [Instr.lookup,run_underlying ht,MapKept.run_getObj_map hb,K.check w _ hx,h1,Result.andThen]
  ·simp [Instr.mapUpdate,run_underlying ht,MapKept.run_getObj_map hb,K.check w false hx,h1,hj,h3,K.stays w hx,hs2,MapKept.run_setObj_map _ hb,Result.andThen,ChangeMaps.setBlock]
theorem MapV.entry (h:MapV w k b n f) (K:WideMaps.KeyLaw Tryz.prog k) (ht:Tryz.prog.underlying t=some (.map k e)) (hn:n<maxLen) {z:Value} (hz:∀ u:World,(zeroValue e).run Tryz.prog u=.ok z u) {x:Value} {l:Lit} (hx:keyOf Tryz.prog k x=some l) :
 ∃ st w1,(Instr.mapEntry t (.map (some b)) x).run Tryz.prog w=.ok (.tuple #[(f x).getD z,.int .i64 st]) w1∧w1.heap.size=w.heap.size∧w.grownBy w1 (some b)∧(Instr.lookup t (.map (some b)) x false).run Tryz.prog w1=.ok ((f x).getD z) w1∧
  ∀ v,∃ w',(Instr.entryStore t (.map (some b)) (.int .i64 st) v).run Tryz.prog w1=.ok () w'∧MapV w' k b (n+1) (putF f x v)∧w.grownBy w' (some b)∧w'.heap.size=w.heap.size:=by
 have KK:=Keyed.of_law K;have hM:=h;obtain ⟨D,h1,h2⟩:=h;have h1':=h1;obtain ⟨es,clock,hb,F,hs,hD⟩:=h1';obtain ⟨v0,st,es1,clock1,r1,r2,r3⟩:=WideElems.entry_then_store K ht hz hb F hx;obtain ⟨v0',st',es1',clock1',a1,a2,a3⟩:=zlT K ht hz hb F hx
 have ea:v0'=v0∧ChangeMaps.setBlock w b (.map es1' clock1')=ChangeMaps.setBlock w b (.map es1 clock1):=by
  rw [r1] at a1
  simp only [Result.ok.injEq,Value.tuple.injEq,Array.mk.injEq,List.cons.injEq] at a1
  exact ⟨a1.1.1.symm,a1.2.symm⟩
 have ev:v0=(f x).getD z:=by
  have:=hM.look KK ht (hz w) hx;rw [a2,ea.1] at this
  simpa using this
 obtain ⟨w2,q1,q2,q3,q4⟩:=hM.put KK ht hn hx v0
 have ew:w2=ChangeMaps.setBlock w b (.map es1 clock1):=by
  rw [ea.1,ea.2] at a3;rw [a3] at q1
  simpa using q1.symm
 have hl:(Instr.lookup t (.map (some b)) x false).run Tryz.prog (ChangeMaps.setBlock w b (.map es1 clock1))=.ok ((f x).getD z) (ChangeMaps.setBlock w b (.map es1 clock1)):=by
  rw [← ew];have:=q2.look KK ht (hz w2) hx;rw [zdI] at this;rw [this,ev];rfl
 rw [ev] at r1;refine ⟨(st:Int),_,r1,by simp [ChangeMaps.setBlock],⟨rfl,rfl,rfl,by simp [ChangeMaps.setBlock],fun i _ hi=>ChangeMaps.heap_setBlock_other hb _ (fun e=>hi (by rw [e]))⟩,hl,fun v=>?_⟩;obtain ⟨es',clock',r4,r5⟩:=r3 _ v (ChangeMaps.heap_setBlock_same hb _);obtain ⟨w',h3,h4,h5⟩:=h1.store KK ht hn hx (val:=v) (d:=.held v) (ps:=[]) rfl
 have ew:w'=ChangeMaps.setBlock w b (.map es' clock'):=by
  rw [r5] at h3
  cases h3
  rfl
 have e2:ChangeMaps.setBlock (ChangeMaps.setBlock w b (.map es1 clock1)) b (.map es' clock')=ChangeMaps.setBlock w b (.map es' clock'):=by simp [ChangeMaps.setBlock]
 refine ⟨w',?_,⟨_,h4,zj2 KK h1.isMap hx h2⟩,h5.grown,?_⟩
 ·rw [ew,← e2]
  exact r4
 ·rw [ew]
  simp [ChangeMaps.setBlock]
end
end Go.Proofs.YthbpmbgfddpffaaGreat
namespace Go.Proofs.YthbpmbgfddpffaaGreat
open Go.RowKit F256
open Go.Maps (Keyed)
theorem zha:laidOutB Tryz.prog=true:=by kernel_rfl
theorem keyS:Keyed Tryz.prog 9:=Maps.string_keyed Tryz.underlying9
theorem keyI:Keyed Tryz.prog 2:=Maps.int_keyed Tryz.underlying2
theorem zlU:WideMaps.KeyLaw Tryz.prog 189:=deep_law_laid zha (m:=2) (by omega) (of_decide_eq_true (by kernel_rfl)) (by kernel_rfl) (by kernel_rfl)
theorem zmP:WideMaps.KeyLaw Tryz.prog 192:=deep_law_laid zha (m:=2) (by omega) (of_decide_eq_true (by kernel_rfl)) (by kernel_rfl) (by kernel_rfl)
theorem zlV:Keyed Tryz.prog 189:=Keyed.of_law zlU
theorem zj3:Keyed Tryz.prog 192:=Keyed.of_law zmP
theorem wf64 {a:Int} (h:-9223372036854775808≤a∧a≤9223372036854775807):(Lit.int .i64 a).wf=true:=by
 have e1:IntKind.i64.min=-9223372036854775808:=by decide
 have e2:IntKind.i64.max=9223372036854775807:=by decide
 simp [Lit.wf,e1,e2,h]
theorem zlW {s:ByteArray} (h:s.size≤maxLen):∃ l,keyOf Tryz.prog 9 (.string s)=some l:=⟨_,WideMaps.keyOf_string_mk Tryz.underlying9 h⟩
theorem zhb {a:Int} (h:-9223372036854775808≤a∧a≤9223372036854775807):∃ l,keyOf Tryz.prog 2 (.int .i64 a)=some l:=⟨_,Maps.keyOf_int_mk Tryz.underlying2 (wf64 h)⟩
theorem zgx {a b:Int} (ha:-9223372036854775808≤a∧a≤9223372036854775807) (hb:-9223372036854775808≤b∧b≤9223372036854775807):∃ l,keyOf Tryz.prog 189 (.agg #[.int .i64 a,.int .i64 b])=some l:=by
 have h1:Tryz.prog.keyType 189=true:=by kernel_rfl
 have h2:Tryz.prog.cellsOf 189=2:=by kernel_rfl
 have h3:Tryz.prog.cellsOf 2=1:=by kernel_rfl
 obtain ⟨m,hm⟩:∃ m,Tryz.prog.types.size=m+1:=⟨Tryz.prog.types.size-1,by have:0<Tryz.prog.types.size:=of_decide_eq_true (by kernel_rfl);omega⟩
 have k1:∀ x:Int,(-9223372036854775808≤x∧x≤9223372036854775807)→Tryz.prog.keyLits (m+1) 2 [.int .i64 x]=some [.int .i64 x]:=fun x hx=>by
  unfold Program.keyLits;rw [Tryz.underlying2]
  simp [wf64 hx]
 have k2:∃ ls,Tryz.prog.keyLits (m+1+1) 189 [.int .i64 a,.int .i64 b]=some ls:=by
  unfold Program.keyLits;rw [Tryz.underlying189]
  simp [h2,h3,k1 a ha,k1 b hb]
 obtain ⟨ls,k3⟩:=k2;refine ⟨.string (keyBytes ls),?_⟩;unfold keyOf;rw [Tryz.underlying189]
 have h4:(Value.agg #[.int .i64 a,.int .i64 b]).formed Tryz.prog 189=true:=by simp [Value.formed,Tryz.underlying189,h2]
 have h5:(Value.agg #[.int .i64 a,.int .i64 b]).cells.toList=[.int .i64 a,.int .i64 b]:=rfl
 simp only [h1,h4,h5,hm,k3,Bool.and_self,if_true,Option.map_some]
theorem zfN {a b:Int} (ha:-9223372036854775808≤a∧a≤9223372036854775807) (hb:-9223372036854775808≤b∧b≤9223372036854775807):∃ l,keyOf Tryz.prog 192 (.agg #[.int .i64 a,.int .i64 b])=some l:=by
 have h1:Tryz.prog.keyType 192=true:=by kernel_rfl
 have h2:Tryz.prog.cellsOf 192=2:=by kernel_rfl
 have h3:Tryz.prog.cellsOf 2=1:=by kernel_rfl
 obtain ⟨m,hm⟩:∃ m,Tryz.prog.types.size=m+1:=⟨Tryz.prog.types.size-1,by have:0<Tryz.prog.types.size:=of_decide_eq_true (by kernel_rfl);omega⟩
 have k1:∀ x:Int,(-9223372036854775808≤x∧x≤9223372036854775807)→Tryz.prog.keyLits (m+1) 2 [.int .i64 x]=some [.int .i64 x]:=fun x hx=>by
  unfold Program.keyLits;rw [Tryz.underlying2]
  simp [wf64 hx]
 have k2:∃ ls,Tryz.prog.keyLits (m+1+1) 192 [.int .i64 a,.int .i64 b]=some ls:=by
  unfold Program.keyLits;rw [Tryz.underlying192]
  simp [h2,h3,k1 a ha,k1 b hb]
 obtain ⟨ls,k3⟩:=k2;refine ⟨.string (keyBytes ls),?_⟩;unfold keyOf;rw [Tryz.underlying192]
 have h4:(Value.agg #[.int .i64 a,.int .i64 b]).formed Tryz.prog 192=true:=by simp [Value.formed,Tryz.underlying192,h2]
 have h5:(Value.agg #[.int .i64 a,.int .i64 b]).cells.toList=[.int .i64 a,.int .i64 b]:=rfl
 simp only [h1,h4,h5,hm,k3,Bool.and_self,if_true,Option.map_some]
end Go.Proofs.YthbpmbgfddpffaaGreat
