/- Walk of slices.symMergeCmpFunc over records: the general case. -/
import Derived.Test.YtecofihpkcljcaaGreatZPwaitiaj
set_option linter.unusedVariables false
set_option linter.unusedSimpArgs false
set_option maxHeartbeats 16000000
namespace Go.Proofs.YtecofihpkcljcaaGreat
open Go.RowKit F256
theorem zjk (p q:Prop) [Decidable p] [Decidable q]:(p∧q)∨(p∧¬ q)∨¬ p:=by
 by_cases h:p
 ·by_cases k:q
  ·exact .inl ⟨h,k⟩
  ·exact .inr (.inl ⟨h,k⟩)
 ·exact .inr (.inr h)
theorem dT {x y:Nat} (h:x<y):decide ((x:Int)<(y:Int))=true:=decide_eq_true (by omega)
theorem dN {x y:Nat} (h:x<y):decide (x<y)=true:=decide_eq_true h
theorem dF {x y:Nat} (h:¬ x<y):decide ((x:Int)<(y:Int))=false:=decide_eq_false (by omega)
theorem dM {x y:Nat} (h:¬ x<y):decide (x<y)=false:=decide_eq_false h
theorem zjl (m e x:Nat):Sym.rot m m e x=x:=by
 unfold Sym.rot
 repeat' split
 all_goals omega
theorem zjm (s m x:Nat):Sym.rot s m m x=x:=by
 unfold Sym.rot
 repeat' split
 all_goals omega
theorem rot_a {s m e x:Nat} (h:x<s):Sym.rot s m e x=x:=by
 unfold Sym.rot
 repeat' split
 all_goals omega
theorem rot_b {s m e x:Nat} (h:e≤x):Sym.rot s m e x=x:=by
 unfold Sym.rot
 repeat' split
 all_goals omega
theorem rot_c {s m e mid x:Nat} (hm:mid+m=s+e) (h1:s≤m) (h2:m≤e) (h3:s≤x) (h4:x<mid):m≤Sym.rot s m e x∧Sym.rot s m e x<e:=by
 unfold Sym.rot
 repeat' split
 all_goals omega
theorem rot_d {s m e mid x:Nat} (hm:mid+m=s+e) (h1:s≤m) (h2:m≤e) (h3:mid≤x) (h4:x<e):s≤Sym.rot s m e x∧Sym.rot s m e x<m:=by
 unfold Sym.rot
 repeat' split
 all_goals omega
set_option maxRecDepth 1000000 in
theorem zd7 (x0:Nat→RecD) (enc:Nat→List Value) (p:Nat→Nat) (N blk cap lo hi:Nat) (w:World) (V:RowsV x0 enc N blk cap lo hi w p) (hlo:hi≤lo) (hN:N<1000000000) (a m b mid:Nat) (ham:a<m) (hmb:m<b) (hb:b≤N) (htag:∀ i j,a≤i→i<m→m≤j→j<b→p i<p j) (hs1:Sym.Srt (numL x0) p a m) (hs2:Sym.Srt (numL x0) p m b) (h0:m≠a+1) (h1:b≠m+1) (hmid:mid=(a+b)/2) (hx:mid<m∨m≤mid) (IH:∀ (p':Nat→Nat) (w':World) (a' m' b':Nat),b'-a'<b-a→RowsV x0 enc N blk cap lo hi w' p'→a'<m'→m'<b'→b'≤N→(∀ i j,a'≤i→i<m'→m'≤j→j<b'→p' i<p' j)→Sym.Srt (numL x0) p' a' m'→Sym.Srt (numL x0) p' m' b'→Calls Tryz.prog 127 #[.slice (some ⟨blk,0,none⟩) N cap,.int .i64 a',.int .i64 m',.int .i64 b',.func (.func 80) #[] #[]] w' (fun e w''=>e=.returned (.tuple #[])∧∃ q,RowsV x0 enc N blk cap lo hi w'' q∧Sym.Re a' b' p' q∧Sym.Srt (numL x0) q a' b'∧ChgL [blk] w' w'')) :
 Calls Tryz.prog 127 #[.slice (some ⟨blk,0,none⟩) N cap,.int .i64 a,.int .i64 m,.int .i64 b,.func (.func 80) #[] #[]] w (fun e w'=>e=.returned (.tuple #[])∧∃ q,RowsV x0 enc N blk cap lo hi w' q∧Sym.Re a b p q∧Sym.Srt (numL x0) q a b∧ChgL [blk] w w'):=by
 have HV0:=hid V;have HT:=hid htag;have HS1:=hid hs1;have HS2:=hid hs2;have HIH:=hid IH;have HMID:=hid hmid;obtain ⟨D,hD⟩:∃ D,D=m-a:=⟨_,rfl⟩
 have w0:IntKind.i64.wrap ((m:Int)-(a:Int))=(D:Int):=by rw [IntKind.wrap_i64];omega
 have d0:((D:Int)==1)=false:=by simp;omega
 obtain ⟨E,hE⟩:∃ E,E=b-m:=⟨_,rfl⟩
 have w9:IntKind.i64.wrap ((b:Int)-(m:Int))=(E:Int):=by rw [IntKind.wrap_i64];omega
 have d9:((E:Int)==1)=false:=by simp;omega
 have w1:IntKind.i64.wrap ((a:Int)+(b:Int))=((a+b:Nat):Int):=by rw [IntKind.wrap_i64];omega
 have e1:((a:Int)+(b:Int))/2=(mid:Int):=by omega
 obtain ⟨n,hn⟩:∃ n,n=mid+m:=⟨_,rfl⟩
 have w2:IntKind.i64.wrap ((mid:Int)+(m:Int))=(n:Int):=by rw [IntKind.wrap_i64];omega
 obtain ⟨P,hP⟩:∃ P,n=P+1:=⟨n-1,by omega⟩
 have w3:IntKind.i64.wrap ((n:Int)-1)=(P:Int):=by rw [IntKind.wrap_i64];omega
 obtain ⟨S0,R0,hSR⟩:∃ S0 R0:Nat,(mid<m∧S0=n-b∧R0=mid)∨(¬ mid<m∧S0=a∧R0=m):=by
  rcases hx with h | h
  ·exact ⟨_,_,.inl ⟨h,rfl,rfl⟩⟩
  ·exact ⟨_,_,.inr ⟨by omega,rfl,rfl⟩⟩
 have F:a≤S0∧n≤S0+b∧(S0=a∨n=S0+b)∧S0≤R0∧R0≤m∧R0≤mid∧(R0=m∨R0=mid):=by omega
 have HF:=hid F;have HN:Hid (n=mid+m∧n=P+1):=⟨hn,hP⟩;have HSR:=hid hSR;clear V htag hs1 hs2 h0 h1 hD hE IH hmid hn hP F
 rcases hSR with ⟨hx1,hS0,hR0⟩ | ⟨hx1,hS0,hR0⟩
 all_goals
  first
  | (
   have x4:(mid:Int)<(m:Int):=by exact Int.ofNat_lt.mpr (hx1:mid<m)
   have x5:IntKind.i64.wrap ((n:Int)-(b:Int))=(S0:Int):=by rw [IntKind.wrap_i64];have:=HN.out;have:=HF.out;omega
   have HSX:Hid (S0=n-b∧R0=mid):=⟨hS0,hR0⟩)
  | (
   have x4:=dF (hx1:¬ mid<m);have x5:=dM (hx1:¬ mid<m)
   have HSX:Hid (S0=a∧R0=m):=⟨hS0,hR0⟩)
  clear hx1 hS0 hR0
  go_enter Tryz.func127,Tryz.ntmps127
  go_wp2
  go_loopw [20,21] (fun vi vj wr=>∃ (i j:Nat),S0≤i∧i≤j∧j≤R0∧vi=.int .i64 i∧vj=.int .i64 j∧RowsV x0 enc N blk cap lo hi wr p∧(i=S0∨numL x0 (p (i-1)) (p (n-i)))∧(j=R0∨numL x0 (p (P-j)) (p j))∧ChgL [blk] w wr) (fun vi vj _=>(intOf vj).toNat-(intOf vi).toNat)
  case atStart=>exact ⟨S0,R0,Nat.le_refl _,HF.out.2.2.2.1,Nat.le_refl _,by have:=HSX.out;go_num,by have:=HSX.out;go_num,HV0.out,.inl rfl,.inl rfl,ChgL.refl _ _⟩
  case round=>
   obtain ⟨i,j,hmi,hij,hjb,rfl,rfl,V,hL,hR,C⟩:=hrel;have HC:=hid C;have HL:=hid hL;have HR:=hid hR;have HV:=hid V;clear C hL hR w0 w9 d0 d9 w1 e1 w2 w3
   by_cases hlt:i<j
   ·have t1:(i:Int)<(j:Int):=by omega
    obtain ⟨B,hB⟩:∃ B,B=(i+j)/2:=⟨_,rfl⟩
    have w1:IntKind.i64.wrap ((i:Int)+(j:Int))=((i+j:Nat):Int):=by rw [IntKind.wrap_i64];have:=HF.out;omega
    have e1:((i:Int)+(j:Int))/2=(B:Int):=by omega
    have hBi:i≤B:=by omega
    have hBj:B<j:=by omega
    obtain ⟨A,hA⟩:∃ A,A=P-B:=⟨_,rfl⟩;have hF:=HF.out;have hNN:=HN.out;have hMID:=HMID.out
    have hAm:m≤A∧A<b:=by omega
    have HAP:Hid (A+B=P):=(by omega:A+B=P)
    have w4:IntKind.i64.wrap ((P:Int)-(B:Int))=(A:Int):=by rw [IntKind.wrap_i64];omega
    have hAN:A<N:=by omega
    have hBN:B<N:=by omega
    have i1:(A:Int)<(N:Int):=by omega
    have i2:(B:Int)<(N:Int):=by omega
    have i3:(0:Int)≤(A:Int):=by omega
    have i4:(0:Int)≤(B:Int):=by omega
    have hsz:=(V.row.lt blk rfl);have HTG:Hid (p B<p A):=HT.out B A (by omega) (by omega) (by omega) (by omega);have VD:=View.drew V;have rgA:wr.drew.rangeAt blk (A*9) (enc (p A)):=VD.range hAN;have rgB:wr.drew.rangeAt blk (B*9) (enc (p B)):=VD.range hBN;have hsA:(enc (p A)).length=9:=VD.lens A hAN;have hsB:(enc (p B)).length=9:=VD.lens B hBN;have rdA:=VD.each A hAN;have rdB:=VD.each B hBN;obtain ⟨cA,hcA⟩:∃ c,c=enc (p A):=⟨_,rfl⟩;obtain ⟨cB,hcB⟩:∃ c,c=enc (p B):=⟨_,rfl⟩;rw [← hcA] at rgA hsA;rw [← hcB] at rgB hsB;have CC0:=zbB _ _ _ _ hi hi wr.drew rdA rdB;rw [← hcA,← hcB] at CC0;obtain ⟨c,hc⟩:∃ c:Int,c=numC (x0 (p A)) (x0 (p B)):=⟨_,rfl⟩;rw [← hc] at CC0;have HCN:=hid hc
    have CC:Calls Tryz.prog 80 (#[.agg cA.toArray,.agg cB.toArray]++#[]) wr.drew fun e w'=>e=.returned (.int .i64 c)∧Below wr.drew.heap.size wr.drew w':=by rw [Array.append_empty];exact CC0
    have HVD:=hid VD;clear CC0 hc hcA hcB rdA rdB hB hA hF hNN hMID VD V HV
    go_upto_region 35 with fail
    try rw [e1]
    refine zap 11 (fun w'=>w'.rangeAt blk (A*9) cA∧w'.rangeAt blk (B*9) cB) za7 ⟨rgA,rgB⟩ (fun hHeld=>?_);refine zjE 0 rfl ?_
    try simp only [Act.put,SL]
    refine zjE 1 rfl ?_
    try simp only [Act.put,SL]
    refine zjE 2 rfl ?_
    try simp only [Act.put,SL]
    refine zjE 3 rfl ?_
    try simp only [Act.put,SL]
    refine zjE 4 rfl ?_
    try simp only [Act.put,SL]
    refine zjE 5 rfl ?_
    try simp only [Act.put,SL]
    refine zad (i:=6) (oi:=_) 16 rfl (by kernel_rfl) (fun _ _ _ h=>h) (yieldsIf_load_mid (by kernel_rfl) 59 (.tmp 163) rfl blk (A*9) (by simp [Act.eval,Act.put]) cA _ (fun w h=>h.1) Tryz.underlying59 rfl (zag hsA)) (by assumption) ?_
    try simp only [Act.put,SL]
    refine zjE 7 rfl ?_
    try simp only [Act.put,SL]
    refine zjE 8 rfl ?_
    try simp only [Act.put,SL]
    refine zjE 9 rfl ?_
    try simp only [Act.put,SL]
    refine zad (i:=10) (oi:=_) 16 rfl (by kernel_rfl) (fun _ _ _ h=>h) (yieldsIf_load_mid (by kernel_rfl) 59 (.tmp 167) rfl blk (B*9) (by simp [Act.eval,Act.put]) cB _ (fun w h=>h.2) Tryz.underlying59 rfl (zag hsB)) (by assumption) ?_
    try simp only [Act.put,SL]
    refine zae (i:=11) (o:=_) rfl (by kernel_rfl) (by kernel_rfl) (fun KC hKC=>?_);refine za2 (by kernel_rfl) (.tmp 158) 80 #[] _ _ rfl (by simp [Act.eval,Act.put]) #[.agg cA.toArray,.agg cB.toArray] (by simp [Act.eval,Act.put]) Tryz.func80 (by kernel_rfl) (by kernel_rfl) CC ?_;rintro ee w5 ⟨rfl,b5⟩;refine ⟨_,rfl,?_⟩;refine hKC _ _ ?_;clear hKC KC
    try simp only [Act.put,SL]
    refine zjr 12 (v:=?_) rfl ?_ ?_
    rotate_left
    ·intro w' hSw;go_simp;try with_reducible rfl
    try simp only [Act.put,SL]
    obtain ⟨dd,hdd⟩:∃ d:Bool,d=decide (c<0):=⟨_,rfl⟩;have HDD:=hid hdd;rw [← hdd];clear hdd;refine zjr 13 (v:=?_) rfl ?_ ?_
    rotate_left
    ·intro w' hSw;go_simp;try with_reducible rfl
    try simp only [Act.put,SL]
    refine zah (by kernel_rfl) ?_ _;have HV5:Hid (RowsV x0 enc N blk cap lo hi w5 p):=View.below HVD.out b5 (by show hi≤wr.heap.size;omega);have HC5:Hid (ChgL [blk] w w5):=HC.out.trans ((ChgL.of_below ⟨rfl,rfl,rfl,Nat.le_refl _,fun _ _=>rfl⟩:ChgL [blk] wr wr.drew).trans (ChgL.of_below b5));clear HVD HC rgA rgB hsA hsB b5 hHeld CC hsz
    cases dd
    ·go_wp2
     go_roundw
     case rel=>
      refine ⟨B+1,j,by omega,by omega,by omega,by go_num,rfl,HV5.out,.inr ?_,HR.out,HC5.out⟩
      have h2:¬ c<0:=by simpa using HDD.out
      rw [HCN.out] at h2;rw [show B+1-1=B by omega,show n-(B+1)=A by have h8:=HN.out;have h9:=HAP.out;omega];exact zfd HTG.out h2
     case measure=>simp [intOf];omega
    ·go_wp2
     go_roundw
     case rel=>
      refine ⟨i,B,hmi,hBi,by omega,rfl,by go_num,HV5.out,HL.out,.inr ?_,HC5.out⟩
      have h2:c<0:=by simpa using HDD.out
      rw [HCN.out] at h2;rw [show P-B=A by have h9:=HAP.out;omega];exact zdN h2
     case measure=>simp [intOf];omega
   ·obtain rfl:i=j:=by omega
    clear V hij;obtain ⟨e,he⟩:∃ e,e=n-i:=⟨_,rfl⟩;have hF:=HF.out;have hNN:=HN.out;have hMID:=HMID.out
    have hie:mid+m=i+e:=by omega
    have hae:a≤i∧i≤m∧m≤e∧e≤b∧i≤mid∧mid≤e:=by omega
    have w5:IntKind.i64.wrap ((n:Int)-(i:Int))=(e:Int):=by rw [IntKind.wrap_i64];omega
    have SP:=Sym.split (za3 x0) (p:=p) (a:=a) (m:=m) (b:=b) (s:=i) (e:=e) (mid:=mid) HS1.out HS2.out hie hae.1 hae.2.1 hae.2.2.1 hae.2.2.2.1 (fun h3 h4=>by
     rcases HL.out with h5 | h5
     ·omega
     ·rw [← he] at h5;exact h5) (fun h3 h4=>by
     rcases HR.out with h5 | h5
     ·omega
     ·rw [show P-i=e-1 by omega] at h5;exact h5)
    obtain ⟨q0,hq0⟩:∃ q0:Nat→Nat,q0=fun k=>p (Sym.rot i m e k):=⟨_,rfl⟩;have HQ0:=hid hq0;rw [← hq0] at SP;have HSa:=hid SP.1;have HSb:=hid SP.2.1;have HSc:=hid SP.2.2.1;have HSd:=hid SP.2.2.2.1;have HX:Hid (∀ x y,a≤x→x<mid→mid≤y→y<b→numL x0 (q0 x) (q0 y)):=(fun x y h3 h4 h5 h6=>by rw [hq0];exact SP.2.2.2.2 x y h3 h4 h5 h6:∀ x y,a≤x→x<mid→mid≤y→y<b→numL x0 (q0 x) (q0 y));have HRe0:Hid (Sym.Re a b p q0):=(by rw [hq0];exact (Sym.Re.rots p hae.2.1 hae.2.2.1).mono hae.1 hae.2.2.2.1:Sym.Re a b p q0);have HO:Hid (a≤mid∧mid≤b∧b≤N∧mid≤N∧a<mid∧mid<b∧e≤N):=⟨by omega,by omega,by omega,by omega,by omega,by omega,by omega⟩
    have HT2:Hid (∀ x y,a≤x→x<i→i≤y→y<mid→q0 x<q0 y):=(fun x y h3 h4 h5 h6=>by
     have h7:=rot_c (e:=e) hie hae.2.1 hae.2.2.1 h5 h6;rw [hq0]
     show p (Sym.rot i m e x)<p (Sym.rot i m e y)
     rw [rot_a h4]
     exact HT.out x _ h3 (by omega) h7.1 (by omega):∀ x y,a≤x→x<i→i≤y→y<mid→q0 x<q0 y)
    have HT3':Hid (∀ q1,Sym.Re a mid q0 q1→∀ x y,mid≤x→x<e→e≤y→y<b→q1 x<q1 y):=(fun q1 k x y h3 h4 h5 h6=>by
     have h7:=rot_d (e:=e) hie hae.2.1 hae.2.2.1 h3 h4;rw [k.out (.inr h3),k.out (.inr (by omega)),hq0]
     show p (Sym.rot i m e x)<p (Sym.rot i m e y)
     rw [rot_b h5]
     exact HT.out _ y (by omega) h7.2 (by omega) h6:∀ q1,Sym.Re a mid q0 q1→∀ x y,mid≤x→x<e→e≤y→y<b→q1 x<q1 y)
    have HT3:∀ {q1},Sym.Re a mid q0 q1→∀ x y,mid≤x→x<e→e≤y→y<b→q1 x<q1 y:=fun k=>HT3'.out _ k;have HL3:∀ {q1},Sym.Re a mid q0 q1→Sym.Srt (numL x0) q1 mid e:=fun k=>HSc.out.congr (fun x h3 h4=>k.out (.inr h3));have HL4:∀ {q1},Sym.Re a mid q0 q1→Sym.Srt (numL x0) q1 e b:=fun k=>HSd.out.congr (fun x h3 h4=>k.out (.inr (by omega)))
    have HN1:¬ (i<m∧m<e)→∀ x,p (Sym.rot i m e x)=p x:=fun h x=>by
     by_cases h3:i=m
     ·rw [h3,zjl]
     ·have h4:e=m:=by omega
      rw [h4,zjm]
    have HN2:¬ (a<i∧i<mid)→Sym.Srt (numL x0) q0 a mid:=fun h=>by
     by_cases h3:a=i
     ·rw [h3];exact HSb.out
     ·have h4:mid=i:=by omega
      rw [h4];exact HSa.out
    have HN3:∀ {q1},Sym.Re a mid q0 q1→¬ (mid<e∧e<b)→Sym.Srt (numL x0) q1 mid b:=fun k h=>by
     by_cases h3:mid=e
     ·rw [h3];rw [h3] at k;exact HSd.out.congr (fun x h3 h4=>k.out (.inr h3))
     ·have h4:b=e:=by omega
      rw [h4];exact HL3 k
    clear hF hNN hMID SP hq0 he
    rcases zjk (i<m) (m<e) with h | h | h
    all_goals first
     | (
      have HK1:=hid h;have f1:=dT h.1;have g1:=dN h.1;have u1:(i:Int)<(m:Int):=Int.ofNat_lt.mpr h.1;have f1b:=dT h.2;have g1b:=dN h.2;have u1b:(m:Int)<(e:Int):=Int.ofNat_lt.mpr h.2;clear h;have CS:=zg5 x0 enc p N blk cap lo hi wr HV.out hlo hN i m e (.func (.func 80) #[] #[]) HK1.out.1 HK1.out.2 (by have h9:=HO.out;omega)
      go_wp2_with fail
      refine CS.mono ?_;rintro ee wv ⟨rfl,V6,C6⟩;have HV1:Hid (RowsV x0 enc N blk cap lo hi wv q0):=(by rw [HQ0.out];exact V6:RowsV x0 enc N blk cap lo hi wv q0);have HC1:=hid (HC.out.trans C6)
      clear V6 C6 CS)
     | (
      have HK1:Hid (¬ (i<m∧m<e)):=fun k=>h.2 k.2;have f1:=dT h.1;have g1:=dN h.1;have u1:(i:Int)<(m:Int):=Int.ofNat_lt.mpr h.1;have f1b:=dF h.2;have g1b:=dM h.2;clear h;obtain ⟨wv,rfl⟩:∃ y,y=wr:=⟨_,rfl⟩;have HV1:Hid (RowsV x0 enc N blk cap lo hi wv q0):=(HV.out.same (fun x _=>by rw [HQ0.out];exact (HN1 HK1.out x).symm):RowsV x0 enc N blk cap lo hi wv q0)
      have HC1:Hid (ChgL [blk] w wv):=HC.out)
     | (
      have HK1:Hid (¬ (i<m∧m<e)):=fun k=>h k.1;have f1:=dF h;have g1:=dM h;clear h;obtain ⟨wv,rfl⟩:∃ y,y=wr:=⟨_,rfl⟩;have HV1:Hid (RowsV x0 enc N blk cap lo hi wv q0):=(HV.out.same (fun x _=>by rw [HQ0.out];exact (HN1 HK1.out x).symm):RowsV x0 enc N blk cap lo hi wv q0)
      have HC1:Hid (ChgL [blk] w wv):=HC.out)
    all_goals rcases zjk (a<i) (i<mid) with h | h | h
    all_goals first
     | (
      have HK2:=hid h;have f2:=dT h.1;have g2:=dN h.1;have u2:(a:Int)<(i:Int):=Int.ofNat_lt.mpr h.1;have f2b:=dT h.2;have g2b:=dN h.2;have u2b:(i:Int)<(mid:Int):=Int.ofNat_lt.mpr h.2;clear h;have CS:=HIH.out q0 wv a i mid (by have h9:=HO.out;omega) HV1.out HK2.out.1 HK2.out.2 HO.out.2.2.2.1 HT2.out HSa.out HSb.out
      go_wp2_with fail
      refine CS.mono ?_;rintro ee wz ⟨rfl,q1,Vq,hRe1,hSo1,C7⟩;have HVq:=hid Vq;have HRe1:=hid hRe1;have HSo1:=hid hSo1;have HCq:=hid (HC1.out.trans C7)
      clear Vq hRe1 hSo1 C7 CS)
     | (
      have HK2:Hid (¬ (a<i∧i<mid)):=fun k=>h.2 k.2;have f2:=dT h.1;have g2:=dN h.1;have u2:(a:Int)<(i:Int):=Int.ofNat_lt.mpr h.1;have f2b:=dF h.2;have g2b:=dM h.2;clear h;obtain ⟨wz,rfl⟩:∃ y,y=wv:=⟨_,rfl⟩;obtain ⟨q1,hq1⟩:∃ q1,q1=q0:=⟨_,rfl⟩;have HVq:Hid (RowsV x0 enc N blk cap lo hi wz q1):=(by rw [hq1];exact HV1.out:RowsV x0 enc N blk cap lo hi wz q1);have HRe1:Hid (Sym.Re a mid q0 q1):=(by rw [hq1];exact Sym.Re.refl _ _ _:Sym.Re a mid q0 q1);have HSo1:Hid (Sym.Srt (numL x0) q1 a mid):=(by rw [hq1];exact HN2 HK2.out:Sym.Srt (numL x0) q1 a mid);have HCq:=hid HC1.out
      clear hq1)
     | (
      have HK2:Hid (¬ (a<i∧i<mid)):=fun k=>h k.1;have f2:=dF h;have g2:=dM h;clear h;obtain ⟨wz,rfl⟩:∃ y,y=wv:=⟨_,rfl⟩;obtain ⟨q1,hq1⟩:∃ q1,q1=q0:=⟨_,rfl⟩;have HVq:Hid (RowsV x0 enc N blk cap lo hi wz q1):=(by rw [hq1];exact HV1.out:RowsV x0 enc N blk cap lo hi wz q1);have HRe1:Hid (Sym.Re a mid q0 q1):=(by rw [hq1];exact Sym.Re.refl _ _ _:Sym.Re a mid q0 q1);have HSo1:Hid (Sym.Srt (numL x0) q1 a mid):=(by rw [hq1];exact HN2 HK2.out:Sym.Srt (numL x0) q1 a mid);have HCq:=hid HC1.out
      clear hq1)
    all_goals rcases zjk (mid<e) (e<b) with h | h | h
    all_goals first
     | (
      have HK3:=hid h;have f3:=dT h.1;have g3:=dN h.1;have u3:(mid:Int)<(e:Int):=Int.ofNat_lt.mpr h.1;have f3b:=dT h.2;have g3b:=dN h.2;have u3b:(e:Int)<(b:Int):=Int.ofNat_lt.mpr h.2;clear h;have CS:=HIH.out q1 wz mid e b (by have h9:=HO.out;omega) HVq.out HK3.out.1 HK3.out.2 HO.out.2.2.1 (HT3 HRe1.out) (HL3 HRe1.out) (HL4 HRe1.out)
      go_wp2_with fail
      refine CS.mono ?_;rintro ee wx ⟨rfl,r,Vr,hRe2,hSo2,C9⟩;have HVr:=hid Vr;have HRe2:=hid hRe2;have HSo2:=hid hSo2;have HCr:=hid (HCq.out.trans C9)
      clear Vr hRe2 hSo2 C9 CS)
     | (
      have HK3:Hid (¬ (mid<e∧e<b)):=fun k=>h.2 k.2;have f3:=dT h.1;have g3:=dN h.1;have u3:(mid:Int)<(e:Int):=Int.ofNat_lt.mpr h.1;have f3b:=dF h.2;have g3b:=dM h.2;clear h;obtain ⟨wx,rfl⟩:∃ y,y=wz:=⟨_,rfl⟩;obtain ⟨r,hr⟩:∃ r,r=q1:=⟨_,rfl⟩;have HVr:Hid (RowsV x0 enc N blk cap lo hi wx r):=(by rw [hr];exact HVq.out:RowsV x0 enc N blk cap lo hi wx r);have HRe2:Hid (Sym.Re mid b q1 r):=(by rw [hr];exact Sym.Re.refl _ _ _:Sym.Re mid b q1 r);have HSo2:Hid (Sym.Srt (numL x0) r mid b):=(by rw [hr];exact HN3 HRe1.out HK3.out:Sym.Srt (numL x0) r mid b);have HCr:=hid HCq.out
      clear hr)
     | (
      have HK3:Hid (¬ (mid<e∧e<b)):=fun k=>h k.1;have f3:=dF h;have g3:=dM h;clear h;obtain ⟨wx,rfl⟩:∃ y,y=wz:=⟨_,rfl⟩;obtain ⟨r,hr⟩:∃ r,r=q1:=⟨_,rfl⟩;have HVr:Hid (RowsV x0 enc N blk cap lo hi wx r):=(by rw [hr];exact HVq.out:RowsV x0 enc N blk cap lo hi wx r);have HRe2:Hid (Sym.Re mid b q1 r):=(by rw [hr];exact Sym.Re.refl _ _ _:Sym.Re mid b q1 r);have HSo2:Hid (Sym.Srt (numL x0) r mid b):=(by rw [hr];exact HN3 HRe1.out HK3.out:Sym.Srt (numL x0) r mid b);have HCr:=hid HCq.out
      clear hr)
    all_goals
     go_wp2
     go_end0
     have hl:=Sym.halves HO.out.1 HO.out.2.1 HX.out HRe1.out HRe2.out HSo1.out HSo2.out;exact ⟨rfl,_,HVr.out,HRe0.out.trans hl.2,hl.1,HCr.out⟩
theorem zd8 (x0:Nat→RecD) (enc:Nat→List Value) (N blk cap lo hi:Nat) (hlo:hi≤lo) (hN:N<1000000000):∀ (n:Nat) (p:Nat→Nat) (w:World) (a m b:Nat),b-a≤n→RowsV x0 enc N blk cap lo hi w p→a<m→m<b→b≤N→(∀ i j,a≤i→i<m→m≤j→j<b→p i<p j)→Sym.Srt (numL x0) p a m→Sym.Srt (numL x0) p m b→Calls Tryz.prog 127 #[.slice (some ⟨blk,0,none⟩) N cap,.int .i64 a,.int .i64 m,.int .i64 b,.func (.func 80) #[] #[]] w (fun e w'=>e=.returned (.tuple #[])∧∃ q,RowsV x0 enc N blk cap lo hi w' q∧Sym.Re a b p q∧Sym.Srt (numL x0) q a b∧ChgL [blk] w w')
 | 0,p,w,a,m,b,h,V,ham,hmb,hb,ht,h1,h2=>by omega
 | n+1,p,w,a,m,b,h,V,ham,hmb,hb,ht,h1,h2=>by
  have IH:∀ (p':Nat→Nat) (w':World) (a' m' b':Nat),b'-a'<b-a→RowsV x0 enc N blk cap lo hi w' p'→a'<m'→m'<b'→b'≤N→(∀ i j,a'≤i→i<m'→m'≤j→j<b'→p' i<p' j)→Sym.Srt (numL x0) p' a' m'→Sym.Srt (numL x0) p' m' b'→Calls Tryz.prog 127 #[.slice (some ⟨blk,0,none⟩) N cap,.int .i64 a',.int .i64 m',.int .i64 b',.func (.func 80) #[] #[]] w' (fun e w''=>e=.returned (.tuple #[])∧∃ q,RowsV x0 enc N blk cap lo hi w'' q∧Sym.Re a' b' p' q∧Sym.Srt (numL x0) q a' b'∧ChgL [blk] w' w''):=fun p' w' a' m' b' h' V'=>zd8 x0 enc N blk cap lo hi hlo hN n p' w' a' m' b' (by omega) V'
  by_cases c1:m=a+1
  ·exact zha x0 enc p N blk cap lo hi w V hlo hN a m b ham hmb hb ht h1 h2 c1
  ·by_cases c2:b=m+1
   ·exact zhb x0 enc p N blk cap lo hi w V hlo hN a m b ham hmb hb ht h1 h2 c1 c2
   ·by_cases c3:(a+b)/2<m
    ·exact zd7 x0 enc p N blk cap lo hi w V hlo hN a m b _ ham hmb hb ht h1 h2 c1 c2 rfl (.inl c3) IH
    ·exact zd7 x0 enc p N blk cap lo hi w V hlo hN a m b _ ham hmb hb ht h1 h2 c1 c2 rfl (.inr (by omega)) IH
theorem zdp (x0:Nat→RecD) (enc:Nat→List Value) (p:Nat→Nat) (N blk cap lo hi:Nat) (w:World) (V:RowsV x0 enc N blk cap lo hi w p) (hlo:hi≤lo) (hN:N<1000000000) (a m b:Nat) (ham:a<m) (hmb:m<b) (hb:b≤N) (htag:∀ i j,a≤i→i<m→m≤j→j<b→p i<p j) (hs1:Sym.Srt (numL x0) p a m) (hs2:Sym.Srt (numL x0) p m b):Calls Tryz.prog 127 #[.slice (some ⟨blk,0,none⟩) N cap,.int .i64 a,.int .i64 m,.int .i64 b,.func (.func 80) #[] #[]] w (fun e w'=>e=.returned (.tuple #[])∧∃ q,RowsV x0 enc N blk cap lo hi w' q∧Sym.Re a b p q∧Sym.Srt (numL x0) q a b∧ChgL [blk] w w'):=zd8 x0 enc N blk cap lo hi hlo hN (b-a) p w a m b (Nat.le_refl _) V ham hmb hb htag hs1 hs2
structure Good (lt:Nat→Nat→Prop) (q:Nat→Nat) (a b:Nat):Prop where
 srt:Sym.Srt lt q a b
 own:∀ i,a≤i→i<b→a≤q i∧q i<b
theorem Good.congr {lt:Nat→Nat→Prop} {q q':Nat→Nat} {a b:Nat} (h:Good lt q a b) (e:∀ i,a≤i→i<b→q' i=q i):Good lt q' a b:=⟨h.srt.congr e,fun i h1 h2=>by rw [e i h1 h2];exact h.own i h1 h2⟩
inductive Blks (lt:Nat→Nat→Prop) (q:Nat→Nat) (s N:Nat):Nat→Prop
 | nil {a:Nat} (h:N≤a):Blks lt q s N a
 | cons {a:Nat} (h:a<N) (g:Good lt q a (min (a+s) N)) (r:Blks lt q s N (a+s)):Blks lt q s N a
theorem Blks.congr {lt:Nat→Nat→Prop} {q q':Nat→Nat} {s N a:Nat} (h:Blks lt q s N a) (e:∀ i,a≤i→q' i=q i):Blks lt q' s N a:=by
 induction h with
 | nil h=>exact .nil h
 | cons h g r ih=>exact .cons h (g.congr fun i h1 _=>e i h1) (ih fun i h1=>e i (by omega))
inductive Done (lt:Nat→Nat→Prop) (q:Nat→Nat) (s:Nat):Nat→Prop
 | zero:Done lt q s 0
 | snoc {a:Nat} (r:Done lt q s a) (g:Good lt q a (a+s)):Done lt q s (a+s)
theorem Done.congr {lt:Nat→Nat→Prop} {q q':Nat→Nat} {s a:Nat} (h:Done lt q s a) (e:∀ i,i<a→q' i=q i):Done lt q' s a:=by
 induction h with
 | zero=>exact .zero
 | snoc r g ih=>exact .snoc (ih fun i h1=>e i (by omega)) (g.congr fun i _ h2=>e i h2)
theorem Done.app {lt:Nat→Nat→Prop} {q:Nat→Nat} {s N a:Nat} (hs:0<s) (h:Done lt q s a) (hN:a≤N) (b:Blks lt q s N a):Blks lt q s N 0:=by
 induction h with
 | zero=>exact b
 | snoc r g ih=>exact ih (by omega) (.cons (by omega) (by rw [Nat.min_eq_left hN];exact g) b)
theorem Blks.last {lt:Nat→Nat→Prop} {q:Nat→Nat} {s N a:Nat} (g:Good lt q a N) (h:N≤a+s):Blks lt q s N a:=by
 by_cases c:a<N
 ·exact .cons c (by rw [Nat.min_eq_right h];exact g) (.nil h)
 ·exact .nil (by omega)
theorem Blks.all {lt:Nat→Nat→Prop} {q:Nat→Nat} {s N:Nat} (h:Blks lt q s N 0) (hs:N≤s):Sym.Srt lt q 0 N:=by
 cases h with
 | nil h=>exact fun i j _ _ h3=>by omega
 | cons h g r=>
  have:=g.srt;rw [Nat.min_eq_right (by omega)] at this;exact this
theorem Blks.open {lt:Nat→Nat→Prop} {q:Nat→Nat} {s N a:Nat} (h:Blks lt q s N a) (ha:a<N):Good lt q a (min (a+s) N)∧Blks lt q s N (a+s):=by
 cases h with
 | nil h=>omega
 | cons h g r=>exact ⟨g,r⟩
theorem Good.merged {lt:Nat→Nat→Prop} {q q':Nat→Nat} {a m b:Nat} (g1:Good lt q a m) (g2:Good lt q m b) (am:a≤m) (mb:m≤b) (k:Sym.Re a b q q') (s:Sym.Srt lt q' a b):Good lt q' a b:=⟨s,fun i h1 h2=>by
 obtain ⟨j,hj,e⟩:=k.from ⟨h1,h2⟩
 rw [e]
 by_cases c:j<m
 ·have:=g1.own j hj.1 c
  omega
 ·have:=g2.own j (by omega) hj.2
  omega⟩
theorem Good.tags {lt:Nat→Nat→Prop} {q:Nat→Nat} {a m b:Nat} (g1:Good lt q a m) (g2:Good lt q m b):∀ i j,a≤i→i<m→m≤j→j<b→q i<q j:=fun i j h1 h2 h3 h4=>by
 have:=g1.own i h1 h2;have:=g2.own j h3 h4;omega
theorem Good.fresh {lt:Nat→Nat→Prop} {q q':Nat→Nat} {a b:Nat} (e:∀ i,a≤i→q i=i) (k:Sym.Re a b q q') (s:Sym.Srt lt q' a b):Good lt q' a b:=⟨s,fun i h1 h2=>by
 obtain ⟨j,hj,e1⟩:=k.from ⟨h1,h2⟩
 rw [e1,e j hj.1]
 exact hj⟩
set_option maxRecDepth 1000000 in
theorem zhc (x0:Nat→RecD) (enc:Nat→List Value) (N blk cap lo hi:Nat) (w:World) (V:RowsV x0 enc N blk cap lo hi w (fun i=>i)) (hlo:hi≤lo) (hN:N<1000000000) :
 Calls Tryz.prog 102 #[.slice (some ⟨blk,0,none⟩) N cap,.int .i64 N,.func (.func 80) #[] #[]] w (fun e w'=>e=.returned (.tuple #[])∧∃ q,RowsV x0 enc N blk cap lo hi w' q∧Sym.Re 0 N (fun i=>i) q∧Sym.Srt (numL x0) q 0 N∧ChgL [blk] w w'):=by
 have HV0:Hid (RowsV x0 enc N blk cap lo hi w (fun i=>i)):=V;clear V
 go_enter Tryz.func102,Tryz.ntmps102
 go_wp2
 go_loopw [7,8] (fun va vb wr=>∃ (a B:Nat) (q:Nat→Nat),B=a+20∧a≤N∧va=.int .i64 a∧vb=.int .i64 B∧RowsV x0 enc N blk cap lo hi wr q∧Done (numL x0) q 20 a∧(∀ i,a≤i→q i=i)∧Sym.Re 0 N (fun i=>i) q∧ChgL [blk] w wr) (fun va _ _=>N-(intOf va).toNat)
 case atStart=>exact ⟨0,20,(fun i=>i),rfl,Nat.zero_le _,by go_num,by go_num,HV0.out,.zero,fun i _=>rfl,Sym.Re.refl _ _ _,ChgL.refl _ _⟩
 case round=>
  obtain ⟨a,B,q,hB,haN,rfl,rfl,V,hD,hid,hRe,C⟩:=hrel;have HC:Hid (ChgL [blk] w wr):=C;have HD:Hid (Done (numL x0) q 20 a):=hD;have HI:Hid (∀ i,a≤i→q i=i):=hid;have HRe:Hid (Sym.Re 0 N (fun i=>i) q):=hRe;have HB:Hid (B=a+20):=hB;clear C hD hid hRe
  have w1:IntKind.i64.wrap ((B:Int)+20)=((B+20:Nat):Int):=by rw [IntKind.wrap_i64];omega
  by_cases hlt:B≤N
  ·have t1:(B:Int)≤(N:Int):=by omega
   have CS:=zc7 x0 enc q N blk cap lo hi wr V hlo hN a B (by omega) hlt (fun i j h1 h2 h3=>by rw [HI.out i h1,HI.out j (by omega)];exact h2);clear V hB
   go_wp2_with fail
   refine CS.mono ?_;rintro ee w2 ⟨rfl,q2,V2,hRe2,hS2,C2⟩;have HV2:Hid (RowsV x0 enc N blk cap lo hi w2 q2):=V2;have HRe2:Hid (Sym.Re a B q q2):=hRe2;have HS2:Hid (Sym.Srt (numL x0) q2 a B):=hS2;have HC2:Hid (ChgL [blk] w w2):=HC.out.trans C2;clear V2 hRe2 hS2 C2 CS;go_wp2
   go_roundw
   case rel=>
    have hB:=HB.out;have hk:=HRe2.out;exact ⟨B,B+20,q2,rfl,hlt,rfl,by go_num,HV2.out,by rw [hB] at hk ⊢;exact .snoc (HD.out.congr fun i h1=>hk.out (.inl h1)) (Good.fresh HI.out hk (by rw [← hB];exact HS2.out)),fun i h1=>by rw [hk.out (.inr h1)];exact HI.out i (by omega),HRe.out.trans (hk.mono (Nat.zero_le _) hlt),HC2.out⟩
   case measure=>have hB:=HB.out;simp [intOf];omega
  ·have HNL:Hid (¬ B≤N):=hlt
   have f1:decide ((B:Int)≤(N:Int))=false:=decide_eq_false (by omega);have g1:decide (B≤N)=false:=decide_eq_false hlt;have CS:=zc7 x0 enc q N blk cap lo hi wr V hlo hN a N haN (Nat.le_refl _) (fun i j h1 h2 h3=>by rw [HI.out i h1,HI.out j (by omega)];exact h2);clear V hB w1 hlt
   go_wp2_with fail
   refine CS.mono ?_;rintro ee w2 ⟨rfl,q2,V2,hRe2,hS2,C2⟩;have HV2:Hid (RowsV x0 enc N blk cap lo hi w2 q2):=V2;have HRe2:Hid (Sym.Re a N q q2):=hRe2;have HS2:Hid (Sym.Srt (numL x0) q2 a N):=hS2;have HC2:Hid (ChgL [blk] w w2):=HC.out.trans C2;clear V2 hRe2 hS2 C2 CS;have HBl:Hid (Blks (numL x0) q2 20 N 0):=Done.app (by decide) (HD.out.congr fun i h1=>HRe2.out.out (.inl h1)) haN (Blks.last (Good.fresh HI.out HRe2.out HS2.out) (by have h1:=HB.out;have h2:=HNL.out;omega));have HReN:Hid (Sym.Re 0 N (fun i=>i) q2):=HRe.out.trans (HRe2.out.mono (Nat.zero_le _) (Nat.le_refl _));clear HD HI HRe HRe2 HS2 HC HNL HB f1 g1;go_wp2
   go_loopw [6] (fun vs wr=>∃ (s:Nat) (q:Nat→Nat),20≤s∧s<2000000000∧vs=.int .i64 s∧RowsV x0 enc N blk cap lo hi wr q∧Blks (numL x0) q s N 0∧Sym.Re 0 N (fun i=>i) q∧ChgL [blk] w wr) (fun vs _=>N-(intOf vs).toNat)
   case atStart=>exact ⟨20,q2,Nat.le_refl _,by decide,by go_num,HV2.out,HBl.out,HReN.out,HC2.out⟩
   case round=>
    obtain ⟨s,q3,hs20,hs2,rfl,V,hBl,hRe,C⟩:=hrel;have HVs:Hid (RowsV x0 enc N blk cap lo hi wr q3):=V;have HCs:Hid (ChgL [blk] w wr):=C;have HBs:Hid (Blks (numL x0) q3 s N 0):=hBl;have HRes:Hid (Sym.Re 0 N (fun i=>i) q3):=hRe;clear C hBl hRe V HV2 HBl HReN HC2
    by_cases hlt:s<N
    ·have t2:(s:Int)<(N:Int):=by omega
     obtain ⟨T,hT⟩:∃ T,T=2*s:=⟨_,rfl⟩;have HT:Hid (T=2*s):=hT
     have w2:IntKind.i64.wrap (2*(s:Int))=(T:Int):=by rw [IntKind.wrap_i64];omega
     have w3:IntKind.i64.wrap ((s:Int)*2)=(T:Int):=by rw [IntKind.wrap_i64];omega
     clear hT;go_wp2
     go_loopw [7,8] (fun va vb wr=>∃ (a B:Nat) (q:Nat→Nat),B=a+T∧a≤N∧va=.int .i64 a∧vb=.int .i64 B∧RowsV x0 enc N blk cap lo hi wr q∧Done (numL x0) q T a∧Blks (numL x0) q s N a∧Sym.Re 0 N (fun i=>i) q∧ChgL [blk] w wr) (fun va _ _=>N-(intOf va).toNat)
     case atStart=>exact ⟨0,T,q3,by omega,Nat.zero_le _,by go_num,by go_num,HVs.out,.zero,HBs.out,HRes.out,HCs.out⟩
     case round=>
      obtain ⟨a,B,q4,hB,haN,rfl,rfl,V,hD,hBl,hRe,C⟩:=hrel;have hT:=HT.out;have HC:Hid (ChgL [blk] w wr):=C;have HD:Hid (Done (numL x0) q4 T a):=hD;have HBl:Hid (Blks (numL x0) q4 s N a):=hBl;have HRe:Hid (Sym.Re 0 N (fun i=>i) q4):=hRe;have HB:Hid (B=a+T):=hB;have HV4:Hid (RowsV x0 enc N blk cap lo hi wr q4):=V;clear C hD hBl hRe HVs HBs HRes HCs V;obtain ⟨M,hM⟩:∃ M,M=a+s:=⟨_,rfl⟩;have HM:Hid (M=a+s):=hM
      have w4:IntKind.i64.wrap ((a:Int)+(s:Int))=(M:Int):=by rw [IntKind.wrap_i64];omega
      have w5:IntKind.i64.wrap ((B:Int)+(T:Int))=((B+T:Nat):Int):=by rw [IntKind.wrap_i64];omega
      by_cases hle:B≤N
      ·have t3:(B:Int)≤(N:Int):=by omega
       have o1:=HBl.out.open (by omega);rw [← hM] at o1;have o2:=o1.2.open (by omega);rw [Nat.min_eq_left (by omega)] at o1;rw [show M+s=B by omega,Nat.min_eq_left hle] at o2;have HG1:Hid (Good (numL x0) q4 a M):=o1.1;have HG2:Hid (Good (numL x0) q4 M B):=o2.1;have HBr:Hid (Blks (numL x0) q4 s N B):=o2.2;have CS:=zdp x0 enc q4 N blk cap lo hi wr HV4.out hlo hN a M B (by omega) (by omega) hle (HG1.out.tags HG2.out) HG1.out.srt HG2.out.srt;clear o1 o2 hB hM hT
       go_wp2_with fail
       refine CS.mono ?_;rintro ee w9 ⟨rfl,q5,V2,hRe2,hS2,C2⟩;have HV2:Hid (RowsV x0 enc N blk cap lo hi w9 q5):=V2;have HRe2:Hid (Sym.Re a B q4 q5):=hRe2;have HS2:Hid (Sym.Srt (numL x0) q5 a B):=hS2;have HC2:Hid (ChgL [blk] w w9):=HC.out.trans C2;clear V2 hRe2 hS2 C2 CS;go_wp2
       go_roundw
       case rel=>
        have hB:=HB.out;have hM:=HM.out;have hT:=HT.out;have hk:=HRe2.out
        exact ⟨B,B+T,q5,rfl,hle,rfl,by go_num,HV2.out,by
         have g:=HG1.out.merged HG2.out (by omega) (by omega) hk HS2.out;rw [hB] at hk g ⊢
         exact .snoc (HD.out.congr fun i h1=>hk.out (.inl h1)) g,HBr.out.congr (fun i h1=>hk.out (.inr h1)),HRe.out.trans (hk.mono (Nat.zero_le _) hle),HC2.out⟩
       case measure=>have hB:=HB.out;have hT:=HT.out;simp [intOf];omega
      ·have HNL:Hid (¬ B≤N):=hle
       have f1:decide ((B:Int)≤(N:Int))=false:=decide_eq_false (by omega);have g1:decide (B≤N)=false:=decide_eq_false hle
       by_cases hm:M<N
       ·have t3:(M:Int)<(N:Int):=by omega
        have o1:=HBl.out.open (by omega);rw [← hM] at o1;have o2:=o1.2.open (by omega);rw [Nat.min_eq_left (by omega)] at o1;rw [Nat.min_eq_right (by omega)] at o2;have HG1:Hid (Good (numL x0) q4 a M):=o1.1;have HG2:Hid (Good (numL x0) q4 M N):=o2.1;have CS:=zdp x0 enc q4 N blk cap lo hi wr HV4.out hlo hN a M N (by omega) hm (Nat.le_refl _) (HG1.out.tags HG2.out) HG1.out.srt HG2.out.srt;clear o1 o2 hB hM hT hle
        go_wp2_with fail
        refine CS.mono ?_;rintro ee w9 ⟨rfl,q5,V2,hRe2,hS2,C2⟩;have HV2:Hid (RowsV x0 enc N blk cap lo hi w9 q5):=V2;have HRe2:Hid (Sym.Re a N q4 q5):=hRe2;have HS2:Hid (Sym.Srt (numL x0) q5 a N):=hS2;have HC2:Hid (ChgL [blk] w w9):=HC.out.trans C2;clear V2 hRe2 hS2 C2 CS;go_wp2
        go_roundw
        case rel=>
         have hB:=HB.out;have hM:=HM.out;have hT:=HT.out;have hNL:=HNL.out;have hk:=HRe2.out;exact ⟨T,q5,by omega,by omega,by go_num,HV2.out,Done.app (by omega) (HD.out.congr fun i h1=>hk.out (.inl h1)) haN (Blks.last (HG1.out.merged HG2.out (by omega) (by omega) hk HS2.out) (by omega)),HRe.out.trans (hk.mono (Nat.zero_le _) (Nat.le_refl _)),HC2.out⟩
        case measure=>have hT:=HT.out;simp [intOf];omega
       ·have f2:decide ((M:Int)<(N:Int))=false:=decide_eq_false (by omega)
        have g2:decide (M<N)=false:=decide_eq_false hm
        have HBT:Hid (Blks (numL x0) q4 T N a):=(by
         by_cases c:a<N
         ·have o1:=(HBl.out.open c).1
          rw [Nat.min_eq_right (by omega)] at o1;exact Blks.last o1 (by omega)
         ·exact .nil (by omega):Blks (numL x0) q4 T N a)
        clear hB hM hT hle hm;go_wp2
        go_roundw
        case rel=>have hT:=HT.out;exact ⟨T,q4,by omega,by omega,by go_num,HV4.out,Done.app (by omega) HD.out haN HBT.out,HRe.out,HC.out⟩
        case measure=>have hT:=HT.out;simp [intOf];omega
    ·have f2:decide ((s:Int)<(N:Int))=false:=decide_eq_false (by omega)
     have g2:decide (s<N)=false:=decide_eq_false hlt;have HNL:Hid (N≤s):=(by omega:N≤s);clear hlt;go_wp2
     go_end0
     exact ⟨rfl,q3,HVs.out,HRes.out,HBs.out.all HNL.out,HCs.out⟩
set_option maxRecDepth 1000000 in
theorem zdV (x0:Nat→RecD) (enc:Nat→List Value) (N blk cap lo hi:Nat) (w:World) (V:RowsV x0 enc N blk cap lo hi w (fun i=>i)) (hlo:hi≤lo) (hN:N<1000000000) :
 Calls Tryz.prog 79 #[.slice (some ⟨blk,0,none⟩) N cap,.func (.func 80) #[] #[]] w (fun e w'=>e=.returned (.tuple #[])∧∃ q,RowsV x0 enc N blk cap lo hi w' q∧Sym.Re 0 N (fun i=>i) q∧Sym.Srt (numL x0) q 0 N∧ChgL [blk] w w'):=by
 have CS:=zhc x0 enc N blk cap lo hi w V hlo hN;clear V
 go_enter Tryz.func79,Tryz.ntmps79
 go_wp2_with fail
 refine CS.mono ?_;rintro ee w2 ⟨rfl,q,V2,hRe,hS,C⟩;have HV2:=hid V2;have HRe:=hid hRe;have HS:=hid hS;have HC:=hid C;clear V2 hRe hS C CS;go_wp2
 go_end0
 exact ⟨rfl,q,HV2.out,HRe.out,HS.out,HC.out⟩
set_option maxRecDepth 1000000 in
theorem zew (w:World):Calls Tryz.prog 126 #[.slice none 0 0,.int .i64 0,.int .i64 0,.func (.func 80) #[] #[]] w (fun e w'=>e=.returned (.tuple #[])∧Below w.heap.size w w'):=by
 go_enter Tryz.func126,Tryz.ntmps126
 go_wp2
 go_loopw [8] (fun vi wr=>vi=.int .i64 1∧Below w.heap.size w wr) (fun _ _=>0)
 case atStart=>exact ⟨by go_num,⟨rfl,rfl,rfl,Nat.le_refl _,fun _ _=>rfl⟩⟩
 case round=>
  obtain ⟨rfl,hb⟩:=hrel;go_wp2
  go_end0
  exact ⟨rfl,hb⟩
set_option maxRecDepth 1000000 in
theorem zhd (w:World):Calls Tryz.prog 102 #[.slice none 0 0,.int .i64 0,.func (.func 80) #[] #[]] w (fun e w'=>e=.returned (.tuple #[])∧Below w.heap.size w w'):=by
 have CS:=zew w
 go_enter Tryz.func102,Tryz.ntmps102
 go_wp2
 go_loopw [7,8] (fun va vb wr=>va=.int .i64 0∧vb=.int .i64 20∧wr=w) (fun _ _ _=>0)
 case atStart=>exact ⟨by go_num,by go_num,rfl⟩
 case round=>
  obtain ⟨rfl,rfl,rfl⟩:=hrel
  go_wp2_with fail
  refine CS.mono ?_;rintro ee w2 ⟨rfl,hb⟩;have HB:=hid hb;clear hb CS;go_wp2
  go_loopw [6] (fun vs w'=>vs=.int .i64 20∧Below wr.heap.size wr w') (fun _ _=>0)
  case atStart=>exact ⟨by go_num,HB.out⟩
  case round=>
   obtain ⟨rfl,hb⟩:=hrel;go_wp2
   go_end0
   exact ⟨rfl,hb⟩
set_option maxRecDepth 1000000 in
theorem zdW (w:World):Calls Tryz.prog 79 #[.slice none 0 0,.func (.func 80) #[] #[]] w (fun e w'=>e=.returned (.tuple #[])∧Below w.heap.size w w'):=by
 have CS:=zhd w
 go_enter Tryz.func79,Tryz.ntmps79
 go_wp2_with fail
 refine CS.mono ?_;rintro ee w2 ⟨rfl,hb⟩;go_wp2
 go_end0
 exact ⟨rfl,hb⟩
theorem zc8:(Tryz.prog.info? 59).map (·.size)=some 9:=by kernel_rfl
set_option maxRecDepth 100000 in
theorem zhe (a r:RecD) (ca cr:List Value) (hi p:Nat) (w:World) (ha:zab.rd w hi a ca) (hr:zab.rd w hi r cr) (hB:Box w p cr.toArray 59) (hhi:hi≤w.heap.size) :
 Calls Tryz.prog 106 #[.agg ca.toArray,.pointer (some ⟨p,0,none⟩)] w (zaX (SameR a r) w):=by
 have hpl:=hB.lt;have B0:=zaF w ca.toArray 59;have HB0:=hid B0.bel;have X1:Box (w.alloc (.cells ca.toArray 59)) w.heap.size ca.toArray 59:=B0.b1;have X2:Box (w.alloc (.cells ca.toArray 59)) p cr.toArray 59:=hB.below B0.bel hpl;have CS:=zfa a r ca cr hi hi (w.alloc (.cells ca.toArray 59)) (zab.rd_below ha B0.bel hhi) (zab.rd_below hr B0.bel hhi) (Nat.le_trans hhi B0.bel.size) (Nat.le_trans hhi B0.bel.size);obtain ⟨a6,ak6,a7,ak7,a8,ak8,rfl,-⟩:=zaz ha;obtain ⟨b6,bk6,b7,bk7,b8,bk8,rfl,-⟩:=zaz hr;clear B0 hB
 go_enter Tryz.func106,Tryz.ntmps106
 go_wp2_with (first | (refine zaN 59 (.tmp 2) rfl rfl (w.heap.size) rfl X1 Tryz.underlying59 zc8 rfl ?_) | (refine zaN 59 (.tmp 1) rfl rfl p rfl X2 Tryz.underlying59 zc8 rfl ?_))
 refine CS.mono ?_;rintro e w1 ⟨t,rfl,ht,b1⟩;have HB1:=hid (HB0.out.trans (b1.mono HB0.out.size));have HT:=hid ht;clear CS b1 ht X1 X2;go_wp2;go_ret;exact ⟨t,rfl,HT.out,HB1.out⟩
set_option maxRecDepth 100000 in
theorem zex (v:Value) (m:Nat) (y:Nat→RecD) (r:RecD) (cr:List Value) (hi p:Nat) (w:World) (h:(zab.slice 59).rd w hi (m,y) [v]) (hr:zab.rd w hi r cr) (hB:Box w p cr.toArray 59) (hhi:hi≤w.heap.size) (hm:m≤1048576) :
 Calls Tryz.prog 82 #[v,.func (.func 106) #[] #[.pointer (some ⟨p,0,none⟩)]] w fun e w'=>((e=.returned (.int .i64 (-1))∧∀ i,i<m→¬ SameR (y i) r)∨∃ i:Nat,i<m∧e=.returned (.int .i64 (i:Int))∧SameR (y i) r)∧Below w.heap.size w w':=by
 obtain ⟨ao,cap,e,hmm,hc⟩:=h
 obtain rfl:v=.slice ao m cap:=by simpa using e
 have hpl:=hB.lt;have HBx:=hid hB;have HR:=hid hr;have HCC:=hc;have HC:=hid hc;clear hB hr e hmm hc HCC
 go_enter Tryz.func82,Tryz.ntmps82
 go_wp2
 go_loopw [8] (fun z wr=>∃ k:Nat,k≤m∧z=.int .i64 k∧(∀ t,t<k→¬ SameR (y t) r)∧Below w.heap.size w wr) (fun z _=>m-(intOf z).toNat)
 case atStart=>exact ⟨0,Nat.zero_le _,rfl,fun t ht=>by omega,Below.refl _ _⟩
 case round=>
  obtain ⟨k,hk,rfl,hall,hbl⟩:=hrel;obtain ⟨wx,rfl⟩:∃ y,y=wr:=⟨_,rfl⟩;have HALL:=hid hall;have HBL:=hid hbl;have zx:=hbl.size;clear hall
  by_cases hlt:k<m
  ·obtain ⟨b,off,rfl,hbh,hel⟩:=HC.out (by omega)
   obtain ⟨ce,hy,hcell⟩:=zau (t:=59) hel hbl hhi hbh hlt;have CS:=zhe (y k) r ce cr hi p wx hy (zab.rd_below HR.out hbl hhi) (HBx.out.below hbl hpl) (by omega);obtain ⟨c6,ck6,c7,ck7,c8,ck8,rfl,-⟩:=zaz hy;have hcell:∀ j,j<9→wx.cell? ⟨b,off+(k*9+j),none⟩=[.int .i64 (y k).kind,.int .i64 (y k).seq,.string (y k).name,.int .i64 (y k).length,.int .i64 (y k).group,.int .i64 (y k).row,.slice c6 (y k).rows.1 ck6,.slice c7 (y k).data.1 ck7,.slice c8 (y k).delta.1 ck8][j]?:=hcell
   have s_0:wx.cell? ⟨b,off+k*9,none⟩=some (.int .i64 (y k).kind):=by have:=hcell 0 (by decide);rw [← Nat.add_assoc] at this;exact this
   have s_1:wx.cell? ⟨b,off+k*9+1,none⟩=some (.int .i64 (y k).seq):=by have:=hcell 1 (by decide);rw [← Nat.add_assoc] at this;exact this
   have s_2:wx.cell? ⟨b,off+k*9+2,none⟩=some (.string (y k).name):=by have:=hcell 2 (by decide);rw [← Nat.add_assoc] at this;exact this
   have s_3:wx.cell? ⟨b,off+k*9+3,none⟩=some (.int .i64 (y k).length):=by have:=hcell 3 (by decide);rw [← Nat.add_assoc] at this;exact this
   have s_4:wx.cell? ⟨b,off+k*9+4,none⟩=some (.int .i64 (y k).group):=by have:=hcell 4 (by decide);rw [← Nat.add_assoc] at this;exact this
   have s_5:wx.cell? ⟨b,off+k*9+5,none⟩=some (.int .i64 (y k).row):=by have:=hcell 5 (by decide);rw [← Nat.add_assoc] at this;exact this
   have s_6:wx.cell? ⟨b,off+k*9+6,none⟩=some (.slice c6 (y k).rows.1 ck6):=by have:=hcell 6 (by decide);rw [← Nat.add_assoc] at this;exact this
   have s_7:wx.cell? ⟨b,off+k*9+7,none⟩=some (.slice c7 (y k).data.1 ck7):=by have:=hcell 7 (by decide);rw [← Nat.add_assoc] at this;exact this
   have s_8:wx.cell? ⟨b,off+k*9+8,none⟩=some (.slice c8 (y k).delta.1 ck8):=by have:=hcell 8 (by decide);rw [← Nat.add_assoc] at this;exact this
   have i1:(0:Int)≤(k:Int):=by omega
   have i2:(k:Int)<(m:Int):=by omega
   clear hbl hcell hel
   go_wp2_with fail
   refine CS.mono ?_;rintro e w5 ⟨t,rfl,ht,b5⟩;have B5:=hid (HBL.out.trans (b5.mono zx));have HT:=hid ht;clear b5 CS ht hy
   cases t with
   | true=>
    go_wp2;go_ret;exact ⟨.inr ⟨k,hlt,rfl,HT.out.1 (by simp)⟩,B5.out⟩
   | false=>
    go_wp2
    go_roundw
    case rel=>exact ⟨k+1,by omega,by go_num,fun t ht=>by
     by_cases c:t=k
     ·rw [c];intro hs;exact absurd (HT.out.2 hs) (by simp)
     ·exact HALL.out t (by omega),B5.out⟩
    case measure=>simp [intOf];omega
  ·obtain rfl:k=m:=by omega
   clear hbl;go_wp2;go_ret;exact ⟨.inl ⟨rfl,HALL.out⟩,HBL.out⟩
set_option maxRecDepth 100000 in
theorem zdr (v:Value) (m:Nat) (y:Nat→RecD) (r:RecD) (cr:List Value) (hi p:Nat) (w:World) (h:(zab.slice 59).rd w hi (m,y) [v]) (hr:zab.rd w hi r cr) (hB:Box w p cr.toArray 59) (hhi:hi≤w.heap.size) (hm:m≤1048576) :
 Calls Tryz.prog 105 #[v,.func (.func 106) #[] #[.pointer (some ⟨p,0,none⟩)]] w (zaX (∃ i,i<m∧SameR (y i) r) w):=by
 have CS:=zex v m y r cr hi p w h hr hB hhi hm;clear h hr hB
 go_enter Tryz.func105,Tryz.ntmps105
 go_wp2_with fail
 refine CS.mono ?_;rintro e w1 ⟨⟨rfl,hn⟩ | ⟨i,hi',rfl,hs⟩,b1⟩
 ·have HN:=hid hn
  have HB:=hid b1;clear hn b1 CS;go_wp2;go_ret;exact zaj rfl (fun ⟨i,h1,h2⟩=>HN.out i h1 h2) HB.out
 ·have HS:=hid hs
  have HB:=hid b1
  have hd:decide ((0:Int)≤(i:Int))=true:=by simp
  clear hs b1 CS;go_wp2;go_ret;exact zas (by simp) ⟨i,hi',HS.out⟩ HB.out
set_option maxRecDepth 100000 in
theorem zdh (v:Value) (m:Nat) (y:Nat→RecD) (r:RecD) (cr:List Value) (hi:Nat) (w:World) (h:(zab.slice 59).rd w hi (m,y) [v]) (hr:zab.rd w hi r cr) (hhi:hi≤w.heap.size) (hm:m≤1048576) :
 Calls Tryz.prog 81 #[v,.agg cr.toArray] w (zaX (∃ i,i<m∧SameR (y i) r) w):=by
 have B0:=zaF w cr.toArray 59;have HB0:=hid B0.bel;have CS:=zdr v m y r cr hi w.heap.size (w.alloc (.cells cr.toArray 59)) (Lay.rd_below _ h B0.bel hhi) (zab.rd_below hr B0.bel hhi) B0.b1 (Nat.le_trans hhi B0.bel.size) hm;obtain ⟨b6,bk6,b7,bk7,b8,bk8,rfl,-⟩:=zaz hr;clear B0 h
 go_enter Tryz.func81,Tryz.ntmps81
 go_wp2_with fail
 refine CS.mono ?_;rintro e w1 ⟨t,rfl,ht,b1⟩;have HB1:=hid (HB0.out.trans (b1.mono HB0.out.size));have HT:=hid ht;clear CS b1 ht;go_wp2;go_ret;exact ⟨t,rfl,HT.out,HB1.out⟩
def lenT (tp:Nat→TapeD):Nat→Nat
 | 0=>0
 | k+1=>lenT tp k+(tp k).recs.1
def recT (tp:Nat→TapeD):Nat→Nat→RecD
 | 0=>(tp 0).recs.2
 | k+1=>cat2 (recT tp k) (lenT tp k) (tp k).recs.2
theorem zh9 (x0:Nat→RecD) (enc:Nat→List Value) (v:Value) (N lo hi:Nat) (w:World) (V:View zab 59 w lo hi v N x0 enc) (hlo:hi≤lo) (hN:N<1000000000) (hlw:lo≤w.heap.size) :
 Calls Tryz.prog 79 #[v,.func (.func 80) #[] #[]] w (fun e w'=>e=.returned (.tuple #[])∧∃ q,View zab 59 w' lo hi v N (fun i=>x0 (q i)) (fun i=>enc (q i))∧Sym.Re 0 N (fun i=>i) q∧Sym.Srt (numL x0) q 0 N∧Below lo w w'):=by
 rcases V.form2 with ⟨rfl,rfl⟩ | ⟨g,cap,rfl,hnc,hg⟩
 ·refine (zdW w).mono fun e w' ⟨h1,h2⟩=>⟨h1,fun i=>i,V.below h2 (by omega),Sym.Re.refl _ _ _,fun i j _ _ h=>by omega,h2.mono hlw⟩
 ·have hlo':=V.row.lt g rfl
  refine (zdV x0 enc N g cap lo hi w V hlo hN).mono fun e w' ⟨h1,q,h2,h3,h4,h5⟩=>⟨h1,q,h2,h3,h4,h5.bel (fun b hb=>by simp at hb;omega) hlw⟩
theorem zcy:(Tryz.prog.info? 59).map (fun i=>(i.zero.map (·.cells),i.size))=some (some #[.int .i64 0,.int .i64 0,.string ByteArray.empty,.int .i64 0,.int .i64 0,.int .i64 0,.slice none 0 0,.slice none 0 0,.slice none 0 0],9):=by kernel_rfl
set_option maxRecDepth 100000 in
theorem zey (tp:Nat→TapeD) (v:Value) (hi:Nat) (w:World) (h:(zat.slice 74).rd w hi (2,tp) [v]) (hhi:hi≤w.heap.size) (hn0:(tp 0).recs.1≤400000) (hn1:(tp 1).recs.1≤400000) :
 Calls Tryz.prog 48 #[v] w (fun e w'=>∃ v' l ce lo,e=.returned v'∧Cnt (recT tp 2) (lenT tp 2) l∧w.heap.size≤lo∧View zab 59 w' lo hi v' l.length (fun i=>recT tp 2 (l.getD i 0)) ce∧Below w.heap.size w w'):=by
 obtain ⟨ao,cap,e,hmm,hc⟩:=h
 obtain rfl:v=.slice ao 2 cap:=by simpa using e
 obtain ⟨b,off,rfl,hbh,hel⟩:=hc (by simp);have hel:∀ i,i<2→∃ ce,zat.rd w hi (tp i) ce∧∀ j,j<zat.sz→w.cell? ⟨b,off+(i*zat.sz+j),none⟩=ce[j]?:=hel;have HEL:=hid hel;clear e hmm hc hel
 go_enter Tryz.func48,Tryz.ntmps48
 go_wp2
 go_loopw [3,12] (fun va i wr=>∃ (k:Nat) (ce:Nat→List Value),k≤2∧i=.int .i64 k∧View zab 59 wr w.heap.size hi va (lenT tp k) (recT tp k) ce∧Below w.heap.size w wr) (fun _ i _=>2-(intOf i).toNat)
 case atStart=>exact ⟨0,fun _=>[],by omega,rfl,View.nil _ _ _ _ _,Below.refl _ _⟩
 case round=>
  obtain ⟨k,ce,hk,rfl,V,bw⟩:=hrel;have zr:=bw.size;have HV:=hid V;have HBW:=hid bw
  by_cases hlt:k<2
  ·obtain ⟨ct,hy,hcell⟩:=zau (t:=74) HEL.out bw hhi hbh hlt
   obtain ⟨ao1,cap1,rfl,hrs⟩:=za4 hy;have c0:wr.cell? ⟨b,off+k*2,none⟩=some (.bool (tp k).wiped):=hcell 0 (by decide)
   have c1:wr.cell? ⟨b,off+k*2+1,none⟩=some (.slice ao1 (tp k).recs.1 cap1):=by have:=hcell 1 (by decide);exact this
   have bA:=bAl wr (.cells #[.bool (tp k).wiped,.slice ao1 (tp k).recs.1 cap1] 74)
   have hL:lenT tp k+(tp k).recs.1≤10000000:=by
    have:k=0∨k=1:=by omega
    rcases this with rfl | rfl<;>simp only [lenT]<;>omega
   have hrs':(zab.slice 59).rd (wr.alloc (.cells #[.bool (tp k).wiped,.slice ao1 (tp k).recs.1 cap1] 74)) hi ((tp k).recs.1,(tp k).recs.2) [.slice ao1 (tp k).recs.1 cap1]:=Lay.rd_below _ hrs bA (by omega);obtain ⟨cy,hS,hz⟩:=zh4 hrs';obtain ⟨v3,w3,hrun,V3,_,b3⟩:=za0 zc2 zaC 47 (HV.out.below bA (by omega)) cap1 hS (by simp;omega) (by omega) hL hz;have HV3:=hid V3;have HB3:Hid (Below w.heap.size w w3):=(HBW.out.trans (bA.mono zr)).trans b3
   have i1:(0:Int)≤(k:Int):=by omega
   have i2:(k:Int)<(2:Int):=by omega
   obtain ⟨ao9,cap9,rfl⟩:=V.form;obtain ⟨nT,hnT⟩:∃ n,n=(tp k).recs.1:=⟨_,rfl⟩;obtain ⟨nL,hnL⟩:∃ n,n=lenT tp k:=⟨_,rfl⟩;rw [← hnT] at c1 hrun;rw [← hnL] at hrun;have HnL:=hid hnL;rw [← hnL];clear V3 b3 bA hrs' hrs hcell hy hS V bw hL hz hnT hnL
   go_wp2_with (at_builtin;refine zdG rfl (.tmp 16) (.tmp 18) rfl ?_ ?_ hrun ?_;(simp [Act.eval]);(simp [Act.eval]))
   clear hrun;go_wp2
   go_roundw
   case rel=>exact ⟨k+1,_,by omega,by go_num,HV3.out,HB3.out⟩
   case measure=>simp [intOf];omega
  ·obtain rfl:k=2:=by omega
   have hN:lenT tp 2<1000000000:=by simp only [lenT];omega
   obtain ⟨N,hNe⟩:∃ N,N=lenT tp 2:=⟨_,rfl⟩;obtain ⟨x0,hx0⟩:∃ x,x=recT tp 2:=⟨_,rfl⟩;obtain ⟨enc,henc⟩:∃ x,x=ce:=⟨_,rfl⟩
   have hN':N≤800000:=by rw [hNe];simp only [lenT];omega
   rw [← hNe,← hx0,← henc] at V;rw [← hNe] at hN;have CS:=zh9 x0 enc u3 N w.heap.size hi wr V hhi hN zr;have HNE:Hid (N=lenT tp 2∧x0=recT tp 2):=⟨hNe,hx0⟩;have HV0:=hid V;obtain ⟨aA,capA,hA⟩:=V.form;subst hA;clear V hlt hNe hx0 henc HV bw
   go_wp2_with fail
   refine CS.mono ?_;rintro ee w2 ⟨rfl,q,V2,hRe,hSrt,b2⟩;have HV2:=hid V2;have HRe:=hid hRe;have HSrt:=hid hSrt;have HB2:=hid (HBW.out.trans b2);have z2:w.heap.size≤w2.heap.size:=HB2.out.size;clear V2 hRe hSrt b2 CS HBW HV0;go_wp2
   go_loopw [4,7,25] (fun vo va vi wr=>∃ (k al:Nat) (l:List Nat) (co:Nat→List Value),k≤N∧vi=.int .i64 k∧va=.int .i64 al∧CntQ x0 q k l∧Alk x0 l al∧l.length≤k∧View zab 59 wr w2.heap.size hi vo l.length (fun i=>x0 (l.getD i 0)) co∧Below w2.heap.size w2 wr) (fun _ _ i _=>N-(intOf i).toNat)
   case atStart=>exact ⟨0,0,[],fun _=>[],Nat.zero_le _,rfl,rfl,CntQ.nil x0 q,Alk.start x0,Nat.le_refl _,View.nil _ _ _ _ _,Below.refl _ _⟩
   case round=>
    obtain ⟨k,al,l,co,hk,rfl,rfl,hCQ,hAl,hLk,V,bw⟩:=hrel;obtain ⟨n,hn⟩:∃ n,n=l.length:=⟨_,rfl⟩;have HN:=hid hn;have HCQ:=hid hCQ;have HAl:=hid hAl;have HLk:=hid hLk;rw [← hn] at V hLk;obtain ⟨ao,cap,hvo⟩:=V.form;subst hvo;have HVO:=hid V;have HBR:=hid bw;have zr2:w2.heap.size≤wr.heap.size:=bw.size
    by_cases hlt:k<N
    ·have VAr:=HV2.out.below bw (by omega)
     obtain ⟨gA,cA',hgA⟩:=VAr.form0 (by omega)
     have rgA:wr.rangeAt gA (k*9) (enc (q k)):=by rw [hgA] at VAr;exact VAr.range hlt
     obtain ⟨rfl,rfl⟩:aA=some ⟨gA,0,none⟩∧capA=cA':=by simpa using hgA
     have rdR:=VAr.each k hlt;have hcR:(enc (q k)).length=9:=VAr.lens k hlt;obtain ⟨cR,hcRe⟩:∃ c,c=enc (q k):=⟨_,rfl⟩
     have rdR':zab.rd wr hi (x0 (q k)) cR:=by rw [hcRe];exact rdR
     rw [← hcRe] at rgA hcR;have oneR:∀ v,v∈cR→v.oneCell'=true:=zaC _ _ _ _ rdR'
     have i1:(0:Int)≤(k:Int):=by omega
     have i2:(k:Int)<(N:Int):=by omega
     have bA:=bAl wr (.cells cR.toArray 59);have XA:=zal wr cR.toArray 59;have rdW:zab.rd (wr.alloc (.cells cR.toArray 59)) hi (x0 (q k)) cR:=zab.rd_below rdR' bA (by omega);clear VAr rdR hcRe hgA rdR' V bw hn hCQ hAl
     go_upto_region 12 with (first | (refine wpList_load_mid rfl 59 (.tmp 27) rfl gA (k*9) (by simp [Act.eval]) cR _ rgA Tryz.underlying59 rfl (zag hcR) ?_) | (refine zaM 59 9 (.tmp 28) cR _ 9 rfl rfl rfl rfl rfl rfl rfl rfl zcy rfl hcR oneR ?_))
     obtain ⟨W,hW⟩:∃ x,x=wr.alloc (.cells cR.toArray 59):=⟨_,rfl⟩;rw [← hW] at bA XA rdW ⊢;clear hW rgA;have HVOW:Hid (View zab 59 W w2.heap.size hi (.slice ao n cap) n (fun i=>x0 (l.getD i 0)) co):=HVO.out.below bA (by omega);have HXW:=hid XA;have HRW:=hid rdW;have HBW:=hid (HBR.out.trans (bA.mono zr2));have zW:w2.heap.size≤W.heap.size:=HBW.out.size;have zW':wr.heap.size<W.heap.size:=XA.lt;have bD:Below W.heap.size W W.drew:=⟨rfl,rfl,rfl,Nat.le_refl _,fun _ _=>rfl⟩;clear HVO HBR
     by_cases hne:n=0
     ·have hnil:l=[]:=List.eq_nil_of_length_eq_zero (by rw [← HN.out];exact hne)
      have HZ:=hid hne;have hal0:al=0:=HAl.out.nil hnil
      have HBf:Hid (∀ e,e∈l.take al→numC (x0 e) (x0 (q k))<0):=by
       show ∀ e,e∈l.take al→_
       rw [hnil];intro e he;simp at he
      have HAn:Hid (Alk x0 (l++[q k]) al):=by
       show Alk x0 (l++[q k]) al
       have:=Alk.open_ (x0:=x0) (l:=l) (r:=q k) (fun e he=>by rw [hnil] at he;simp at he);rw [← HN.out,hne,← hal0] at this;exact this
      have hal5:al≤n:=by omega
      have d1:decide (0<n)=false:=decide_eq_false (by omega);have d2:decide ((0:Int)<(n:Int))=false:=decide_eq_false (by omega);clear hnil hal0 hne rdW XA bA;refine zap 9 (fun w'=>True) za7 trivial (fun hHeld=>?_);refine zjE 0 rfl ?_
      try simp only [Act.put,SL]
      refine zjE 1 rfl ?_
      try simp only [Act.put,SL]
      refine zjE 2 rfl ?_
      try simp only [Act.put,SL]
      try rw [d1]
      refine zjE 3 rfl ?_
      try simp only [Act.put,SL]
      refine zjG 4 rfl ?_
      try simp only [Act.put,SL]
      refine zjG 5 rfl ?_
      try simp only [Act.put,SL]
      refine zjG 6 rfl ?_
      try simp only [Act.put,SL]
      refine zjG 7 rfl ?_
      try simp only [Act.put,SL]
      refine zjG 8 rfl ?_
      try simp only [Act.put,SL]
      refine zae (i:=9) (o:=_) rfl (by kernel_rfl) (by kernel_rfl) (fun KC hKC=>?_);refine zjj (by kernel_rfl) (hKC _ _ ?_);clear hKC KC
      try simp only [Act.put,SL]
      refine zac (i:=10) (oi:=_) (v:=undef) rfl (by kernel_rfl) (fun _ _ _ h=>h) (Or.inr ⟨by kernel_rfl,rfl⟩) ?_
      try simp only [Act.put,SL]
      refine zjr 11 (v:=?_) rfl ?_ ?_
      rotate_left
      ·intro w' hSw;go_simp;try with_reducible rfl
      try simp only [Act.put,SL]
      refine zah (by kernel_rfl) ?_ _;obtain ⟨w5,hw5⟩:∃ x,x=W.drew:=⟨_,rfl⟩;rw [← hw5] at bD ⊢;have b5':Below W.heap.size W w5:=bD;clear bD hw5 hHeld d1 d2;have HVO5:Hid (View zab 59 w5 w2.heap.size hi (.slice ao n cap) n (fun i=>x0 (l.getD i 0)) co):=HVOW.out.below b5' (by omega);have z5':W.heap.size≤w5.heap.size:=b5'.size;have HX5:=hid (HXW.out.below b5' HXW.out.lt);have HR5:Hid (zab.rd w5 hi (x0 (q k)) cR):=zab.rd_below HRW.out b5' (by omega);have HB5:=hid (HBW.out.trans (b5'.mono zW))
      have z5:w2.heap.size≤w5.heap.size:=by omega
      clear b5' HVOW HXW HRW HBW;have bD6:Below w5.heap.size w5 w5.drew:=⟨rfl,rfl,rfl,Nat.le_refl _,fun _ _=>rfl⟩;have V6:=HVO5.out.drew;obtain ⟨aS,cS,hSl,sS,rS,-⟩:=V6.from_ (show hi≤w5.drew.heap.size by show hi≤w5.heap.size;omega) (al:=al) hal5;have rdR6:zab.rd w5.drew w5.drew.heap.size (x0 (q k)) cR:=zab.rd_mono (zab.rd_below HR5.out bD6 (by omega)) (by show hi≤w5.heap.size;omega);have CH0:=zdh (.slice aS (n-al) cS) (n-al) (fun j=>x0 (l.getD (al+j) 0)) (x0 (q k)) cR w5.drew.heap.size w5.drew rS rdR6 (Nat.le_refl _) (by omega)
      have CH:Calls Tryz.prog 81 (#[.slice aS (n-al) cS,.agg cR.toArray]++#[]) w5.drew (zaX (∃ i,i<n-al∧SameR (x0 (l.getD (al+i) 0)) (x0 (q k))) w5.drew):=by rw [Array.append_empty];exact CH0
      have r6:w5.drew.rangeAt wr.heap.size 0 cR:=fun j v hv=>by
       have:=(HX5.out.cell j).trans (by simpa using hv);rw [Nat.zero_add];exact this
      clear CH0 rdR6 rS sS V6
      go_upto_region 14 with fail
      refine zap 4 (fun w'=>w'.rangeAt wr.heap.size 0 cR) za7 r6 (fun hHeld=>?_);refine zjE 0 rfl ?_
      try simp only [Act.put,SL]
      refine zjE 1 rfl ?_
      try simp only [Act.put,SL]
      refine zjC 2 (v:=?_) rfl ?_ ?_
      rotate_left
      ·intro w' hSw
       try rw [show (Instr.slice 47 (.slice ao n cap) (some (.int .i64 (al:Int))) none none).run Tryz.prog w'=_ from hSl w']
       have hSl':=hSl w';go_simp
       try with_reducible rfl
      try simp only [Act.put,SL]
      refine zad (i:=3) (oi:=_) 16 rfl (by kernel_rfl) (fun _ _ _ h=>h) (yieldsIf_load_mid (by kernel_rfl) 59 (.tmp 9) rfl wr.heap.size (0) (by simp [Act.eval,Act.put]) cR _ (fun w h=>h) Tryz.underlying59 rfl (zag hcR)) (by assumption) ?_
      try simp only [Act.put,SL]
      refine zae (i:=4) (o:=_) rfl (by kernel_rfl) (by kernel_rfl) (fun KC hKC=>?_);refine za2 (by kernel_rfl) (.func 81) 81 #[] _ _ rfl (by simp [Act.eval,Act.put]) #[.slice aS (n-al) cS,.agg cR.toArray] (by simp [Act.eval,Act.put]) Tryz.func81 (by kernel_rfl) (by kernel_rfl) CH ?_;rintro ee w7 ⟨t,rfl,ht,b7⟩;refine ⟨_,rfl,?_⟩;refine hKC _ _ ?_;clear hKC KC
      try simp only [Act.put,SL]
      refine zjr 5 (v:=?_) rfl ?_ ?_
      rotate_left
      ·intro w' hSw;go_simp;try with_reducible rfl
      try simp only [Act.put,SL]
      refine zah (by kernel_rfl) ?_ _;have b7':Below w5.heap.size w5 w7:=bD6.trans b7;have z7:w5.heap.size≤w7.heap.size:=b7'.size;have HVO7:Hid (View zab 59 w7 w2.heap.size hi (.slice ao n cap) n (fun i=>x0 (l.getD i 0)) co):=HVO5.out.below b7' (by omega);have HX7:Hid (Box w7 wr.heap.size cR.toArray 59):=HX5.out.below b7' (by omega);have HR7:Hid (zab.rd w7 hi (x0 (q k)) cR):=zab.rd_below HR5.out b7' (by omega);have HB7:=hid (HB5.out.trans (b7'.mono z5))
      have HT:Hid (t=true↔¬ Fst x0 (q k)):=by
       show t=true↔¬ Fst x0 (q k)
       rw [ht,← HCQ.out.has HSrt.out HRe.out hlt HBf.out];rw [HN.out];exact (zbK (l:=l) (al:=al) (P:=fun o=>SameR (x0 o) (x0 (q k)))).symm
      have hFR:Hid (t=true→al<n):=fun h=>by
       obtain ⟨i,hi',_⟩:=ht.1 h;omega
      clear ht b7 b7' bD6 CH hSl r6 hHeld HVO5 HX5 HR5 HB5
      cases t with
      | true=>
       exfalso
       have:=hFR.out (by simp);have:=HZ.out;omega
      | false=>
       have hF:Fst x0 (q k):=Classical.byContradiction fun h=>absurd (HT.out.2 h) (by simp);have HF:=hid hF;clear hF hFR HT;have RR:=HR7.out;have XX:=HX7.out;obtain ⟨b6,bk6,b7,bk7,b8,bk8,eR,-⟩:=zaz RR;have HER:=hid eR;rw [eR] at XX;have bA:=bAl w7 (.cells #[.int .i64 (x0 (q k)).kind,.int .i64 (x0 (q k)).seq,.string (x0 (q k)).name,.int .i64 (x0 (q k)).length,.int .i64 (x0 (q k)).group,.int .i64 (x0 (q k)).row,.slice b6 (x0 (q k)).rows.1 bk6,.slice b7 (x0 (q k)).data.1 bk7,.slice b8 (x0 (q k)).delta.1 bk8] 59)
       obtain ⟨v8,w8,hrun,V8,_,b8⟩:=za0 zc2 zaC 47 (HVO7.out.below bA (by omega)) 1 (zdL (b:=w7.heap.size) (hi:=hi) (y:=x0 (q k)) (cs:=cR) (fun j hj=>by
        have:=(zal w7 #[.int .i64 (x0 (q k)).kind,.int .i64 (x0 (q k)).seq,.string (x0 (q k)).name,.int .i64 (x0 (q k)).length,.int .i64 (x0 (q k)).group,.int .i64 (x0 (q k)).row,.slice b6 (x0 (q k)).rows.1 bk6,.slice b7 (x0 (q k)).data.1 bk7,.slice b8 (x0 (q k)).delta.1 bk8] 59).cell j;rw [this,eR]
        simp) (zab.rd_below HR7.out bA (by omega))) (by simp;omega) (by omega) (by omega) (fun h=>by cases h)
       have HV8:Hid (View zab 59 w8 w2.heap.size hi v8 (l++[q k]).length (fun i=>x0 ((l++[q k]).getD i 0)) (cat2 co n (fun _=>cR))):=by
        have e:(l++[q k]).length=n+1:=by rw [List.length_append,← HN.out];rfl
        show View zab 59 w8 w2.heap.size hi v8 (l++[q k]).length (fun i=>x0 ((l++[q k]).getD i 0)) (cat2 co n (fun _=>cR))
        rw [e];refine V8.congr (fun i hi'=>?_)
        by_cases c:i<n
        ·rw [zbq _ _ c,zev (by rw [← HN.out];exact c)]
        ·obtain rfl:i=n:=by omega
         have e1:=zbD (fun i=>x0 (l.getD i 0)) i (fun _=>x0 (q k)) 0;rw [Nat.add_zero] at e1;rw [e1]
         show x0 (q k)=x0 ((l++[q k]).getD i 0)
         rw [HN.out,zc6]
       have HB8:Hid (Below w2.heap.size w2 w8):=(HB7.out.trans (bA.mono (by omega))).trans b8;clear V8 b8 bA RR eR;have u_0:w7.cell? ⟨wr.heap.size,0,none⟩=some (.int .i64 (x0 (q k)).kind):=XX.cell 0;have u_1:w7.cell? ⟨wr.heap.size,1,none⟩=some (.int .i64 (x0 (q k)).seq):=XX.cell 1;have u_2:w7.cell? ⟨wr.heap.size,2,none⟩=some (.string (x0 (q k)).name):=XX.cell 2;have u_3:w7.cell? ⟨wr.heap.size,3,none⟩=some (.int .i64 (x0 (q k)).length):=XX.cell 3;have u_4:w7.cell? ⟨wr.heap.size,4,none⟩=some (.int .i64 (x0 (q k)).group):=XX.cell 4;have u_5:w7.cell? ⟨wr.heap.size,5,none⟩=some (.int .i64 (x0 (q k)).row):=XX.cell 5;have u_6:w7.cell? ⟨wr.heap.size,6,none⟩=some (.slice b6 (x0 (q k)).rows.1 bk6):=XX.cell 6;have u_7:w7.cell? ⟨wr.heap.size,7,none⟩=some (.slice b7 (x0 (q k)).data.1 bk7):=XX.cell 7;have u_8:w7.cell? ⟨wr.heap.size,8,none⟩=some (.slice b8 (x0 (q k)).delta.1 bk8):=XX.cell 8;clear XX
       go_wp2_with (at_builtin;refine zdG rfl (.tmp 49) (.tmp 51) rfl ?_ ?_ hrun ?_;(simp [Act.eval]);(simp [Act.eval]))
       clear hrun;go_wp2
       go_roundw
       case rel=>exact ⟨k+1,al,l++[q k],_,by omega,by go_num,rfl,HCQ.out.more HSrt.out hlt HF.out,HAn.out,by rw [List.length_append];have:=HLk.out;simp;omega,HV8.out,HB8.out⟩
       case measure=>simp [intOf];omega
     ·have hne':l≠[]:=fun h=>hne (by rw [HN.out,h];rfl)
      have haln:al<n:=by rw [HN.out];exact HAl.out.lt hne'
      have VD:=HVOW.out.drew;obtain ⟨gO,cO',hgO⟩:=VD.form0 hne
      have rgO:W.drew.rangeAt gO (al*9) (co al):=by rw [hgO] at VD;exact VD.range haln
      obtain ⟨rfl,rfl⟩:ao=some ⟨gO,0,none⟩∧cap=cO':=by simpa using hgO
      have hcO:(co al).length=9:=VD.lens al haln;have CC0:=zbB (x0 (l.getD al 0)) (x0 (q k)) (co al) cR hi hi W.drew (VD.each al haln) (zab.rd_below rdW bD (by omega));obtain ⟨cO,hcOe⟩:∃ c,c=co al:=⟨_,rfl⟩;rw [← hcOe] at rgO hcO CC0;obtain ⟨c,hc⟩:∃ c:Int,c=numC (x0 (l.getD al 0)) (x0 (q k)):=⟨_,rfl⟩;rw [← hc] at CC0;have HCN:=hid hc
      have CC:Calls Tryz.prog 80 (#[.agg cO.toArray,.agg cR.toArray]++#[]) W.drew fun e w'=>e=.returned (.int .i64 c)∧Below W.drew.heap.size W.drew w':=by rw [Array.append_empty];exact CC0
      have rgB:W.drew.rangeAt wr.heap.size 0 cR:=fun j v hv=>by
       have:=(XA.cell j).trans (by simpa using hv);rw [Nat.zero_add];exact this
      have d1:decide (0<n)=true:=decide_eq_true (by omega);have d2:decide ((0:Int)<(n:Int))=true:=decide_eq_true (by omega)
      have i3:(0:Int)≤(al:Int):=by omega
      have i4:(al:Int)<(n:Int):=by omega
      clear CC0 hc hcOe VD hgO XA rdW bA;refine zap 9 (fun w'=>w'.rangeAt gO (al*9) cO∧w'.rangeAt wr.heap.size 0 cR) za7 ⟨rgO,rgB⟩ (fun hHeld=>?_);refine zjE 0 rfl ?_
      try simp only [Act.put,SL]
      refine zjE 1 rfl ?_
      try simp only [Act.put,SL]
      refine zjE 2 rfl ?_
      try simp only [Act.put,SL]
      try rw [d1]
      refine zjE 3 rfl ?_
      try simp only [Act.put,SL]
      refine zjE 4 rfl ?_
      try simp only [Act.put,SL]
      refine zjE 5 rfl ?_
      try simp only [Act.put,SL]
      refine zjE 6 rfl ?_
      try simp only [Act.put,SL]
      refine zad (i:=7) (oi:=_) 16 rfl (by kernel_rfl) (fun _ _ _ h=>h) (yieldsIf_load_mid (by kernel_rfl) 59 (.tmp 35) rfl gO (al*9) (by simp [Act.eval,Act.put]) cO _ (fun w h=>h.1) Tryz.underlying59 rfl (zag hcO)) (by assumption) ?_
      try simp only [Act.put,SL]
      refine zad (i:=8) (oi:=_) 16 rfl (by kernel_rfl) (fun _ _ _ h=>h) (yieldsIf_load_mid (by kernel_rfl) 59 (.tmp 9) rfl wr.heap.size (0) (by simp [Act.eval,Act.put]) cR _ (fun w h=>h.2) Tryz.underlying59 rfl (zag hcR)) (by assumption) ?_
      try simp only [Act.put,SL]
      refine zae (i:=9) (o:=_) rfl (by kernel_rfl) (by kernel_rfl) (fun KC hKC=>?_);refine za2 (by kernel_rfl) (.func 80) 80 #[] _ _ rfl (by simp [Act.eval,Act.put]) #[.agg cO.toArray,.agg cR.toArray] (by simp [Act.eval,Act.put]) Tryz.func80 (by kernel_rfl) (by kernel_rfl) CC ?_;rintro ee w5 ⟨rfl,b5⟩;refine ⟨_,rfl,?_⟩;refine hKC _ _ ?_;clear hKC KC
      try simp only [Act.put,SL]
      refine zjr 10 (v:=?_) rfl ?_ ?_
      rotate_left
      ·intro w' hSw;go_simp;try with_reducible rfl
      try simp only [Act.put,SL]
      refine zjr 11 (v:=?_) rfl ?_ ?_
      rotate_left
      ·intro w' hSw;go_simp;try with_reducible rfl
      try simp only [Act.put,SL]
      refine zah (by kernel_rfl) ?_ _;have b5':Below W.heap.size W w5:=bD.trans b5;have HVO5:Hid (View zab 59 w5 w2.heap.size hi (.slice (some ⟨gO,0,none⟩) n cap) n (fun i=>x0 (l.getD i 0)) co):=HVOW.out.below b5' (by omega);have z5':W.heap.size≤w5.heap.size:=b5'.size;have HX5:=hid (HXW.out.below b5' HXW.out.lt);have HR5:Hid (zab.rd w5 hi (x0 (q k)) cR):=zab.rd_below HRW.out b5' (by omega);have HB5:=hid (HBW.out.trans (b5'.mono zW))
      have z5:w2.heap.size≤w5.heap.size:=by omega
      clear b5' b5 HVOW HXW HRW HBW CC rgO rgB hHeld bD d1 d2 hcO
      by_cases hc0:c=0
      ·have e0:(c != 0)=false:=by simp [hc0]
       have hst:=HAl.out.stay hne' (r:=q k) (by rw [← HCN.out];exact hc0);have HBf:=hid hst.1;have HAn:=hid hst.2
       have hal5:al≤n:=by omega
       subst hc0;clear hst HCN;have bD6:Below w5.heap.size w5 w5.drew:=⟨rfl,rfl,rfl,Nat.le_refl _,fun _ _=>rfl⟩;have V6:=HVO5.out.drew;obtain ⟨aS,cS,hSl,sS,rS,-⟩:=V6.from_ (show hi≤w5.drew.heap.size by show hi≤w5.heap.size;omega) (al:=al) hal5;have rdR6:zab.rd w5.drew w5.drew.heap.size (x0 (q k)) cR:=zab.rd_mono (zab.rd_below HR5.out bD6 (by omega)) (by show hi≤w5.heap.size;omega);have CH0:=zdh (.slice aS (n-al) cS) (n-al) (fun j=>x0 (l.getD (al+j) 0)) (x0 (q k)) cR w5.drew.heap.size w5.drew rS rdR6 (Nat.le_refl _) (by omega)
       have CH:Calls Tryz.prog 81 (#[.slice aS (n-al) cS,.agg cR.toArray]++#[]) w5.drew (zaX (∃ i,i<n-al∧SameR (x0 (l.getD (al+i) 0)) (x0 (q k))) w5.drew):=by rw [Array.append_empty];exact CH0
       have r6:w5.drew.rangeAt wr.heap.size 0 cR:=fun j v hv=>by
        have:=(HX5.out.cell j).trans (by simpa using hv);rw [Nat.zero_add];exact this
       clear CH0 rdR6 rS sS V6
       go_upto_region 14 with fail
       refine zap 4 (fun w'=>w'.rangeAt wr.heap.size 0 cR) za7 r6 (fun hHeld=>?_);refine zjE 0 rfl ?_
       try simp only [Act.put,SL]
       refine zjE 1 rfl ?_
       try simp only [Act.put,SL]
       refine zjC 2 (v:=?_) rfl ?_ ?_
       rotate_left
       ·intro w' hSw
        try rw [show (Instr.slice 47 (.slice (some ⟨gO,0,none⟩) n cap) (some (.int .i64 (al:Int))) none none).run Tryz.prog w'=_ from hSl w']
        have hSl':=hSl w';go_simp
        try with_reducible rfl
       try simp only [Act.put,SL]
       refine zad (i:=3) (oi:=_) 16 rfl (by kernel_rfl) (fun _ _ _ h=>h) (yieldsIf_load_mid (by kernel_rfl) 59 (.tmp 9) rfl wr.heap.size (0) (by simp [Act.eval,Act.put]) cR _ (fun w h=>h) Tryz.underlying59 rfl (zag hcR)) (by assumption) ?_
       try simp only [Act.put,SL]
       refine zae (i:=4) (o:=_) rfl (by kernel_rfl) (by kernel_rfl) (fun KC hKC=>?_);refine za2 (by kernel_rfl) (.func 81) 81 #[] _ _ rfl (by simp [Act.eval,Act.put]) #[.slice aS (n-al) cS,.agg cR.toArray] (by simp [Act.eval,Act.put]) Tryz.func81 (by kernel_rfl) (by kernel_rfl) CH ?_;rintro ee w7 ⟨t,rfl,ht,b7⟩;refine ⟨_,rfl,?_⟩;refine hKC _ _ ?_;clear hKC KC
       try simp only [Act.put,SL]
       refine zjr 5 (v:=?_) rfl ?_ ?_
       rotate_left
       ·intro w' hSw;go_simp;try with_reducible rfl
       try simp only [Act.put,SL]
       refine zah (by kernel_rfl) ?_ _;have b7':Below w5.heap.size w5 w7:=bD6.trans b7;have z7:w5.heap.size≤w7.heap.size:=b7'.size;have HVO7:Hid (View zab 59 w7 w2.heap.size hi (.slice (some ⟨gO,0,none⟩) n cap) n (fun i=>x0 (l.getD i 0)) co):=HVO5.out.below b7' (by omega);have HX7:Hid (Box w7 wr.heap.size cR.toArray 59):=HX5.out.below b7' (by omega);have HR7:Hid (zab.rd w7 hi (x0 (q k)) cR):=zab.rd_below HR5.out b7' (by omega);have HB7:=hid (HB5.out.trans (b7'.mono z5))
       have HT:Hid (t=true↔¬ Fst x0 (q k)):=by
        show t=true↔¬ Fst x0 (q k)
        rw [ht,← HCQ.out.has HSrt.out HRe.out hlt HBf.out];rw [HN.out];exact (zbK (l:=l) (al:=al) (P:=fun o=>SameR (x0 o) (x0 (q k)))).symm
       have hFR:Hid (t=true→al<n):=fun h=>by
        obtain ⟨i,hi',_⟩:=ht.1 h;omega
       clear ht b7 b7' bD6 CH hSl r6 hHeld HVO5 HX5 HR5 HB5
       cases t with
       | true=>
        go_wp2
        go_roundw
        case rel=>exact ⟨k+1,al,l,co,by omega,by go_num,rfl,HCQ.out.skip (HT.out.1 (by simp)),HAl.out,by have:=HLk.out;omega,by rw [← HN.out];exact HVO7.out,HB7.out⟩
        case measure=>simp [intOf];omega
       | false=>
        have hF:Fst x0 (q k):=Classical.byContradiction fun h=>absurd (HT.out.2 h) (by simp);have HF:=hid hF;clear hF hFR HT;have RR:=HR7.out;have XX:=HX7.out;obtain ⟨b6,bk6,b7,bk7,b8,bk8,eR,-⟩:=zaz RR;have HER:=hid eR;rw [eR] at XX;have bA:=bAl w7 (.cells #[.int .i64 (x0 (q k)).kind,.int .i64 (x0 (q k)).seq,.string (x0 (q k)).name,.int .i64 (x0 (q k)).length,.int .i64 (x0 (q k)).group,.int .i64 (x0 (q k)).row,.slice b6 (x0 (q k)).rows.1 bk6,.slice b7 (x0 (q k)).data.1 bk7,.slice b8 (x0 (q k)).delta.1 bk8] 59)
        obtain ⟨v8,w8,hrun,V8,_,b8⟩:=za0 zc2 zaC 47 (HVO7.out.below bA (by omega)) 1 (zdL (b:=w7.heap.size) (hi:=hi) (y:=x0 (q k)) (cs:=cR) (fun j hj=>by
         have:=(zal w7 #[.int .i64 (x0 (q k)).kind,.int .i64 (x0 (q k)).seq,.string (x0 (q k)).name,.int .i64 (x0 (q k)).length,.int .i64 (x0 (q k)).group,.int .i64 (x0 (q k)).row,.slice b6 (x0 (q k)).rows.1 bk6,.slice b7 (x0 (q k)).data.1 bk7,.slice b8 (x0 (q k)).delta.1 bk8] 59).cell j;rw [this,eR]
         simp) (zab.rd_below HR7.out bA (by omega))) (by simp;omega) (by omega) (by omega) (fun h=>by cases h)
        have HV8:Hid (View zab 59 w8 w2.heap.size hi v8 (l++[q k]).length (fun i=>x0 ((l++[q k]).getD i 0)) (cat2 co n (fun _=>cR))):=by
         have e:(l++[q k]).length=n+1:=by rw [List.length_append,← HN.out];rfl
         show View zab 59 w8 w2.heap.size hi v8 (l++[q k]).length (fun i=>x0 ((l++[q k]).getD i 0)) (cat2 co n (fun _=>cR))
         rw [e];refine V8.congr (fun i hi'=>?_)
         by_cases c:i<n
         ·rw [zbq _ _ c,zev (by rw [← HN.out];exact c)]
         ·obtain rfl:i=n:=by omega
          have e1:=zbD (fun i=>x0 (l.getD i 0)) i (fun _=>x0 (q k)) 0;rw [Nat.add_zero] at e1;rw [e1]
          show x0 (q k)=x0 ((l++[q k]).getD i 0)
          rw [HN.out,zc6]
        have HB8:Hid (Below w2.heap.size w2 w8):=(HB7.out.trans (bA.mono (by omega))).trans b8;clear V8 b8 bA RR eR;have u_0:w7.cell? ⟨wr.heap.size,0,none⟩=some (.int .i64 (x0 (q k)).kind):=XX.cell 0;have u_1:w7.cell? ⟨wr.heap.size,1,none⟩=some (.int .i64 (x0 (q k)).seq):=XX.cell 1;have u_2:w7.cell? ⟨wr.heap.size,2,none⟩=some (.string (x0 (q k)).name):=XX.cell 2;have u_3:w7.cell? ⟨wr.heap.size,3,none⟩=some (.int .i64 (x0 (q k)).length):=XX.cell 3;have u_4:w7.cell? ⟨wr.heap.size,4,none⟩=some (.int .i64 (x0 (q k)).group):=XX.cell 4;have u_5:w7.cell? ⟨wr.heap.size,5,none⟩=some (.int .i64 (x0 (q k)).row):=XX.cell 5;have u_6:w7.cell? ⟨wr.heap.size,6,none⟩=some (.slice b6 (x0 (q k)).rows.1 bk6):=XX.cell 6;have u_7:w7.cell? ⟨wr.heap.size,7,none⟩=some (.slice b7 (x0 (q k)).data.1 bk7):=XX.cell 7;have u_8:w7.cell? ⟨wr.heap.size,8,none⟩=some (.slice b8 (x0 (q k)).delta.1 bk8):=XX.cell 8;clear XX
        go_wp2_with (at_builtin;refine zdG rfl (.tmp 49) (.tmp 51) rfl ?_ ?_ hrun ?_;(simp [Act.eval]);(simp [Act.eval]))
        clear hrun;go_wp2
        go_roundw
        case rel=>exact ⟨k+1,al,l++[q k],_,by omega,by go_num,rfl,HCQ.out.more HSrt.out hlt HF.out,HAn.out,by rw [List.length_append];have:=HLk.out;simp;omega,HV8.out,HB8.out⟩
        case measure=>simp [intOf];omega
      ·have e0:(c != 0)=true:=by simp [hc0]
       have hfr:=HAl.out.fresh HCQ.out HSrt.out hlt hne' (by rw [← HCN.out];exact hc0);have HAf:=hid hfr;have HBf:Hid (∀ e,e∈l.take n→numC (x0 e) (x0 (q k))<0):=fun e he=>hfr e (List.mem_of_mem_take he);have HZ:Hid (n=n):=rfl;have hal5:n≤n:=Nat.le_refl _;clear hfr HCN;have bD6:Below w5.heap.size w5 w5.drew:=⟨rfl,rfl,rfl,Nat.le_refl _,fun _ _=>rfl⟩;have V6:=HVO5.out.drew;obtain ⟨aS,cS,hSl,sS,rS,-⟩:=V6.from_ (show hi≤w5.drew.heap.size by show hi≤w5.heap.size;omega) (al:=n) hal5;have rdR6:zab.rd w5.drew w5.drew.heap.size (x0 (q k)) cR:=zab.rd_mono (zab.rd_below HR5.out bD6 (by omega)) (by show hi≤w5.heap.size;omega);have CH0:=zdh (.slice aS (n-n) cS) (n-n) (fun j=>x0 (l.getD (n+j) 0)) (x0 (q k)) cR w5.drew.heap.size w5.drew rS rdR6 (Nat.le_refl _) (by omega)
       have CH:Calls Tryz.prog 81 (#[.slice aS (n-n) cS,.agg cR.toArray]++#[]) w5.drew (zaX (∃ i,i<n-n∧SameR (x0 (l.getD (n+i) 0)) (x0 (q k))) w5.drew):=by rw [Array.append_empty];exact CH0
       have r6:w5.drew.rangeAt wr.heap.size 0 cR:=fun j v hv=>by
        have:=(HX5.out.cell j).trans (by simpa using hv);rw [Nat.zero_add];exact this
       clear CH0 rdR6 rS sS V6
       go_upto_region 14 with fail
       refine zap 4 (fun w'=>w'.rangeAt wr.heap.size 0 cR) za7 r6 (fun hHeld=>?_);refine zjE 0 rfl ?_
       try simp only [Act.put,SL]
       refine zjE 1 rfl ?_
       try simp only [Act.put,SL]
       refine zjC 2 (v:=?_) rfl ?_ ?_
       rotate_left
       ·intro w' hSw
        try rw [show (Instr.slice 47 (.slice (some ⟨gO,0,none⟩) n cap) (some (.int .i64 (n:Int))) none none).run Tryz.prog w'=_ from hSl w']
        have hSl':=hSl w';go_simp
        try with_reducible rfl
       try simp only [Act.put,SL]
       refine zad (i:=3) (oi:=_) 16 rfl (by kernel_rfl) (fun _ _ _ h=>h) (yieldsIf_load_mid (by kernel_rfl) 59 (.tmp 9) rfl wr.heap.size (0) (by simp [Act.eval,Act.put]) cR _ (fun w h=>h) Tryz.underlying59 rfl (zag hcR)) (by assumption) ?_
       try simp only [Act.put,SL]
       refine zae (i:=4) (o:=_) rfl (by kernel_rfl) (by kernel_rfl) (fun KC hKC=>?_);refine za2 (by kernel_rfl) (.func 81) 81 #[] _ _ rfl (by simp [Act.eval,Act.put]) #[.slice aS (n-n) cS,.agg cR.toArray] (by simp [Act.eval,Act.put]) Tryz.func81 (by kernel_rfl) (by kernel_rfl) CH ?_;rintro ee w7 ⟨t,rfl,ht,b7⟩;refine ⟨_,rfl,?_⟩;refine hKC _ _ ?_;clear hKC KC
       try simp only [Act.put,SL]
       refine zjr 5 (v:=?_) rfl ?_ ?_
       rotate_left
       ·intro w' hSw;go_simp;try with_reducible rfl
       try simp only [Act.put,SL]
       refine zah (by kernel_rfl) ?_ _;have b7':Below w5.heap.size w5 w7:=bD6.trans b7;have z7:w5.heap.size≤w7.heap.size:=b7'.size;have HVO7:Hid (View zab 59 w7 w2.heap.size hi (.slice (some ⟨gO,0,none⟩) n cap) n (fun i=>x0 (l.getD i 0)) co):=HVO5.out.below b7' (by omega);have HX7:Hid (Box w7 wr.heap.size cR.toArray 59):=HX5.out.below b7' (by omega);have HR7:Hid (zab.rd w7 hi (x0 (q k)) cR):=zab.rd_below HR5.out b7' (by omega);have HB7:=hid (HB5.out.trans (b7'.mono z5))
       have HT:Hid (t=true↔¬ Fst x0 (q k)):=by
        show t=true↔¬ Fst x0 (q k)
        rw [ht,← HCQ.out.has HSrt.out HRe.out hlt HBf.out];rw [HN.out];exact (zbK (l:=l) (al:=l.length) (P:=fun o=>SameR (x0 o) (x0 (q k)))).symm
       have hFR:Hid (t=true→n<n):=fun h=>by
        obtain ⟨i,hi',_⟩:=ht.1 h;omega
       clear ht b7 b7' bD6 CH hSl r6 hHeld HVO5 HX5 HR5 HB5
       cases t with
       | true=>
        exfalso
        have:=hFR.out (by simp);have:=HZ.out;omega
       | false=>
        have hF:Fst x0 (q k):=Classical.byContradiction fun h=>absurd (HT.out.2 h) (by simp);have HF:=hid hF;clear hF hFR HT;have RR:=HR7.out;have XX:=HX7.out;obtain ⟨b6,bk6,b7,bk7,b8,bk8,eR,-⟩:=zaz RR;have HER:=hid eR;rw [eR] at XX;have bA:=bAl w7 (.cells #[.int .i64 (x0 (q k)).kind,.int .i64 (x0 (q k)).seq,.string (x0 (q k)).name,.int .i64 (x0 (q k)).length,.int .i64 (x0 (q k)).group,.int .i64 (x0 (q k)).row,.slice b6 (x0 (q k)).rows.1 bk6,.slice b7 (x0 (q k)).data.1 bk7,.slice b8 (x0 (q k)).delta.1 bk8] 59)
        obtain ⟨v8,w8,hrun,V8,_,b8⟩:=za0 zc2 zaC 47 (HVO7.out.below bA (by omega)) 1 (zdL (b:=w7.heap.size) (hi:=hi) (y:=x0 (q k)) (cs:=cR) (fun j hj=>by
         have:=(zal w7 #[.int .i64 (x0 (q k)).kind,.int .i64 (x0 (q k)).seq,.string (x0 (q k)).name,.int .i64 (x0 (q k)).length,.int .i64 (x0 (q k)).group,.int .i64 (x0 (q k)).row,.slice b6 (x0 (q k)).rows.1 bk6,.slice b7 (x0 (q k)).data.1 bk7,.slice b8 (x0 (q k)).delta.1 bk8] 59).cell j;rw [this,eR]
         simp) (zab.rd_below HR7.out bA (by omega))) (by simp;omega) (by omega) (by omega) (fun h=>by cases h)
        have HV8:Hid (View zab 59 w8 w2.heap.size hi v8 (l++[q k]).length (fun i=>x0 ((l++[q k]).getD i 0)) (cat2 co n (fun _=>cR))):=by
         have e:(l++[q k]).length=n+1:=by rw [List.length_append,← HN.out];rfl
         show View zab 59 w8 w2.heap.size hi v8 (l++[q k]).length (fun i=>x0 ((l++[q k]).getD i 0)) (cat2 co n (fun _=>cR))
         rw [e];refine V8.congr (fun i hi'=>?_)
         by_cases c:i<n
         ·rw [zbq _ _ c,zev (by rw [← HN.out];exact c)]
         ·obtain rfl:i=n:=by omega
          have e1:=zbD (fun i=>x0 (l.getD i 0)) i (fun _=>x0 (q k)) 0;rw [Nat.add_zero] at e1;rw [e1]
          show x0 (q k)=x0 ((l++[q k]).getD i 0)
          rw [HN.out,zc6]
        have HB8:Hid (Below w2.heap.size w2 w8):=(HB7.out.trans (bA.mono (by omega))).trans b8;clear V8 b8 bA RR eR;have u_0:w7.cell? ⟨wr.heap.size,0,none⟩=some (.int .i64 (x0 (q k)).kind):=XX.cell 0;have u_1:w7.cell? ⟨wr.heap.size,1,none⟩=some (.int .i64 (x0 (q k)).seq):=XX.cell 1;have u_2:w7.cell? ⟨wr.heap.size,2,none⟩=some (.string (x0 (q k)).name):=XX.cell 2;have u_3:w7.cell? ⟨wr.heap.size,3,none⟩=some (.int .i64 (x0 (q k)).length):=XX.cell 3;have u_4:w7.cell? ⟨wr.heap.size,4,none⟩=some (.int .i64 (x0 (q k)).group):=XX.cell 4;have u_5:w7.cell? ⟨wr.heap.size,5,none⟩=some (.int .i64 (x0 (q k)).row):=XX.cell 5;have u_6:w7.cell? ⟨wr.heap.size,6,none⟩=some (.slice b6 (x0 (q k)).rows.1 bk6):=XX.cell 6;have u_7:w7.cell? ⟨wr.heap.size,7,none⟩=some (.slice b7 (x0 (q k)).data.1 bk7):=XX.cell 7;have u_8:w7.cell? ⟨wr.heap.size,8,none⟩=some (.slice b8 (x0 (q k)).delta.1 bk8):=XX.cell 8;clear XX
        go_wp2_with (at_builtin;refine zdG rfl (.tmp 49) (.tmp 51) rfl ?_ ?_ hrun ?_;(simp [Act.eval]);(simp [Act.eval]))
        clear hrun;go_wp2
        go_roundw
        case rel=>exact ⟨k+1,l.length,l++[q k],_,by omega,by go_num,by rw [← HN.out],HCQ.out.more HSrt.out hlt HF.out,Alk.open_ (x0:=x0) HAf.out,by rw [List.length_append];have:=HLk.out;simp;omega,HV8.out,HB8.out⟩
        case measure=>simp [intOf];omega
    ·obtain rfl:k=N:=by omega
     clear hlt;go_wp2;go_ret;obtain ⟨e1,e2⟩:=HNE.out;exact ⟨_,l,co,w2.heap.size,rfl,by rw [← e1,← e2];exact HCQ.out.all HRe.out,z2,by rw [← e2,← HN.out];exact HVO.out,HB2.out.trans (HBR.out.mono z2)⟩
structure RecsResultD where
 code:Int
 recs:Nat×(Nat→RecD)
structure BytesResultD where
 code:Int
 bytes:Nat×(Nat→Nat)
structure IntsResultD where
 code:Int
 list:Nat×(Nat→Int)
structure GroupsResultD where
 code:Int
 groups:Nat×(Nat→Int)
theorem zb5 {f g:Nat→Nat}:∀ {n:Nat},(∀ i,i<n→f i=g i)→sumN f n=sumN g n
 | 0,_=>rfl
 | n+1,h=>by rw [zaV,zaV,zb5 (fun i hi=>h i (by omega)),h n (by omega)]
theorem zge (f g:Nat→Nat) (n:Nat):∀ m,sumN (fun i=>if i<n then f i else g (i-n)) (n+m)=sumN f n+sumN g m
 | 0=>by rw [Nat.add_zero];exact zb5 (fun i hi=>if_pos hi)
 | m+1=>by
  rw [← Nat.add_assoc,zaV,zge f g n m,zaV,if_neg (by omega),show n+m-n=m by omega];omega
theorem zgf (f:Nat→Nat) (l:List Nat):sumN (fun i=>f (l.getD i 0)) l.length=(l.map f).sum:=by
 generalize hn:l.length=n
 induction n generalizing l with
 | zero=>obtain rfl:l=[]:=List.eq_nil_of_length_eq_zero hn;rfl
 | succ n ih=>
  have hne:l≠[]:=fun h=>by rw [h] at hn;simp at hn
  have e:=List.dropLast_concat_getLast hne
  have hl:l.dropLast.length=n:=by rw [List.length_dropLast];omega
  have h1:=ih l.dropLast hl;rw [zaV]
  conv=>rhs;rw [← e]
  rw [List.map_append,List.sum_append,← h1]
  congr 1
  ·exact zb5 (fun i hi=>by
    have:l.getD i 0=l.dropLast.getD i 0:=by
     conv=>lhs;rw [← e]
     exact zev (by rw [hl];exact hi)
    rw [this])
  ·have:l.getD n 0=l.getLast hne:=by
    conv=>lhs;rw [← e]
    rw [← hl];exact zc6
   rw [this]
   simp
theorem zez (f:Nat→Nat):∀ (N:Nat) (l:List Nat),l.Nodup→(∀ i,i∈l→i<N)→(l.map f).sum≤sumN f N∧l.length≤N
 | 0,l,_,h=>by
  cases l with
  | nil=>exact ⟨Nat.le_refl _,Nat.le_refl _⟩
  | cons a t=>exact absurd (h a (by simp)) (by omega)
 | N+1,l,nd,h=>by
  by_cases c:N∈l
  ·have p:=List.perm_cons_erase c
   obtain ⟨h1,h2⟩:=zez f N (l.erase N) (nd.erase N) (fun i hi=>by
    have h3:=(nd.mem_erase_iff).1 hi;have:=h i h3.2
    omega)
   have e1:=(p.map f).sum_nat;have e2:=p.length_eq
   simp only [List.map_cons,List.sum_cons,List.length_cons] at e1 e2
   rw [zaV];omega
  ·obtain ⟨h1,h2⟩:=zez f N l nd (fun i hi=>by
    have:=h i hi
    by_cases c2:i=N
    ·subst c2;exact absurd hi c
    ·omega)
   rw [zaV];omega
theorem Cnt.nodup {x0:Nat→RecD} {N:Nat} {l:List Nat} (h:Cnt x0 N l):l.Nodup:=h.srt.imp (fun {a b} hab e=>by subst e;exact (za3 x0).irr _ hab)
theorem Cnt.sum {x0:Nat→RecD} {N:Nat} {l:List Nat} (h:Cnt x0 N l) (f:RecD→Nat):sumN (fun i=>f (x0 (l.getD i 0))) l.length≤sumN (fun i=>f (x0 i)) N∧l.length≤N:=by
 have:=zez (fun i=>f (x0 i)) N l h.nodup (fun i hi=>((h.mem i).1 hi).1);rw [← zgf (fun i=>f (x0 i))] at this;exact this
theorem zff (x0:Nat→RecD) (M:Nat) (l:List Nat):∀ k,k≤l.length→(∀ j,k≤j→j<l.length→numC (x0 M) (x0 (l.getD j 0))<0)→∃ a,a≤l.length∧(∀ j,a≤j→j<l.length→numC (x0 M) (x0 (l.getD j 0))<0)∧(a=0∨¬ numC (x0 M) (x0 (l.getD (a-1) 0))<0)
 | 0,h,hb=>⟨0,h,hb,.inl rfl⟩
 | k+1,h,hb=>by
  by_cases c:numC (x0 M) (x0 (l.getD k 0))<0
  ·exact zff x0 M l k (by omega) (fun j h1 h2=>by
    by_cases e:j=k
    ·subst e;exact c
    ·exact hb j (by omega) h2)
  ·exact ⟨k+1,h,hb,.inr c⟩
theorem zi0 (x0:Nat→RecD):∀ N,∃ l,Cnt x0 N l
 | 0=>⟨[],Cnt.nil x0⟩
 | N+1=>by
  obtain ⟨l,h⟩:=zi0 x0 N
  by_cases c:Fst x0 N
  ·obtain ⟨a,h1,h2,h3⟩:=zff x0 N l l.length (Nat.le_refl _) (fun j h1 h2=>by omega)
   exact ⟨_,h.ins c a h1 h2 h3⟩
  ·exact ⟨l,h.skip c⟩
theorem ziO (f:RecD→Nat) (tp:Nat→TapeD):sumN (fun i=>f (recT tp 2 i)) (lenT tp 2)=sumN (fun i=>f ((tp 0).recs.2 i)) (tp 0).recs.1+sumN (fun i=>f ((tp 1).recs.2 i)) (tp 1).recs.1:=by
 have e1:lenT tp 1=(tp 0).recs.1:=by simp [lenT]
 have e2:lenT tp 2=(tp 0).recs.1+(tp 1).recs.1:=by simp [lenT]
 rw [e2,← zge];refine zb5 (fun i hi=>?_)
 show f (cat2 (recT tp 1) (lenT tp 1) (tp 1).recs.2 i)=_
 rw [e1];unfold cat2
 by_cases c:i<(tp 0).recs.1
 ·rw [if_pos c,if_pos c]
  show f (cat2 (recT tp 0) (lenT tp 0) (tp 0).recs.2 i)=_
  have:=zbD (recT tp 0) (lenT tp 0) (tp 0).recs.2 i;rw [show lenT tp 0+i=i from Nat.zero_add i] at this;rw [this]
 ·rw [if_neg c,if_neg c]
theorem ziP {d:WorldD} (h2:d.tapes.1=2) (hsz:zbb d≤1048576) {l:List Nat} (h:Cnt (recT d.tapes.2 2) (lenT d.tapes.2 2) l):(szSl zaL) (l.length,fun i=>recT d.tapes.2 2 (l.getD i 0))≤1048576:=by
 obtain ⟨s1,s2⟩:=h.sum zaL;rw [ziO] at s1
 have e2:lenT d.tapes.2 2=(d.tapes.2 0).recs.1+(d.tapes.2 1).recs.1:=by simp [lenT]
 have e3:(szSl zaO) d.tapes=2+(zaO (d.tapes.2 0)+zaO (d.tapes.2 1)):=by
  unfold szSl;rw [h2]
  simp [sumN]
 have e4:zaO (d.tapes.2 0)=(d.tapes.2 0).recs.1+sumN (fun i=>zaL ((d.tapes.2 0).recs.2 i)) (d.tapes.2 0).recs.1:=rfl;have e5:zaO (d.tapes.2 1)=(d.tapes.2 1).recs.1+sumN (fun i=>zaL ((d.tapes.2 1).recs.2 i)) (d.tapes.2 1).recs.1:=rfl;have e6:zbb d=(szSl (szSl zav)) d.groups+lenD d.on+(szSl zaO) d.tapes:=rfl
 show l.length+sumN (fun i=>zaL (recT d.tapes.2 2 (l.getD i 0))) l.length≤1048576
 omega
set_option maxRecDepth 100000 in
theorem zfV (v:Value) (m:Nat) (y:Nat→RecD) (r:RecD) (cr:List Value) (hi:Nat) (w:World) (h:(zab.slice 59).rd w hi (m,y) [v]) (hr:zab.rd w hi r cr) (hhi:hi≤w.heap.size) (hm:m≤1048576) :
 Calls Tryz.prog 36 #[v,.agg cr.toArray] w (zaX (∃ i,i<m∧SameR (y i) r) w):=by
 obtain ⟨ao,cap,e,hmm,hc⟩:=h
 obtain rfl:v=.slice ao m cap:=by simpa using e
 have B0:=zaF w cr.toArray 59;have HR:=hid hr;have HC:=hid hc;have HR0:=hr;obtain ⟨b6,bk6,b7,bk7,b8,bk8,rfl,-⟩:=zaz HR0;clear e hmm hc HR0
 go_enter Tryz.func36,Tryz.ntmps36
 go_wp2
 go_loopw [5] (fun z wr=>∃ k:Nat,k≤m∧z=.int .i64 k∧(∀ t,t<k→¬ SameR (y t) r)∧One w wr (rwR r b6 bk6 b7 bk7 b8 bk8).toArray 59) (fun z _=>m-(intOf z).toNat)
 case atStart=>exact ⟨0,Nat.zero_le _,rfl,fun t ht=>by omega,B0⟩
 case round=>
  obtain ⟨k,hk,rfl,hall,hO⟩:=hrel;obtain ⟨wx,rfl⟩:∃ y,y=wr:=⟨_,rfl⟩;have HALL:=hid hall;have HO:=hid hO;have hbl:=hO.bel;have zx:=hbl.size;have XB:Box wx w.heap.size (rwR r b6 bk6 b7 bk7 b8 bk8).toArray 59:=hO.b1;clear hall B0 hO
  by_cases hlt:k<m
  ·obtain ⟨b,off,rfl,hbh,hel⟩:=HC.out (by omega)
   obtain ⟨ce,hy,hcell⟩:=zau (t:=59) hel hbl hhi hbh hlt;have bD:Below wx.heap.size wx wx.drew:=⟨rfl,rfl,rfl,Nat.le_refl _,fun _ _=>rfl⟩;have CS:=ze9 (y k) r ce (rwR r b6 bk6 b7 bk7 b8 bk8) hi hi wx.drew (zab.rd_below hy bD (by omega)) (zab.rd_below (zab.rd_below HR.out hbl hhi) bD (by omega)) (by show hi≤wx.heap.size;omega) (by show hi≤wx.heap.size;omega)
   have r1:wx.drew.rangeAt b (off+k*9) ce:=fun j v hv=>by
    have hj:j<9:=by have:=zab.rd_len hy;have e:j<ce.length:=(List.getElem?_eq_some_iff.1 hv).1;rw [this] at e;exact e
    have:=hcell j hj;rw [← Nat.add_assoc] at this;exact this.trans hv
   have r2:wx.drew.rangeAt w.heap.size 0 (rwR r b6 bk6 b7 bk7 b8 bk8):=fun j v hv=>by
    have:=(XB.cell j).trans (by simpa using hv);rw [Nat.zero_add];exact this
   have hce:ce.length=9:=zab.rd_len hy
   have CC:Calls Tryz.prog 69 (#[.agg ce.toArray,.agg (rwR r b6 bk6 b7 bk7 b8 bk8).toArray]++#[]) wx.drew (zaX (SameR (y k) r) wx.drew):=by rw [Array.append_empty];exact CS
   have HBX:=hid XB;obtain ⟨cq,hcq⟩:∃ c:List Value,c=(rwR r b6 bk6 b7 bk7 b8 bk8):=⟨_,rfl⟩
   have hcl:cq.length=9:=by rw [hcq];rfl
   rw [← hcq] at r2 CC;clear hcq
   have i1:(0:Int)≤(k:Int):=by omega
   have i2:(k:Int)<(m:Int):=by omega
   clear hcell hel XB hy CS HC HR
   go_upto_region 4 with fail
   refine zap 5 (fun w'=>w'.rangeAt b (off+k*9) ce∧w'.rangeAt w.heap.size 0 cq) za7 ⟨r1,r2⟩ (fun hHeld=>?_);refine zjE 0 rfl ?_
   try simp only [Act.put,SL]
   refine zjE 1 rfl ?_
   try simp only [Act.put,SL]
   refine zjE 2 rfl ?_
   try simp only [Act.put,SL]
   refine zad (i:=3) (oi:=_) 16 rfl (by kernel_rfl) (fun _ _ _ h=>h) (yieldsIf_load_mid (by kernel_rfl) 59 (.tmp 14) rfl b (off+k*9) (by simp [Act.eval,Act.put]) ce _ (fun w h=>h.1) Tryz.underlying59 rfl (zag hce)) (by assumption) ?_
   try simp only [Act.put,SL]
   refine zad (i:=4) (oi:=_) 16 rfl (by kernel_rfl) (fun _ _ _ h=>h) (yieldsIf_load_mid (by kernel_rfl) 59 (.tmp 3) rfl w.heap.size (0) (by simp [Act.eval,Act.put]) cq _ (fun w h=>h.2) Tryz.underlying59 rfl (zag hcl)) (by assumption) ?_
   try simp only [Act.put,SL]
   refine zae (i:=5) (o:=_) rfl (by kernel_rfl) (by kernel_rfl) (fun KC hKC=>?_);refine za2 (by kernel_rfl) (.func 69) 69 #[] _ _ rfl (by simp [Act.eval,Act.put]) #[.agg ce.toArray,.agg cq.toArray] (by simp [Act.eval,Act.put]) Tryz.func69 (by kernel_rfl) (by kernel_rfl) CC ?_;rintro ee w5 ⟨t,rfl,ht,b5⟩;refine ⟨_,rfl,?_⟩;refine hKC _ _ ?_;clear hKC KC
   try simp only [Act.put,SL]
   refine zah (by kernel_rfl) ?_ _;have b5':Below wx.heap.size wx w5:=bD.trans b5;have HO5:Hid (One w w5 (rwR r b6 bk6 b7 bk7 b8 bk8).toArray 59):=⟨HBX.out.below b5' HBX.out.lt,hbl.trans (b5'.mono zx)⟩;have HT:=hid ht;clear b5 b5' ht bD r1 r2 CC HBX hHeld hbl HO
   cases t with
   | true=>
    go_wp2;go_ret;exact zas rfl ⟨k,hlt,HT.out.1 (by simp)⟩ HO5.out.bel
   | false=>
    go_wp2
    go_roundw
    case rel=>exact ⟨k+1,by omega,by go_num,fun t ht=>by
     by_cases c:t=k
     ·rw [c];intro hs;exact absurd (HT.out.2 hs) (by simp)
     ·exact HALL.out t (by omega),HO5.out⟩
    case measure=>simp [intOf];omega
  ·obtain rfl:k=m:=by omega
   clear hbl XB;go_wp2;go_ret;exact zaj rfl (fun ⟨i,h1,h2⟩=>HALL.out i h1 h2) HO.out.bel
set_option maxRecDepth 100000 in
theorem zfW (a r:RecD) (ca cr:List Value) (hi hj:Nat) (w:World) (ha:zab.rd w hi a ca) (hr:zab.rd w hj r cr) :
 Calls Tryz.prog 37 #[.agg ca.toArray,.agg cr.toArray] w fun e w'=>e=.returned (.bool (decide (numC a r<0)))∧Below w.heap.size w w':=by
 obtain ⟨a6,ak6,a7,ak7,a8,ak8,rfl,-⟩:=zaz ha;obtain ⟨b6,bk6,b7,bk7,b8,bk8,rfl,-⟩:=zaz hr;have T0:=zaJ w (rwR a a6 ak6 a7 ak7 a8 ak8).toArray (rwR r b6 bk6 b7 bk7 b8 bk8).toArray 59 59;have HB0:=hid T0.bel;have x0:((w.alloc (.cells (rwR a a6 ak6 a7 ak7 a8 ak8).toArray 59)).alloc (.cells (rwR r b6 bk6 b7 bk7 b8 bk8).toArray 59)).cell? ⟨w.heap.size,0,none⟩=some (.int .i64 a.kind):=T0.b1.cell 0;have x1:((w.alloc (.cells (rwR a a6 ak6 a7 ak7 a8 ak8).toArray 59)).alloc (.cells (rwR r b6 bk6 b7 bk7 b8 bk8).toArray 59)).cell? ⟨w.heap.size,1,none⟩=some (.int .i64 a.seq):=T0.b1.cell 1;have x4:((w.alloc (.cells (rwR a a6 ak6 a7 ak7 a8 ak8).toArray 59)).alloc (.cells (rwR r b6 bk6 b7 bk7 b8 bk8).toArray 59)).cell? ⟨w.heap.size,4,none⟩=some (.int .i64 a.group):=T0.b1.cell 4;have y0:((w.alloc (.cells (rwR a a6 ak6 a7 ak7 a8 ak8).toArray 59)).alloc (.cells (rwR r b6 bk6 b7 bk7 b8 bk8).toArray 59)).cell? ⟨w.heap.size+1,0,none⟩=some (.int .i64 r.kind):=T0.b2.cell 0;have y1:((w.alloc (.cells (rwR a a6 ak6 a7 ak7 a8 ak8).toArray 59)).alloc (.cells (rwR r b6 bk6 b7 bk7 b8 bk8).toArray 59)).cell? ⟨w.heap.size+1,1,none⟩=some (.int .i64 r.seq):=T0.b2.cell 1
 have y4:((w.alloc (.cells (rwR a a6 ak6 a7 ak7 a8 ak8).toArray 59)).alloc (.cells (rwR r b6 bk6 b7 bk7 b8 bk8).toArray 59)).cell? ⟨w.heap.size+1,4,none⟩=some (.int .i64 r.group):=T0.b2.cell 4;clear T0 ha hr;have hN:=@zcQ a r
 by_cases c1:a.seq=r.seq
 case neg=>
  have e1:(a.seq != r.seq)=true:=by simpa using c1
  have e9:decide (numC a r<0)=decide (a.seq<r.seq):=decide_eq_decide.2 (by rw [hN];omega);rw [e9];clear hN e9
  go_enter Tryz.func37,Tryz.ntmps37
  go_wp2;go_ret;exact ⟨rfl,HB0.out⟩
 have e1:(a.seq != r.seq)=false:=by simpa using c1
 by_cases c2:a.kind=r.kind
 case neg=>
  have e2:(a.kind != r.kind)=true:=by simpa using c2
  have e9:decide (numC a r<0)=decide (a.kind<r.kind):=decide_eq_decide.2 (by rw [hN];omega);rw [e9];clear hN e9 c1
  go_enter Tryz.func37,Tryz.ntmps37
  go_wp2;go_ret;exact ⟨rfl,HB0.out⟩
 have e2:(a.kind != r.kind)=false:=by simpa using c2
 have e9:decide (numC a r<0)=decide (a.group<r.group):=decide_eq_decide.2 (by rw [hN];omega);rw [e9];clear hN e9 c1 c2
 go_enter Tryz.func37,Tryz.ntmps37
 go_wp2;go_ret;exact ⟨rfl,HB0.out⟩
theorem zai {w w':World} {B b o:Nat} {cs:List Value} (h:w.rangeAt b o cs) (hb:Below B w w') (hB:b<B):w'.rangeAt b o cs:=fun j v hv=>(hb.cell (p:=⟨b,o+j,none⟩) hB).trans (h j v hv)
theorem Src.below {w w':World} {B hi:Nat} {ao:Option Addr} {m:Nat} {y:Nat→RecD} {cy:Nat→List Value} (h:Src zab w hi ao m y cy) (hb:Below B w w') (hB:∀ b off,ao=some ⟨b,off,none⟩→b<B) (hh:hi≤B):Src zab w' hi ao m y cy:=
 ⟨fun h0=>by
  obtain ⟨b,off,e,hc⟩:=h.1 h0
  exact ⟨b,off,e,fun j hj k hk=>(hb.cell (p:=⟨b,off+(j*zab.sz+k),none⟩) (hB b off e)).trans (hc j hj k hk)⟩,fun j hj=>zab.rd_below (h.2 j hj) hb hh⟩
theorem zgg {D U:World} {lo hi m:Nat} {ao:Option Addr} {c:Nat} {y:Nat→RecD} {cy:Nat→List Value} {v0:Value} {x':Nat→RecD} {ce:Nat→List Value} (hS:Src zab D hi ao m y cy) (hz:ao=none→c=0∨m=0) (hA:∀ b off,ao=some ⟨b,off,none⟩→b<D.heap.size) (hb:Below D.heap.size D U) (hh:hi≤D.heap.size) (hm:m≤1000000)
 (V:View zab 59 U D.heap.size hi v0 0 x' ce):∃ v' w' ce',(Builtin.append_ #[47,47] 47 #[v0,.slice ao m c]).run Tryz.prog U=.ok v' w'∧View zab 59 w' D.heap.size hi v' m y ce'∧Below D.heap.size U w':=by
 obtain ⟨v',w',hrun,V',_,b'⟩:=za0 zc2 zaC 47 V c (hS.below hb hA hh) hb.size hh (by omega) hz;refine ⟨v',w',cat2 ce 0 cy,hrun,?_,b'⟩;rw [Nat.zero_add] at V';exact V'.congr (fun i hi=>by unfold cat2;rw [if_neg (by omega)];rfl)
theorem View.weakL {w:World} {lo lo' hi n:Nat} {v:Value} {x:Nat→RecD} {ce:Nat→List Value} (h:View zab 59 w lo hi v n x ce) (hl:lo'≤lo):View zab 59 w lo' hi v n x ce:=⟨⟨h.row.1,by
 rcases h.row.2 with hn | ⟨g,cap,cur,rfl,hbg,rest⟩
 ·exact .inl hn
 ·exact .inr ⟨g,cap,cur,rfl,Nat.le_trans hl hbg,rest⟩⟩,h.each⟩
theorem zcz {D U:World} {hi m g:Nat} {ao:Option Addr} {c:Nat} {y:Nat→RecD} {cy:Nat→List Value} {v0:Value} {x':Nat→RecD} {ce:Nat→List Value} {cR:List Value} (hS:Src zab D hi ao m y cy) (hz:ao=none→c=0∨m=0) (hA:∀ b off,ao=some ⟨b,off,none⟩→b<D.heap.size) (hb:Below D.heap.size D U) (hh:hi≤D.heap.size) (hm:m≤1000000)
 (V:View zab 59 U D.heap.size hi v0 0 x' ce) (hX:Box U g cR.toArray 59) (hg:v0.ownBlock≠some g):∃ v' w' ce',(Builtin.append_ #[47,47] 47 #[v0,.slice ao m c]).run Tryz.prog U=.ok v' w'∧(View zab 59 w' D.heap.size hi v' m y ce'∧Box w' g cR.toArray 59)∧Below D.heap.size U w':=by
 obtain ⟨v',w',hrun,V',hgr,b'⟩:=za0 zc2 zaC 47 V c (hS.below hb hA hh) hb.size hh (by omega) hz;refine ⟨v',w',cat2 ce 0 cy,hrun,⟨?_,?_⟩,b'⟩
 ·rw [Nat.zero_add] at V'
  exact V'.congr (fun i hi=>by unfold cat2;rw [if_neg (by omega)];rfl)
 ·exact (hgr.block g hX.lt (fun h=>hg h.symm)).trans hX
theorem zbE {D U:World} {hi m g:Nat} {v:Value} {x:Nat→RecD} {ce:Nat→List Value} {r:RecD} {cR:List Value} (hb:Below D.heap.size D U) (hh:hi≤D.heap.size) (hm:m≤1000000) (V:View zab 59 U D.heap.size hi v m x ce) (hX:Box U g cR.toArray 59) (hr:zab.rd U hi r cR) :
 ∃ v' w' ce',(Builtin.append_ #[47,47] 47 #[v,.slice (some ⟨g,0,none⟩) 1 1]).run Tryz.prog U=.ok v' w'∧View zab 59 w' D.heap.size hi v' (m+1) (cat2 x m (fun _=>r)) ce'∧Below D.heap.size U w':=by
 obtain ⟨v',w',hrun,V',_,b'⟩:=za0 zc2 zaC 47 V 1 (zdL (b:=g) (hi:=hi) (y:=r) (cs:=cR) (fun j hj=>by rw [hX.cell j];simp) hr) hb.size hh (by omega) (fun h=>by cases h);exact ⟨v',w',_,hrun,V',b'⟩
theorem zbc {D U:World} {hi m k:Nat} {ao:Option Addr} {c:Nat} {y:Nat→RecD} {cy:Nat→List Value} {v:Value} {x:Nat→RecD} {ce:Nat→List Value} (hS:Src zab D hi ao k y cy) (hz:ao=none→c=0∨k=0) (hA:∀ b off,ao=some ⟨b,off,none⟩→b<D.heap.size) (hb:Below D.heap.size D U) (hh:hi≤D.heap.size) (hm:m+k≤2000000)
 (V:View zab 59 U D.heap.size hi v m x ce):∃ v' w' ce',(Builtin.append_ #[47,47] 47 #[v,.slice ao k c]).run Tryz.prog U=.ok v' w'∧View zab 59 w' D.heap.size hi v' (m+k) (cat2 x m y) ce'∧Below D.heap.size U w':=by
 obtain ⟨v',w',hrun,V',_,b'⟩:=za0 zc2 zaC 47 V c (hS.below hb hA hh) hb.size hh (by omega) hz;exact ⟨v',w',_,hrun,V',b'⟩
theorem zaP (l:List Nat) (M at_:Nat) (h:at_≤l.length):(l.take at_++M::l.drop at_).length=at_+1+(l.length-at_):=by
 rw [List.length_append,List.length_cons,List.length_take,List.length_drop];omega
theorem zbd (x0:Nat→RecD) (l:List Nat) (M at_:Nat) (h:at_≤l.length) (i:Nat):cat2 (cat2 (fun i=>x0 (l.getD i 0)) at_ (fun _=>x0 M)) (at_+1) (fun j=>x0 (l.getD (at_+j) 0)) i=x0 ((l.take at_++M::l.drop at_).getD i 0):=by
 have hl:(l.take at_).length=at_:=by rw [List.length_take];omega
 by_cases c1:i<at_
 ·rw [zbq _ _ (by omega),zbq _ _ c1]
  congr 1
  rw [List.getD_eq_getElem?_getD,List.getD_eq_getElem?_getD,List.getElem?_append_left (by omega),List.getElem?_take,if_pos c1]
 ·by_cases c2:i=at_
  ·subst c2
   have e:=zbD (fun i=>x0 (l.getD i 0)) i (fun _=>x0 M) 0;rw [Nat.add_zero] at e;rw [zbq _ _ (by omega),e]
   congr 1
   rw [List.getD_eq_getElem?_getD,List.getElem?_append_right (by omega),hl]
   simp
  ·obtain ⟨j,rfl⟩:∃ j,i=at_+1+j:=⟨i-(at_+1),by omega⟩
   rw [zbD]
   congr 1
   rw [List.getD_eq_getElem?_getD,List.getD_eq_getElem?_getD,List.getElem?_append_right (by omega),hl,show at_+1+j-at_=j+1 by omega,List.getElem?_cons_succ,List.getElem?_drop]
end Go.Proofs.YtecofihpkcljcaaGreat
