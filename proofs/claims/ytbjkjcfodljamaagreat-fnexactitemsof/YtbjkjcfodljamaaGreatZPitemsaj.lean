/- Walk of slices.symMergeCmpFunc over records: the general case. -/
import Derived.Test.YtbjkjcfodljamaaGreatZPitemsai
set_option linter.unusedVariables false
set_option linter.unusedSimpArgs false
namespace Go.Proofs.YtbjkjcfodljamaaGreat
open Go.RowKit F256
theorem rot_id1 (m e x:Nat):Sym.rot m m e x = x:=by
  unfold Sym.rot
  repeat' split
  all_goals omega
theorem rot_id2 (s m x:Nat):Sym.rot s m m x = x:=by
  unfold Sym.rot
  repeat' split
  all_goals omega
theorem rot_a {s m e x:Nat} (h:x < s):Sym.rot s m e x = x:=by
  unfold Sym.rot
  repeat' split
  all_goals omega
theorem rot_b {s m e x:Nat} (h:e ≤ x):Sym.rot s m e x = x:=by
  unfold Sym.rot
  repeat' split
  all_goals omega
theorem rot_c {s m e mid x:Nat} (hm:mid + m = s + e) (h1:s ≤ m) (h2:m ≤ e) (h3:s ≤ x) (h4:x < mid):m ≤ Sym.rot s m e x ∧ Sym.rot s m e x < e:=by
  unfold Sym.rot
  repeat' split
  all_goals omega
theorem rot_d {s m e mid x:Nat} (hm:mid + m = s + e) (h1:s ≤ m) (h2:m ≤ e) (h3:mid ≤ x) (h4:x < e):s ≤ Sym.rot s m e x ∧ Sym.rot s m e x < m:=by
  unfold Sym.rot
  repeat' split
  all_goals omega
set_option maxHeartbeats 16000000 in
set_option maxRecDepth 1000000 in
theorem symMerge_3a (x0:Nat → RecD) (enc:Nat → List Value) (p:Nat → Nat) (N blk cap lo hi:Nat) (w:World) (V:RowsV x0 enc N blk cap lo hi w p) (hlo:hi ≤ lo) (hN:N < 1000000000) (a m b mid:Nat) (ham:a < m) (hmb:m < b) (hb:b ≤ N) (htag:∀ i j,a ≤ i → i < m → m ≤ j → j < b → p i < p j) (hs1:Sym.Srt (numL x0) p a m) (hs2:Sym.Srt (numL x0) p m b) (h0:m ≠ a + 1) (h1:b ≠ m + 1) (hmid:mid = (a + b) / 2) (hx:mid < m) (IH:∀ (p':Nat → Nat) (w':World) (a' m' b':Nat),b' - a' < b - a → RowsV x0 enc N blk cap lo hi w' p' → a' < m' → m' < b' → b' ≤ N → (∀ i j,a' ≤ i → i < m' → m' ≤ j → j < b' → p' i < p' j) → Sym.Srt (numL x0) p' a' m' → Sym.Srt (numL x0) p' m' b' → Calls Tryz.prog 163 #[.slice (some ⟨blk,0,none⟩) N cap,.int .i64 a',.int .i64 m',.int .i64 b',.func (.func 117) #[] #[]] w' (fun e w'' => e = .returned (.tuple #[]) ∧ ∃ q,RowsV x0 enc N blk cap lo hi w'' q ∧ Sym.Re a' b' p' q ∧ Sym.Srt (numL x0) q a' b' ∧ ChgL [blk] w' w'')) :
    Calls Tryz.prog 163 #[.slice (some ⟨blk,0,none⟩) N cap,.int .i64 a,.int .i64 m,.int .i64 b,.func (.func 117) #[] #[]] w (fun e w' => e = .returned (.tuple #[]) ∧ ∃ q,RowsV x0 enc N blk cap lo hi w' q ∧ Sym.Re a b p q ∧ Sym.Srt (numL x0) q a b ∧ ChgL [blk] w w'):=by
  have HV0:Hid (RowsV x0 enc N blk cap lo hi w p):=V;have HT:Hid (∀ i j,a ≤ i → i < m → m ≤ j → j < b → p i < p j):=htag;have HS1:Hid (Sym.Srt (numL x0) p a m):=hs1;have HS2:Hid (Sym.Srt (numL x0) p m b):=hs2;have HIH:Hid (∀ (p':Nat → Nat) (w':World) (a' m' b':Nat),b' - a' < b - a → RowsV x0 enc N blk cap lo hi w' p' → a' < m' → m' < b' → b' ≤ N → (∀ i j,a' ≤ i → i < m' → m' ≤ j → j < b' → p' i < p' j) → Sym.Srt (numL x0) p' a' m' → Sym.Srt (numL x0) p' m' b' → Calls Tryz.prog 163 #[.slice (some ⟨blk,0,none⟩) N cap,.int .i64 a',.int .i64 m',.int .i64 b',.func (.func 117) #[] #[]] w' (fun e w'' => e = .returned (.tuple #[]) ∧ ∃ q,RowsV x0 enc N blk cap lo hi w'' q ∧ Sym.Re a' b' p' q ∧ Sym.Srt (numL x0) q a' b' ∧ ChgL [blk] w' w'')):=IH;have HMID:Hid (mid = (a + b) / 2):=hmid;obtain ⟨D,hD⟩:∃ D,D = m - a:=⟨_,rfl⟩
  have w0:IntKind.i64.wrap ((m:Int) - (a:Int)) = (D:Int):=by rw [IntKind.wrap_i64];omega
  have d0:((D:Int) == 1) = false:=by simp;omega
  obtain ⟨E,hE⟩:∃ E,E = b - m:=⟨_,rfl⟩
  have w9:IntKind.i64.wrap ((b:Int) - (m:Int)) = (E:Int):=by rw [IntKind.wrap_i64];omega
  have d9:((E:Int) == 1) = false:=by simp;omega
  have w1:IntKind.i64.wrap ((a:Int) + (b:Int)) = ((a + b:Nat):Int):=by rw [IntKind.wrap_i64];omega
  have e1:((a:Int) + (b:Int)) / 2 = (mid:Int):=by omega
  obtain ⟨n,hn⟩:∃ n,n = mid + m:=⟨_,rfl⟩
  have w2:IntKind.i64.wrap ((mid:Int) + (m:Int)) = (n:Int):=by rw [IntKind.wrap_i64];omega
  obtain ⟨P,hP⟩:∃ P,n = P + 1:=⟨n - 1,by omega⟩
  have w3:IntKind.i64.wrap ((n:Int) - 1) = (P:Int):=by rw [IntKind.wrap_i64];omega
  obtain ⟨S0,hS0⟩:∃ S0,S0 = n - b:=⟨_,rfl⟩;obtain ⟨R0,hR0⟩:∃ R0,R0 = mid:=⟨_,rfl⟩
  have x1:(mid:Int) < (m:Int):=by omega
  have x2:IntKind.i64.wrap ((n:Int) - (b:Int)) = (S0:Int):=by rw [IntKind.wrap_i64];omega
  have F:a ≤ S0 ∧ n ≤ S0 + b ∧ (S0 = a ∨ n = S0 + b) ∧ S0 ≤ R0 ∧ R0 ≤ m ∧ R0 ≤ mid ∧ (R0 = m ∨ R0 = mid):=by omega
  have HF:Hid (a ≤ S0 ∧ n ≤ S0 + b ∧ (S0 = a ∨ n = S0 + b) ∧ S0 ≤ R0 ∧ R0 ≤ m ∧ R0 ≤ mid ∧ (R0 = m ∨ R0 = mid)):=F;have HN:Hid (n = mid + m ∧ n = P + 1):=⟨hn,hP⟩;have HSR:Hid (S0 = n - b ∧ R0 = mid):=⟨hS0,hR0⟩;clear V htag hs1 hs2 h0 h1 hD hE IH hmid hn hP hS0 hR0 F
  go_enter Tryz.func163,Tryz.ntmps163
  go_wp2
  go_loopw [20,21] (fun vi vj wr => ∃ (i j:Nat),S0 ≤ i ∧ i ≤ j ∧ j ≤ R0 ∧ vi = .int .i64 i ∧ vj = .int .i64 j ∧ RowsV x0 enc N blk cap lo hi wr p ∧ (i = S0 ∨ numL x0 (p (i - 1)) (p (n - i))) ∧ (j = R0 ∨ numL x0 (p (P - j)) (p j)) ∧ ChgL [blk] w wr) (fun vi vj _ => (intOf vj).toNat - (intOf vi).toNat)
  case atStart => exact ⟨S0,R0,Nat.le_refl _,HF.out.2.2.2.1,Nat.le_refl _,by have:=HSR.out;go_num,by have:=HSR.out;go_num,HV0.out,.inl rfl,.inl rfl,ChgL.refl _ _⟩
  case round =>
    obtain ⟨i,j,hmi,hij,hjb,rfl,rfl,V,hL,hR,C⟩:=hrel;have HC:Hid (ChgL [blk] w wr):=C;have HL:Hid (i = S0 ∨ numL x0 (p (i - 1)) (p (n - i))):=hL;have HR:Hid (j = R0 ∨ numL x0 (p (P - j)) (p j)):=hR;have HV:Hid (RowsV x0 enc N blk cap lo hi wr p):=V;clear C hL hR w0 w9 d0 d9 w1 e1 w2 w3
    by_cases hlt:i < j
    · have t1:(i:Int) < (j:Int):=by omega
      obtain ⟨B,hB⟩:∃ B,B = (i + j) / 2:=⟨_,rfl⟩
      have w1:IntKind.i64.wrap ((i:Int) + (j:Int)) = ((i + j:Nat):Int):=by rw [IntKind.wrap_i64];have:=HF.out;omega
      have e1:((i:Int) + (j:Int)) / 2 = (B:Int):=by omega
      have hBi:i ≤ B:=by omega
      have hBj:B < j:=by omega
      obtain ⟨A,hA⟩:∃ A,A = P - B:=⟨_,rfl⟩;have hF:=HF.out;have hNN:=HN.out;have hMID:=HMID.out
      have hAm:m ≤ A ∧ A < b:=by omega
      have HAP:Hid (A + B = P):=(by omega:A + B = P)
      have w4:IntKind.i64.wrap ((P:Int) - (B:Int)) = (A:Int):=by rw [IntKind.wrap_i64];omega
      have hAN:A < N:=by omega
      have hBN:B < N:=by omega
      have i1:(A:Int) < (N:Int):=by omega
      have i2:(B:Int) < (N:Int):=by omega
      have i3:(0:Int) ≤ (A:Int):=by omega
      have i4:(0:Int) ≤ (B:Int):=by omega
      have hsz:=(V.row.lt blk rfl);have HTG:Hid (p B < p A):=HT.out B A (by omega) (by omega) (by omega) (by omega);have VD:=View.drew V;have rgA:wr.drew.rangeAt blk (A * 9) (enc (p A)):=VD.range hAN;have rgB:wr.drew.rangeAt blk (B * 9) (enc (p B)):=VD.range hBN;have hsA:(enc (p A)).length = 9:=VD.lens A hAN;have hsB:(enc (p B)).length = 9:=VD.lens B hBN;have rdA:=VD.each A hAN;have rdB:=VD.each B hBN;obtain ⟨cA,hcA⟩:∃ c,c = enc (p A):=⟨_,rfl⟩;obtain ⟨cB,hcB⟩:∃ c,c = enc (p B):=⟨_,rfl⟩;rw [← hcA] at rgA hsA;rw [← hcB] at rgB hsB;have CC0:=byNumbers_is _ _ _ _ hi hi wr.drew rdA rdB;rw [← hcA,← hcB] at CC0;obtain ⟨c,hc⟩:∃ c:Int,c = numC (x0 (p A)) (x0 (p B)):=⟨_,rfl⟩;rw [← hc] at CC0;have HCN:Hid (c = numC (x0 (p A)) (x0 (p B))):=hc
      have CC:Calls Tryz.prog 117 (#[.agg cA.toArray,.agg cB.toArray] ++ #[]) wr.drew fun e w' => e = .returned (.int .i64 c) ∧ Below wr.drew.heap.size wr.drew w':=by rw [Array.append_empty];exact CC0
      have HVD:Hid (RowsV x0 enc N blk cap lo hi wr.drew p):=VD;clear CC0 hc hcA hcB rdA rdB hB hA hF hNN hMID VD V HV
      go_upto_region 35 with fail
      try rw [e1]
      refine wp_region_M 11 (fun w' => w'.rangeAt blk (A * 9) cA ∧ w'.rangeAt blk (B * 9) cB) mixedO ⟨rgA,rgB⟩ (fun hHeld => ?_);refine wpAnyM_pure (i:=0) (oi:=_) (v:=?_) rfl (by kernel_rfl) (fun _ _ _ h => h) (Or.inl ⟨by kernel_rfl,?_⟩) (by assumption) ?_
      rotate_left
      · intro w' hSw;go_simp;try with_reducible rfl
      try simp only [Act.put,SL]
      refine wpAnyM_pure (i:=1) (oi:=_) (v:=?_) rfl (by kernel_rfl) (fun _ _ _ h => h) (Or.inl ⟨by kernel_rfl,?_⟩) (by assumption) ?_
      rotate_left
      · intro w' hSw;go_simp;try with_reducible rfl
      try simp only [Act.put,SL]
      refine wpAnyM_pure (i:=2) (oi:=_) (v:=?_) rfl (by kernel_rfl) (fun _ _ _ h => h) (Or.inl ⟨by kernel_rfl,?_⟩) (by assumption) ?_
      rotate_left
      · intro w' hSw;go_simp;try with_reducible rfl
      try simp only [Act.put,SL]
      refine wpAnyM_pure (i:=3) (oi:=_) (v:=?_) rfl (by kernel_rfl) (fun _ _ _ h => h) (Or.inl ⟨by kernel_rfl,?_⟩) (by assumption) ?_
      rotate_left
      · intro w' hSw;go_simp;try with_reducible rfl
      try simp only [Act.put,SL]
      refine wpAnyM_pure (i:=4) (oi:=_) (v:=?_) rfl (by kernel_rfl) (fun _ _ _ h => h) (Or.inl ⟨by kernel_rfl,?_⟩) (by assumption) ?_
      rotate_left
      · intro w' hSw;go_simp;try with_reducible rfl
      try simp only [Act.put,SL]
      refine wpAnyM_pure (i:=5) (oi:=_) (v:=?_) rfl (by kernel_rfl) (fun _ _ _ h => h) (Or.inl ⟨by kernel_rfl,?_⟩) (by assumption) ?_
      rotate_left
      · intro w' hSw;go_simp;try with_reducible rfl
      try simp only [Act.put,SL]
      refine wpAnyM_take (i:=6) (oi:=_) (v:=.agg cA.toArray) 16 rfl (by kernel_rfl) (fun _ _ _ h => h) (yieldsIf_load_mid (by kernel_rfl) 81 (.tmp 163) rfl blk (A * 9) (by simp [Act.eval,Act.put]) cA _ (fun w h => h.1) Tryz.underlying81 rfl (info_Rec9 hsA)) (by assumption) ?_
      try simp only [Act.put,SL]
      refine wpAnyM_pure (i:=7) (oi:=_) (v:=?_) rfl (by kernel_rfl) (fun _ _ _ h => h) (Or.inl ⟨by kernel_rfl,?_⟩) (by assumption) ?_
      rotate_left
      · intro w' hSw;go_simp;try with_reducible rfl
      try simp only [Act.put,SL]
      refine wpAnyM_pure (i:=8) (oi:=_) (v:=?_) rfl (by kernel_rfl) (fun _ _ _ h => h) (Or.inl ⟨by kernel_rfl,?_⟩) (by assumption) ?_
      rotate_left
      · intro w' hSw;go_simp;try with_reducible rfl
      try simp only [Act.put,SL]
      refine wpAnyM_pure (i:=9) (oi:=_) (v:=?_) rfl (by kernel_rfl) (fun _ _ _ h => h) (Or.inl ⟨by kernel_rfl,?_⟩) (by assumption) ?_
      rotate_left
      · intro w' hSw;go_simp;try with_reducible rfl
      try simp only [Act.put,SL]
      refine wpAnyM_take (i:=10) (oi:=_) (v:=.agg cB.toArray) 16 rfl (by kernel_rfl) (fun _ _ _ h => h) (yieldsIf_load_mid (by kernel_rfl) 81 (.tmp 167) rfl blk (B * 9) (by simp [Act.eval,Act.put]) cB _ (fun w h => h.2) Tryz.underlying81 rfl (info_Rec9 hsB)) (by assumption) ?_
      try simp only [Act.put,SL]
      refine wpAnyM_one (i:=11) (o:=_) rfl (by kernel_rfl) (by kernel_rfl) (fun KC hKC => ?_);refine step_callv (by kernel_rfl) (.tmp 158) 117 #[] _ _ rfl (by simp [Act.eval,Act.put]) #[.agg cA.toArray,.agg cB.toArray] (by simp [Act.eval,Act.put]) Tryz.func117 (by kernel_rfl) (by kernel_rfl) CC ?_;rintro ee w5 ⟨rfl,b5⟩;refine ⟨_,rfl,?_⟩;refine hKC _ _ ?_;clear hKC KC
      try simp only [Act.put,SL]
      refine wpAnyM_pureL (i:=12) (oi:=_) (v:=?_) rfl (by kernel_rfl) (fun _ _ _ h => h) (Or.inl ⟨by kernel_rfl,?_⟩) ?_
      rotate_left
      · intro w' hSw;go_simp;try with_reducible rfl
      try simp only [Act.put,SL]
      obtain ⟨dd,hdd⟩:∃ d:Bool,d = decide (c < 0):=⟨_,rfl⟩;have HDD:Hid (dd = decide (c < 0)):=hdd;rw [← hdd];clear hdd;refine wpAnyM_pureL (i:=13) (oi:=_) (v:=?_) rfl (by kernel_rfl) (fun _ _ _ h => h) (Or.inl ⟨by kernel_rfl,?_⟩) ?_
      rotate_left
      · intro w' hSw;go_simp;try with_reducible rfl
      try simp only [Act.put,SL]
      refine wpAnyM_done (by kernel_rfl) ?_ _;have HV5:Hid (RowsV x0 enc N blk cap lo hi w5 p):=View.below HVD.out b5 (by show hi ≤ wr.heap.size;omega);have HC5:Hid (ChgL [blk] w w5):=HC.out.trans ((ChgL.of_below ⟨rfl,rfl,rfl,Nat.le_refl _,fun _ _ => rfl⟩:ChgL [blk] wr wr.drew).trans (ChgL.of_below b5));clear HVD HC rgA rgB hsA hsB b5 hHeld CC hsz
      cases dd
      · go_wp2
        go_roundw
        case rel =>
          refine ⟨B + 1,j,by omega,by omega,by omega,by go_num,rfl,HV5.out,.inr ?_,HR.out,HC5.out⟩
          have h2:¬ c < 0:=by simpa using HDD.out
          rw [HCN.out] at h2;rw [show B + 1 - 1 = B by omega,show n - (B + 1) = A by have h8:=HN.out;have h9:=HAP.out;omega];exact ask_no HTG.out h2
        case measure => simp [intOf];omega
      · go_wp2
        go_roundw
        case rel =>
          refine ⟨i,B,hmi,hBi,by omega,rfl,by go_num,HV5.out,HL.out,.inr ?_,HC5.out⟩
          have h2:c < 0:=by simpa using HDD.out
          rw [HCN.out] at h2;rw [show P - B = A by have h9:=HAP.out;omega];exact ask_yes h2
        case measure => simp [intOf];omega
    · obtain rfl:i = j:=by omega
      clear V hij;obtain ⟨e,he⟩:∃ e,e = n - i:=⟨_,rfl⟩;have hF:=HF.out;have hNN:=HN.out;have hMID:=HMID.out
      have hie:mid + m = i + e:=by omega
      have hae:a ≤ i ∧ i ≤ m ∧ m ≤ e ∧ e ≤ b ∧ i ≤ mid ∧ mid ≤ e:=by omega
      have w5:IntKind.i64.wrap ((n:Int) - (i:Int)) = (e:Int):=by rw [IntKind.wrap_i64];omega
      have SP:=Sym.split (numL_ord x0) (p:=p) (a:=a) (m:=m) (b:=b) (s:=i) (e:=e) (mid:=mid) HS1.out HS2.out hie hae.1 hae.2.1 hae.2.2.1 hae.2.2.2.1 (fun h3 h4 => by
        rcases HL.out with h5 | h5
        · omega
        · rw [← he] at h5;exact h5) (fun h3 h4 => by
        rcases HR.out with h5 | h5
        · omega
        · rw [show P - i = e - 1 by omega] at h5;exact h5)
      obtain ⟨q0,hq0⟩:∃ q0:Nat → Nat,q0 = fun k => p (Sym.rot i m e k):=⟨_,rfl⟩;have HQ0:Hid (q0 = fun k => p (Sym.rot i m e k)):=hq0;rw [← hq0] at SP;have HSa:Hid (Sym.Srt (numL x0) q0 a i):=SP.1;have HSb:Hid (Sym.Srt (numL x0) q0 i mid):=SP.2.1;have HSc:Hid (Sym.Srt (numL x0) q0 mid e):=SP.2.2.1;have HSd:Hid (Sym.Srt (numL x0) q0 e b):=SP.2.2.2.1;have HX:Hid (∀ x y,a ≤ x → x < mid → mid ≤ y → y < b → numL x0 (q0 x) (q0 y)):=(fun x y h3 h4 h5 h6 => by rw [hq0];exact SP.2.2.2.2 x y h3 h4 h5 h6:∀ x y,a ≤ x → x < mid → mid ≤ y → y < b → numL x0 (q0 x) (q0 y));have HRe0:Hid (Sym.Re a b p q0):=(by rw [hq0];exact (Sym.Re.rots p hae.2.1 hae.2.2.1).mono hae.1 hae.2.2.2.1:Sym.Re a b p q0);have HO:Hid (a ≤ mid ∧ mid ≤ b ∧ b ≤ N ∧ mid ≤ N ∧ a < mid ∧ mid < b ∧ e ≤ N):=⟨by omega,by omega,by omega,by omega,by omega,by omega,by omega⟩
      have HT2:Hid (∀ x y,a ≤ x → x < i → i ≤ y → y < mid → q0 x < q0 y):=(fun x y h3 h4 h5 h6 => by
        have h7:=rot_c (e:=e) hie hae.2.1 hae.2.2.1 h5 h6;rw [hq0]
        show p (Sym.rot i m e x) < p (Sym.rot i m e y)
        rw [rot_a h4]
        exact HT.out x _ h3 (by omega) h7.1 (by omega):∀ x y,a ≤ x → x < i → i ≤ y → y < mid → q0 x < q0 y)
      have HT3':Hid (∀ q1,Sym.Re a mid q0 q1 → ∀ x y,mid ≤ x → x < e → e ≤ y → y < b → q1 x < q1 y):=(fun q1 k x y h3 h4 h5 h6 => by
        have h7:=rot_d (e:=e) hie hae.2.1 hae.2.2.1 h3 h4;rw [k.out (.inr h3),k.out (.inr (by omega)),hq0]
        show p (Sym.rot i m e x) < p (Sym.rot i m e y)
        rw [rot_b h5]
        exact HT.out _ y (by omega) h7.2 (by omega) h6:∀ q1,Sym.Re a mid q0 q1 → ∀ x y,mid ≤ x → x < e → e ≤ y → y < b → q1 x < q1 y)
      have HT3:∀ {q1},Sym.Re a mid q0 q1 → ∀ x y,mid ≤ x → x < e → e ≤ y → y < b → q1 x < q1 y:=fun k => HT3'.out _ k;have HL3:∀ {q1},Sym.Re a mid q0 q1 → Sym.Srt (numL x0) q1 mid e:=fun k => HSc.out.congr (fun x h3 h4 => k.out (.inr h3));have HL4:∀ {q1},Sym.Re a mid q0 q1 → Sym.Srt (numL x0) q1 e b:=fun k => HSd.out.congr (fun x h3 h4 => k.out (.inr (by omega)))
      have HN1:¬ (i < m ∧ m < e) → ∀ x,p (Sym.rot i m e x) = p x:=fun h x => by
        by_cases h3:i = m
        · rw [h3,rot_id1]
        · have h4:e = m:=by omega
          rw [h4,rot_id2]
      have HN2:¬ (a < i ∧ i < mid) → Sym.Srt (numL x0) q0 a mid:=fun h => by
        by_cases h3:a = i
        · rw [h3];exact HSb.out
        · have h4:mid = i:=by omega
          rw [h4];exact HSa.out
      have HN3:∀ {q1},Sym.Re a mid q0 q1 → ¬ (mid < e ∧ e < b) → Sym.Srt (numL x0) q1 mid b:=fun k h => by
        by_cases h3:mid = e
        · rw [h3];rw [h3] at k;exact HSd.out.congr (fun x h3 h4 => k.out (.inr h3))
        · have h4:b = e:=by omega
          rw [h4];exact HL3 k
      clear hF hNN hMID SP hq0 he
      by_cases c1:i < m
      · by_cases c1b:m < e
        · have HK1:Hid (i < m ∧ m < e):=⟨c1,c1b⟩
          have f1:decide ((i:Int) < (m:Int)) = true:=decide_eq_true (by omega);have g1:decide (i < m) = true:=decide_eq_true (by omega)
          have u1:(i:Int) < (m:Int):=by omega
          have f1b:decide ((m:Int) < (e:Int)) = true:=decide_eq_true (by omega);have g1b:decide (m < e) = true:=decide_eq_true (by omega)
          have u1b:(m:Int) < (e:Int):=by omega
          have CS:=rotate_any x0 enc p N blk cap lo hi wr HV.out hlo hN i m e (.func (.func 117) #[] #[]) HK1.out.1 HK1.out.2 (by have h9:=HO.out;omega)
          go_wp2_with fail
          refine CS.mono ?_;rintro ee w6 ⟨rfl,V6,C6⟩;have HV1:Hid (RowsV x0 enc N blk cap lo hi w6 q0):=(by rw [HQ0.out];exact V6:RowsV x0 enc N blk cap lo hi w6 q0);have HC1:Hid (ChgL [blk] w w6):=HC.out.trans C6;clear V6 C6 CS
          by_cases c2:a < i
          · by_cases c2b:i < mid
            · have HK2:Hid (a < i ∧ i < mid):=⟨c2,c2b⟩
              have f2:decide ((a:Int) < (i:Int)) = true:=decide_eq_true (by omega);have g2:decide (a < i) = true:=decide_eq_true (by omega)
              have u2:(a:Int) < (i:Int):=by omega
              have f2b:decide ((i:Int) < (mid:Int)) = true:=decide_eq_true (by omega);have g2b:decide (i < mid) = true:=decide_eq_true (by omega)
              have u2b:(i:Int) < (mid:Int):=by omega
              have CS:=HIH.out q0 w6 a i mid (by have h9:=HO.out;omega) HV1.out HK2.out.1 HK2.out.2 HO.out.2.2.2.1 HT2.out HSa.out HSb.out
              go_wp2_with fail
              refine CS.mono ?_;rintro ee w7 ⟨rfl,q1,Vq,hRe1,hSo1,C7⟩;have HVq:Hid (RowsV x0 enc N blk cap lo hi w7 q1):=Vq;have HRe1:Hid (Sym.Re a mid q0 q1):=hRe1;have HSo1:Hid (Sym.Srt (numL x0) q1 a mid):=hSo1;have HCq:Hid (ChgL [blk] w w7):=HC1.out.trans C7;clear Vq hRe1 hSo1 C7 CS
              by_cases c3:mid < e
              · by_cases c3b:e < b
                · have HK3:Hid (mid < e ∧ e < b):=⟨c3,c3b⟩
                  have f3:decide ((mid:Int) < (e:Int)) = true:=decide_eq_true (by omega);have g3:decide (mid < e) = true:=decide_eq_true (by omega)
                  have u3:(mid:Int) < (e:Int):=by omega
                  have f3b:decide ((e:Int) < (b:Int)) = true:=decide_eq_true (by omega);have g3b:decide (e < b) = true:=decide_eq_true (by omega)
                  have u3b:(e:Int) < (b:Int):=by omega
                  have CS:=HIH.out q1 w7 mid e b (by have h9:=HO.out;omega) HVq.out HK3.out.1 HK3.out.2 HO.out.2.2.1 (HT3 HRe1.out) (HL3 HRe1.out) (HL4 HRe1.out)
                  go_wp2_with fail
                  refine CS.mono ?_;rintro ee w9 ⟨rfl,r,Vr,hRe2,hSo2,C9⟩;have HVr:Hid (RowsV x0 enc N blk cap lo hi w9 r):=Vr;have HRe2:Hid (Sym.Re mid b q1 r):=hRe2;have HSo2:Hid (Sym.Srt (numL x0) r mid b):=hSo2;have HCr:Hid (ChgL [blk] w w9):=HCq.out.trans C9;clear Vr hRe2 hSo2 C9 CS;go_wp2
                  go_end0
                  have hl:=Sym.halves HO.out.1 HO.out.2.1 HX.out HRe1.out HRe2.out HSo1.out HSo2.out;exact ⟨rfl,_,HVr.out,HRe0.out.trans hl.2,hl.1,HCr.out⟩
                · have HK3:Hid (¬ (mid < e ∧ e < b)):=fun h => c3b h.2
                  have f3:decide ((mid:Int) < (e:Int)) = true:=decide_eq_true (by omega);have g3:decide (mid < e) = true:=decide_eq_true (by omega)
                  have u3:(mid:Int) < (e:Int):=by omega
                  have f3b:decide ((e:Int) < (b:Int)) = false:=decide_eq_false (by omega);have g3b:decide (e < b) = false:=decide_eq_false (by omega);have HVr:Hid (RowsV x0 enc N blk cap lo hi w7 q1):=HVq.out;have HRe2:Hid (Sym.Re mid b q1 q1):=Sym.Re.refl _ _ _;have HSo2:Hid (Sym.Srt (numL x0) q1 mid b):=HN3 HRe1.out HK3.out;have HCr:Hid (ChgL [blk] w w7):=HCq.out;go_wp2
                  go_end0
                  have hl:=Sym.halves HO.out.1 HO.out.2.1 HX.out HRe1.out HRe2.out HSo1.out HSo2.out;exact ⟨rfl,_,HVr.out,HRe0.out.trans hl.2,hl.1,HCr.out⟩
              · have HK3:Hid (¬ (mid < e ∧ e < b)):=fun h => c3 h.1
                have f3:decide ((mid:Int) < (e:Int)) = false:=decide_eq_false (by omega);have g3:decide (mid < e) = false:=decide_eq_false (by omega);have HVr:Hid (RowsV x0 enc N blk cap lo hi w7 q1):=HVq.out;have HRe2:Hid (Sym.Re mid b q1 q1):=Sym.Re.refl _ _ _;have HSo2:Hid (Sym.Srt (numL x0) q1 mid b):=HN3 HRe1.out HK3.out;have HCr:Hid (ChgL [blk] w w7):=HCq.out;go_wp2
                go_end0
                have hl:=Sym.halves HO.out.1 HO.out.2.1 HX.out HRe1.out HRe2.out HSo1.out HSo2.out;exact ⟨rfl,_,HVr.out,HRe0.out.trans hl.2,hl.1,HCr.out⟩
            · have HK2:Hid (¬ (a < i ∧ i < mid)):=fun h => c2b h.2
              have f2:decide ((a:Int) < (i:Int)) = true:=decide_eq_true (by omega);have g2:decide (a < i) = true:=decide_eq_true (by omega)
              have u2:(a:Int) < (i:Int):=by omega
              have f2b:decide ((i:Int) < (mid:Int)) = false:=decide_eq_false (by omega);have g2b:decide (i < mid) = false:=decide_eq_false (by omega);obtain ⟨q1,hq1⟩:∃ q1,q1 = q0:=⟨_,rfl⟩;have HVq:Hid (RowsV x0 enc N blk cap lo hi w6 q1):=(by rw [hq1];exact HV1.out:RowsV x0 enc N blk cap lo hi w6 q1);have HRe1:Hid (Sym.Re a mid q0 q1):=(by rw [hq1];exact Sym.Re.refl _ _ _:Sym.Re a mid q0 q1);have HSo1:Hid (Sym.Srt (numL x0) q1 a mid):=(by rw [hq1];exact HN2 HK2.out:Sym.Srt (numL x0) q1 a mid);have HCq:Hid (ChgL [blk] w w6):=HC1.out;clear hq1
              by_cases c3:mid < e
              · by_cases c3b:e < b
                · have HK3:Hid (mid < e ∧ e < b):=⟨c3,c3b⟩
                  have f3:decide ((mid:Int) < (e:Int)) = true:=decide_eq_true (by omega);have g3:decide (mid < e) = true:=decide_eq_true (by omega)
                  have u3:(mid:Int) < (e:Int):=by omega
                  have f3b:decide ((e:Int) < (b:Int)) = true:=decide_eq_true (by omega);have g3b:decide (e < b) = true:=decide_eq_true (by omega)
                  have u3b:(e:Int) < (b:Int):=by omega
                  have CS:=HIH.out q1 w6 mid e b (by have h9:=HO.out;omega) HVq.out HK3.out.1 HK3.out.2 HO.out.2.2.1 (HT3 HRe1.out) (HL3 HRe1.out) (HL4 HRe1.out)
                  go_wp2_with fail
                  refine CS.mono ?_;rintro ee w9 ⟨rfl,r,Vr,hRe2,hSo2,C9⟩;have HVr:Hid (RowsV x0 enc N blk cap lo hi w9 r):=Vr;have HRe2:Hid (Sym.Re mid b q1 r):=hRe2;have HSo2:Hid (Sym.Srt (numL x0) r mid b):=hSo2;have HCr:Hid (ChgL [blk] w w9):=HCq.out.trans C9;clear Vr hRe2 hSo2 C9 CS;go_wp2
                  go_end0
                  have hl:=Sym.halves HO.out.1 HO.out.2.1 HX.out HRe1.out HRe2.out HSo1.out HSo2.out;exact ⟨rfl,_,HVr.out,HRe0.out.trans hl.2,hl.1,HCr.out⟩
                · have HK3:Hid (¬ (mid < e ∧ e < b)):=fun h => c3b h.2
                  have f3:decide ((mid:Int) < (e:Int)) = true:=decide_eq_true (by omega);have g3:decide (mid < e) = true:=decide_eq_true (by omega)
                  have u3:(mid:Int) < (e:Int):=by omega
                  have f3b:decide ((e:Int) < (b:Int)) = false:=decide_eq_false (by omega);have g3b:decide (e < b) = false:=decide_eq_false (by omega);have HVr:Hid (RowsV x0 enc N blk cap lo hi w6 q1):=HVq.out;have HRe2:Hid (Sym.Re mid b q1 q1):=Sym.Re.refl _ _ _;have HSo2:Hid (Sym.Srt (numL x0) q1 mid b):=HN3 HRe1.out HK3.out;have HCr:Hid (ChgL [blk] w w6):=HCq.out;go_wp2
                  go_end0
                  have hl:=Sym.halves HO.out.1 HO.out.2.1 HX.out HRe1.out HRe2.out HSo1.out HSo2.out;exact ⟨rfl,_,HVr.out,HRe0.out.trans hl.2,hl.1,HCr.out⟩
              · have HK3:Hid (¬ (mid < e ∧ e < b)):=fun h => c3 h.1
                have f3:decide ((mid:Int) < (e:Int)) = false:=decide_eq_false (by omega);have g3:decide (mid < e) = false:=decide_eq_false (by omega);have HVr:Hid (RowsV x0 enc N blk cap lo hi w6 q1):=HVq.out;have HRe2:Hid (Sym.Re mid b q1 q1):=Sym.Re.refl _ _ _;have HSo2:Hid (Sym.Srt (numL x0) q1 mid b):=HN3 HRe1.out HK3.out;have HCr:Hid (ChgL [blk] w w6):=HCq.out;go_wp2
                go_end0
                have hl:=Sym.halves HO.out.1 HO.out.2.1 HX.out HRe1.out HRe2.out HSo1.out HSo2.out;exact ⟨rfl,_,HVr.out,HRe0.out.trans hl.2,hl.1,HCr.out⟩
          · have HK2:Hid (¬ (a < i ∧ i < mid)):=fun h => c2 h.1
            have f2:decide ((a:Int) < (i:Int)) = false:=decide_eq_false (by omega);have g2:decide (a < i) = false:=decide_eq_false (by omega);obtain ⟨q1,hq1⟩:∃ q1,q1 = q0:=⟨_,rfl⟩;have HVq:Hid (RowsV x0 enc N blk cap lo hi w6 q1):=(by rw [hq1];exact HV1.out:RowsV x0 enc N blk cap lo hi w6 q1);have HRe1:Hid (Sym.Re a mid q0 q1):=(by rw [hq1];exact Sym.Re.refl _ _ _:Sym.Re a mid q0 q1);have HSo1:Hid (Sym.Srt (numL x0) q1 a mid):=(by rw [hq1];exact HN2 HK2.out:Sym.Srt (numL x0) q1 a mid);have HCq:Hid (ChgL [blk] w w6):=HC1.out;clear hq1
            by_cases c3:mid < e
            · by_cases c3b:e < b
              · have HK3:Hid (mid < e ∧ e < b):=⟨c3,c3b⟩
                have f3:decide ((mid:Int) < (e:Int)) = true:=decide_eq_true (by omega);have g3:decide (mid < e) = true:=decide_eq_true (by omega)
                have u3:(mid:Int) < (e:Int):=by omega
                have f3b:decide ((e:Int) < (b:Int)) = true:=decide_eq_true (by omega);have g3b:decide (e < b) = true:=decide_eq_true (by omega)
                have u3b:(e:Int) < (b:Int):=by omega
                have CS:=HIH.out q1 w6 mid e b (by have h9:=HO.out;omega) HVq.out HK3.out.1 HK3.out.2 HO.out.2.2.1 (HT3 HRe1.out) (HL3 HRe1.out) (HL4 HRe1.out)
                go_wp2_with fail
                refine CS.mono ?_;rintro ee w9 ⟨rfl,r,Vr,hRe2,hSo2,C9⟩;have HVr:Hid (RowsV x0 enc N blk cap lo hi w9 r):=Vr;have HRe2:Hid (Sym.Re mid b q1 r):=hRe2;have HSo2:Hid (Sym.Srt (numL x0) r mid b):=hSo2;have HCr:Hid (ChgL [blk] w w9):=HCq.out.trans C9;clear Vr hRe2 hSo2 C9 CS;go_wp2
                go_end0
                have hl:=Sym.halves HO.out.1 HO.out.2.1 HX.out HRe1.out HRe2.out HSo1.out HSo2.out;exact ⟨rfl,_,HVr.out,HRe0.out.trans hl.2,hl.1,HCr.out⟩
              · have HK3:Hid (¬ (mid < e ∧ e < b)):=fun h => c3b h.2
                have f3:decide ((mid:Int) < (e:Int)) = true:=decide_eq_true (by omega);have g3:decide (mid < e) = true:=decide_eq_true (by omega)
                have u3:(mid:Int) < (e:Int):=by omega
                have f3b:decide ((e:Int) < (b:Int)) = false:=decide_eq_false (by omega);have g3b:decide (e < b) = false:=decide_eq_false (by omega);have HVr:Hid (RowsV x0 enc N blk cap lo hi w6 q1):=HVq.out;have HRe2:Hid (Sym.Re mid b q1 q1):=Sym.Re.refl _ _ _;have HSo2:Hid (Sym.Srt (numL x0) q1 mid b):=HN3 HRe1.out HK3.out;have HCr:Hid (ChgL [blk] w w6):=HCq.out;go_wp2
                go_end0
                have hl:=Sym.halves HO.out.1 HO.out.2.1 HX.out HRe1.out HRe2.out HSo1.out HSo2.out;exact ⟨rfl,_,HVr.out,HRe0.out.trans hl.2,hl.1,HCr.out⟩
            · have HK3:Hid (¬ (mid < e ∧ e < b)):=fun h => c3 h.1
              have f3:decide ((mid:Int) < (e:Int)) = false:=decide_eq_false (by omega);have g3:decide (mid < e) = false:=decide_eq_false (by omega);have HVr:Hid (RowsV x0 enc N blk cap lo hi w6 q1):=HVq.out;have HRe2:Hid (Sym.Re mid b q1 q1):=Sym.Re.refl _ _ _;have HSo2:Hid (Sym.Srt (numL x0) q1 mid b):=HN3 HRe1.out HK3.out;have HCr:Hid (ChgL [blk] w w6):=HCq.out;go_wp2
              go_end0
              have hl:=Sym.halves HO.out.1 HO.out.2.1 HX.out HRe1.out HRe2.out HSo1.out HSo2.out;exact ⟨rfl,_,HVr.out,HRe0.out.trans hl.2,hl.1,HCr.out⟩
        · have HK1:Hid (¬ (i < m ∧ m < e)):=fun h => c1b h.2
          have f1:decide ((i:Int) < (m:Int)) = true:=decide_eq_true (by omega);have g1:decide (i < m) = true:=decide_eq_true (by omega)
          have u1:(i:Int) < (m:Int):=by omega
          have f1b:decide ((m:Int) < (e:Int)) = false:=decide_eq_false (by omega);have g1b:decide (m < e) = false:=decide_eq_false (by omega);have HV1:Hid (RowsV x0 enc N blk cap lo hi wr q0):=(HV.out.same (fun x _ => by rw [HQ0.out];exact (HN1 HK1.out x).symm):RowsV x0 enc N blk cap lo hi wr q0);have HC1:Hid (ChgL [blk] w wr):=HC.out
          by_cases c2:a < i
          · by_cases c2b:i < mid
            · have HK2:Hid (a < i ∧ i < mid):=⟨c2,c2b⟩
              have f2:decide ((a:Int) < (i:Int)) = true:=decide_eq_true (by omega);have g2:decide (a < i) = true:=decide_eq_true (by omega)
              have u2:(a:Int) < (i:Int):=by omega
              have f2b:decide ((i:Int) < (mid:Int)) = true:=decide_eq_true (by omega);have g2b:decide (i < mid) = true:=decide_eq_true (by omega)
              have u2b:(i:Int) < (mid:Int):=by omega
              have CS:=HIH.out q0 wr a i mid (by have h9:=HO.out;omega) HV1.out HK2.out.1 HK2.out.2 HO.out.2.2.2.1 HT2.out HSa.out HSb.out
              go_wp2_with fail
              refine CS.mono ?_;rintro ee w7 ⟨rfl,q1,Vq,hRe1,hSo1,C7⟩;have HVq:Hid (RowsV x0 enc N blk cap lo hi w7 q1):=Vq;have HRe1:Hid (Sym.Re a mid q0 q1):=hRe1;have HSo1:Hid (Sym.Srt (numL x0) q1 a mid):=hSo1;have HCq:Hid (ChgL [blk] w w7):=HC1.out.trans C7;clear Vq hRe1 hSo1 C7 CS
              by_cases c3:mid < e
              · by_cases c3b:e < b
                · have HK3:Hid (mid < e ∧ e < b):=⟨c3,c3b⟩
                  have f3:decide ((mid:Int) < (e:Int)) = true:=decide_eq_true (by omega);have g3:decide (mid < e) = true:=decide_eq_true (by omega)
                  have u3:(mid:Int) < (e:Int):=by omega
                  have f3b:decide ((e:Int) < (b:Int)) = true:=decide_eq_true (by omega);have g3b:decide (e < b) = true:=decide_eq_true (by omega)
                  have u3b:(e:Int) < (b:Int):=by omega
                  have CS:=HIH.out q1 w7 mid e b (by have h9:=HO.out;omega) HVq.out HK3.out.1 HK3.out.2 HO.out.2.2.1 (HT3 HRe1.out) (HL3 HRe1.out) (HL4 HRe1.out)
                  go_wp2_with fail
                  refine CS.mono ?_;rintro ee w9 ⟨rfl,r,Vr,hRe2,hSo2,C9⟩;have HVr:Hid (RowsV x0 enc N blk cap lo hi w9 r):=Vr;have HRe2:Hid (Sym.Re mid b q1 r):=hRe2;have HSo2:Hid (Sym.Srt (numL x0) r mid b):=hSo2;have HCr:Hid (ChgL [blk] w w9):=HCq.out.trans C9;clear Vr hRe2 hSo2 C9 CS;go_wp2
                  go_end0
                  have hl:=Sym.halves HO.out.1 HO.out.2.1 HX.out HRe1.out HRe2.out HSo1.out HSo2.out;exact ⟨rfl,_,HVr.out,HRe0.out.trans hl.2,hl.1,HCr.out⟩
                · have HK3:Hid (¬ (mid < e ∧ e < b)):=fun h => c3b h.2
                  have f3:decide ((mid:Int) < (e:Int)) = true:=decide_eq_true (by omega);have g3:decide (mid < e) = true:=decide_eq_true (by omega)
                  have u3:(mid:Int) < (e:Int):=by omega
                  have f3b:decide ((e:Int) < (b:Int)) = false:=decide_eq_false (by omega);have g3b:decide (e < b) = false:=decide_eq_false (by omega);have HVr:Hid (RowsV x0 enc N blk cap lo hi w7 q1):=HVq.out;have HRe2:Hid (Sym.Re mid b q1 q1):=Sym.Re.refl _ _ _;have HSo2:Hid (Sym.Srt (numL x0) q1 mid b):=HN3 HRe1.out HK3.out;have HCr:Hid (ChgL [blk] w w7):=HCq.out;go_wp2
                  go_end0
                  have hl:=Sym.halves HO.out.1 HO.out.2.1 HX.out HRe1.out HRe2.out HSo1.out HSo2.out;exact ⟨rfl,_,HVr.out,HRe0.out.trans hl.2,hl.1,HCr.out⟩
              · have HK3:Hid (¬ (mid < e ∧ e < b)):=fun h => c3 h.1
                have f3:decide ((mid:Int) < (e:Int)) = false:=decide_eq_false (by omega);have g3:decide (mid < e) = false:=decide_eq_false (by omega);have HVr:Hid (RowsV x0 enc N blk cap lo hi w7 q1):=HVq.out;have HRe2:Hid (Sym.Re mid b q1 q1):=Sym.Re.refl _ _ _;have HSo2:Hid (Sym.Srt (numL x0) q1 mid b):=HN3 HRe1.out HK3.out;have HCr:Hid (ChgL [blk] w w7):=HCq.out;go_wp2
                go_end0
                have hl:=Sym.halves HO.out.1 HO.out.2.1 HX.out HRe1.out HRe2.out HSo1.out HSo2.out;exact ⟨rfl,_,HVr.out,HRe0.out.trans hl.2,hl.1,HCr.out⟩
            · have HK2:Hid (¬ (a < i ∧ i < mid)):=fun h => c2b h.2
              have f2:decide ((a:Int) < (i:Int)) = true:=decide_eq_true (by omega);have g2:decide (a < i) = true:=decide_eq_true (by omega)
              have u2:(a:Int) < (i:Int):=by omega
              have f2b:decide ((i:Int) < (mid:Int)) = false:=decide_eq_false (by omega);have g2b:decide (i < mid) = false:=decide_eq_false (by omega);obtain ⟨q1,hq1⟩:∃ q1,q1 = q0:=⟨_,rfl⟩;have HVq:Hid (RowsV x0 enc N blk cap lo hi wr q1):=(by rw [hq1];exact HV1.out:RowsV x0 enc N blk cap lo hi wr q1);have HRe1:Hid (Sym.Re a mid q0 q1):=(by rw [hq1];exact Sym.Re.refl _ _ _:Sym.Re a mid q0 q1);have HSo1:Hid (Sym.Srt (numL x0) q1 a mid):=(by rw [hq1];exact HN2 HK2.out:Sym.Srt (numL x0) q1 a mid);have HCq:Hid (ChgL [blk] w wr):=HC1.out;clear hq1
              by_cases c3:mid < e
              · by_cases c3b:e < b
                · have HK3:Hid (mid < e ∧ e < b):=⟨c3,c3b⟩
                  have f3:decide ((mid:Int) < (e:Int)) = true:=decide_eq_true (by omega);have g3:decide (mid < e) = true:=decide_eq_true (by omega)
                  have u3:(mid:Int) < (e:Int):=by omega
                  have f3b:decide ((e:Int) < (b:Int)) = true:=decide_eq_true (by omega);have g3b:decide (e < b) = true:=decide_eq_true (by omega)
                  have u3b:(e:Int) < (b:Int):=by omega
                  have CS:=HIH.out q1 wr mid e b (by have h9:=HO.out;omega) HVq.out HK3.out.1 HK3.out.2 HO.out.2.2.1 (HT3 HRe1.out) (HL3 HRe1.out) (HL4 HRe1.out)
                  go_wp2_with fail
                  refine CS.mono ?_;rintro ee w9 ⟨rfl,r,Vr,hRe2,hSo2,C9⟩;have HVr:Hid (RowsV x0 enc N blk cap lo hi w9 r):=Vr;have HRe2:Hid (Sym.Re mid b q1 r):=hRe2;have HSo2:Hid (Sym.Srt (numL x0) r mid b):=hSo2;have HCr:Hid (ChgL [blk] w w9):=HCq.out.trans C9;clear Vr hRe2 hSo2 C9 CS;go_wp2
                  go_end0
                  have hl:=Sym.halves HO.out.1 HO.out.2.1 HX.out HRe1.out HRe2.out HSo1.out HSo2.out;exact ⟨rfl,_,HVr.out,HRe0.out.trans hl.2,hl.1,HCr.out⟩
                · have HK3:Hid (¬ (mid < e ∧ e < b)):=fun h => c3b h.2
                  have f3:decide ((mid:Int) < (e:Int)) = true:=decide_eq_true (by omega);have g3:decide (mid < e) = true:=decide_eq_true (by omega)
                  have u3:(mid:Int) < (e:Int):=by omega
                  have f3b:decide ((e:Int) < (b:Int)) = false:=decide_eq_false (by omega);have g3b:decide (e < b) = false:=decide_eq_false (by omega);have HVr:Hid (RowsV x0 enc N blk cap lo hi wr q1):=HVq.out;have HRe2:Hid (Sym.Re mid b q1 q1):=Sym.Re.refl _ _ _;have HSo2:Hid (Sym.Srt (numL x0) q1 mid b):=HN3 HRe1.out HK3.out;have HCr:Hid (ChgL [blk] w wr):=HCq.out;go_wp2
                  go_end0
                  have hl:=Sym.halves HO.out.1 HO.out.2.1 HX.out HRe1.out HRe2.out HSo1.out HSo2.out;exact ⟨rfl,_,HVr.out,HRe0.out.trans hl.2,hl.1,HCr.out⟩
              · have HK3:Hid (¬ (mid < e ∧ e < b)):=fun h => c3 h.1
                have f3:decide ((mid:Int) < (e:Int)) = false:=decide_eq_false (by omega);have g3:decide (mid < e) = false:=decide_eq_false (by omega);have HVr:Hid (RowsV x0 enc N blk cap lo hi wr q1):=HVq.out;have HRe2:Hid (Sym.Re mid b q1 q1):=Sym.Re.refl _ _ _;have HSo2:Hid (Sym.Srt (numL x0) q1 mid b):=HN3 HRe1.out HK3.out;have HCr:Hid (ChgL [blk] w wr):=HCq.out;go_wp2
                go_end0
                have hl:=Sym.halves HO.out.1 HO.out.2.1 HX.out HRe1.out HRe2.out HSo1.out HSo2.out;exact ⟨rfl,_,HVr.out,HRe0.out.trans hl.2,hl.1,HCr.out⟩
          · have HK2:Hid (¬ (a < i ∧ i < mid)):=fun h => c2 h.1
            have f2:decide ((a:Int) < (i:Int)) = false:=decide_eq_false (by omega);have g2:decide (a < i) = false:=decide_eq_false (by omega);obtain ⟨q1,hq1⟩:∃ q1,q1 = q0:=⟨_,rfl⟩;have HVq:Hid (RowsV x0 enc N blk cap lo hi wr q1):=(by rw [hq1];exact HV1.out:RowsV x0 enc N blk cap lo hi wr q1);have HRe1:Hid (Sym.Re a mid q0 q1):=(by rw [hq1];exact Sym.Re.refl _ _ _:Sym.Re a mid q0 q1);have HSo1:Hid (Sym.Srt (numL x0) q1 a mid):=(by rw [hq1];exact HN2 HK2.out:Sym.Srt (numL x0) q1 a mid);have HCq:Hid (ChgL [blk] w wr):=HC1.out;clear hq1
            by_cases c3:mid < e
            · by_cases c3b:e < b
              · have HK3:Hid (mid < e ∧ e < b):=⟨c3,c3b⟩
                have f3:decide ((mid:Int) < (e:Int)) = true:=decide_eq_true (by omega);have g3:decide (mid < e) = true:=decide_eq_true (by omega)
                have u3:(mid:Int) < (e:Int):=by omega
                have f3b:decide ((e:Int) < (b:Int)) = true:=decide_eq_true (by omega);have g3b:decide (e < b) = true:=decide_eq_true (by omega)
                have u3b:(e:Int) < (b:Int):=by omega
                have CS:=HIH.out q1 wr mid e b (by have h9:=HO.out;omega) HVq.out HK3.out.1 HK3.out.2 HO.out.2.2.1 (HT3 HRe1.out) (HL3 HRe1.out) (HL4 HRe1.out)
                go_wp2_with fail
                refine CS.mono ?_;rintro ee w9 ⟨rfl,r,Vr,hRe2,hSo2,C9⟩;have HVr:Hid (RowsV x0 enc N blk cap lo hi w9 r):=Vr;have HRe2:Hid (Sym.Re mid b q1 r):=hRe2;have HSo2:Hid (Sym.Srt (numL x0) r mid b):=hSo2;have HCr:Hid (ChgL [blk] w w9):=HCq.out.trans C9;clear Vr hRe2 hSo2 C9 CS;go_wp2
                go_end0
                have hl:=Sym.halves HO.out.1 HO.out.2.1 HX.out HRe1.out HRe2.out HSo1.out HSo2.out;exact ⟨rfl,_,HVr.out,HRe0.out.trans hl.2,hl.1,HCr.out⟩
              · have HK3:Hid (¬ (mid < e ∧ e < b)):=fun h => c3b h.2
                have f3:decide ((mid:Int) < (e:Int)) = true:=decide_eq_true (by omega);have g3:decide (mid < e) = true:=decide_eq_true (by omega)
                have u3:(mid:Int) < (e:Int):=by omega
                have f3b:decide ((e:Int) < (b:Int)) = false:=decide_eq_false (by omega);have g3b:decide (e < b) = false:=decide_eq_false (by omega);have HVr:Hid (RowsV x0 enc N blk cap lo hi wr q1):=HVq.out;have HRe2:Hid (Sym.Re mid b q1 q1):=Sym.Re.refl _ _ _;have HSo2:Hid (Sym.Srt (numL x0) q1 mid b):=HN3 HRe1.out HK3.out;have HCr:Hid (ChgL [blk] w wr):=HCq.out;go_wp2
                go_end0
                have hl:=Sym.halves HO.out.1 HO.out.2.1 HX.out HRe1.out HRe2.out HSo1.out HSo2.out;exact ⟨rfl,_,HVr.out,HRe0.out.trans hl.2,hl.1,HCr.out⟩
            · have HK3:Hid (¬ (mid < e ∧ e < b)):=fun h => c3 h.1
              have f3:decide ((mid:Int) < (e:Int)) = false:=decide_eq_false (by omega);have g3:decide (mid < e) = false:=decide_eq_false (by omega);have HVr:Hid (RowsV x0 enc N blk cap lo hi wr q1):=HVq.out;have HRe2:Hid (Sym.Re mid b q1 q1):=Sym.Re.refl _ _ _;have HSo2:Hid (Sym.Srt (numL x0) q1 mid b):=HN3 HRe1.out HK3.out;have HCr:Hid (ChgL [blk] w wr):=HCq.out;go_wp2
              go_end0
              have hl:=Sym.halves HO.out.1 HO.out.2.1 HX.out HRe1.out HRe2.out HSo1.out HSo2.out;exact ⟨rfl,_,HVr.out,HRe0.out.trans hl.2,hl.1,HCr.out⟩
      · have HK1:Hid (¬ (i < m ∧ m < e)):=fun h => c1 h.1
        have f1:decide ((i:Int) < (m:Int)) = false:=decide_eq_false (by omega);have g1:decide (i < m) = false:=decide_eq_false (by omega);have HV1:Hid (RowsV x0 enc N blk cap lo hi wr q0):=(HV.out.same (fun x _ => by rw [HQ0.out];exact (HN1 HK1.out x).symm):RowsV x0 enc N blk cap lo hi wr q0);have HC1:Hid (ChgL [blk] w wr):=HC.out
        by_cases c2:a < i
        · by_cases c2b:i < mid
          · have HK2:Hid (a < i ∧ i < mid):=⟨c2,c2b⟩
            have f2:decide ((a:Int) < (i:Int)) = true:=decide_eq_true (by omega);have g2:decide (a < i) = true:=decide_eq_true (by omega)
            have u2:(a:Int) < (i:Int):=by omega
            have f2b:decide ((i:Int) < (mid:Int)) = true:=decide_eq_true (by omega);have g2b:decide (i < mid) = true:=decide_eq_true (by omega)
            have u2b:(i:Int) < (mid:Int):=by omega
            have CS:=HIH.out q0 wr a i mid (by have h9:=HO.out;omega) HV1.out HK2.out.1 HK2.out.2 HO.out.2.2.2.1 HT2.out HSa.out HSb.out
            go_wp2_with fail
            refine CS.mono ?_;rintro ee w7 ⟨rfl,q1,Vq,hRe1,hSo1,C7⟩;have HVq:Hid (RowsV x0 enc N blk cap lo hi w7 q1):=Vq;have HRe1:Hid (Sym.Re a mid q0 q1):=hRe1;have HSo1:Hid (Sym.Srt (numL x0) q1 a mid):=hSo1;have HCq:Hid (ChgL [blk] w w7):=HC1.out.trans C7;clear Vq hRe1 hSo1 C7 CS
            by_cases c3:mid < e
            · by_cases c3b:e < b
              · have HK3:Hid (mid < e ∧ e < b):=⟨c3,c3b⟩
                have f3:decide ((mid:Int) < (e:Int)) = true:=decide_eq_true (by omega);have g3:decide (mid < e) = true:=decide_eq_true (by omega)
                have u3:(mid:Int) < (e:Int):=by omega
                have f3b:decide ((e:Int) < (b:Int)) = true:=decide_eq_true (by omega);have g3b:decide (e < b) = true:=decide_eq_true (by omega)
                have u3b:(e:Int) < (b:Int):=by omega
                have CS:=HIH.out q1 w7 mid e b (by have h9:=HO.out;omega) HVq.out HK3.out.1 HK3.out.2 HO.out.2.2.1 (HT3 HRe1.out) (HL3 HRe1.out) (HL4 HRe1.out)
                go_wp2_with fail
                refine CS.mono ?_;rintro ee w9 ⟨rfl,r,Vr,hRe2,hSo2,C9⟩;have HVr:Hid (RowsV x0 enc N blk cap lo hi w9 r):=Vr;have HRe2:Hid (Sym.Re mid b q1 r):=hRe2;have HSo2:Hid (Sym.Srt (numL x0) r mid b):=hSo2;have HCr:Hid (ChgL [blk] w w9):=HCq.out.trans C9;clear Vr hRe2 hSo2 C9 CS;go_wp2
                go_end0
                have hl:=Sym.halves HO.out.1 HO.out.2.1 HX.out HRe1.out HRe2.out HSo1.out HSo2.out;exact ⟨rfl,_,HVr.out,HRe0.out.trans hl.2,hl.1,HCr.out⟩
              · have HK3:Hid (¬ (mid < e ∧ e < b)):=fun h => c3b h.2
                have f3:decide ((mid:Int) < (e:Int)) = true:=decide_eq_true (by omega);have g3:decide (mid < e) = true:=decide_eq_true (by omega)
                have u3:(mid:Int) < (e:Int):=by omega
                have f3b:decide ((e:Int) < (b:Int)) = false:=decide_eq_false (by omega);have g3b:decide (e < b) = false:=decide_eq_false (by omega);have HVr:Hid (RowsV x0 enc N blk cap lo hi w7 q1):=HVq.out;have HRe2:Hid (Sym.Re mid b q1 q1):=Sym.Re.refl _ _ _;have HSo2:Hid (Sym.Srt (numL x0) q1 mid b):=HN3 HRe1.out HK3.out;have HCr:Hid (ChgL [blk] w w7):=HCq.out;go_wp2
                go_end0
                have hl:=Sym.halves HO.out.1 HO.out.2.1 HX.out HRe1.out HRe2.out HSo1.out HSo2.out;exact ⟨rfl,_,HVr.out,HRe0.out.trans hl.2,hl.1,HCr.out⟩
            · have HK3:Hid (¬ (mid < e ∧ e < b)):=fun h => c3 h.1
              have f3:decide ((mid:Int) < (e:Int)) = false:=decide_eq_false (by omega);have g3:decide (mid < e) = false:=decide_eq_false (by omega);have HVr:Hid (RowsV x0 enc N blk cap lo hi w7 q1):=HVq.out;have HRe2:Hid (Sym.Re mid b q1 q1):=Sym.Re.refl _ _ _;have HSo2:Hid (Sym.Srt (numL x0) q1 mid b):=HN3 HRe1.out HK3.out;have HCr:Hid (ChgL [blk] w w7):=HCq.out;go_wp2
              go_end0
              have hl:=Sym.halves HO.out.1 HO.out.2.1 HX.out HRe1.out HRe2.out HSo1.out HSo2.out;exact ⟨rfl,_,HVr.out,HRe0.out.trans hl.2,hl.1,HCr.out⟩
          · have HK2:Hid (¬ (a < i ∧ i < mid)):=fun h => c2b h.2
            have f2:decide ((a:Int) < (i:Int)) = true:=decide_eq_true (by omega);have g2:decide (a < i) = true:=decide_eq_true (by omega)
            have u2:(a:Int) < (i:Int):=by omega
            have f2b:decide ((i:Int) < (mid:Int)) = false:=decide_eq_false (by omega);have g2b:decide (i < mid) = false:=decide_eq_false (by omega);obtain ⟨q1,hq1⟩:∃ q1,q1 = q0:=⟨_,rfl⟩;have HVq:Hid (RowsV x0 enc N blk cap lo hi wr q1):=(by rw [hq1];exact HV1.out:RowsV x0 enc N blk cap lo hi wr q1);have HRe1:Hid (Sym.Re a mid q0 q1):=(by rw [hq1];exact Sym.Re.refl _ _ _:Sym.Re a mid q0 q1);have HSo1:Hid (Sym.Srt (numL x0) q1 a mid):=(by rw [hq1];exact HN2 HK2.out:Sym.Srt (numL x0) q1 a mid);have HCq:Hid (ChgL [blk] w wr):=HC1.out;clear hq1
            by_cases c3:mid < e
            · by_cases c3b:e < b
              · have HK3:Hid (mid < e ∧ e < b):=⟨c3,c3b⟩
                have f3:decide ((mid:Int) < (e:Int)) = true:=decide_eq_true (by omega);have g3:decide (mid < e) = true:=decide_eq_true (by omega)
                have u3:(mid:Int) < (e:Int):=by omega
                have f3b:decide ((e:Int) < (b:Int)) = true:=decide_eq_true (by omega);have g3b:decide (e < b) = true:=decide_eq_true (by omega)
                have u3b:(e:Int) < (b:Int):=by omega
                have CS:=HIH.out q1 wr mid e b (by have h9:=HO.out;omega) HVq.out HK3.out.1 HK3.out.2 HO.out.2.2.1 (HT3 HRe1.out) (HL3 HRe1.out) (HL4 HRe1.out)
                go_wp2_with fail
                refine CS.mono ?_;rintro ee w9 ⟨rfl,r,Vr,hRe2,hSo2,C9⟩;have HVr:Hid (RowsV x0 enc N blk cap lo hi w9 r):=Vr;have HRe2:Hid (Sym.Re mid b q1 r):=hRe2;have HSo2:Hid (Sym.Srt (numL x0) r mid b):=hSo2;have HCr:Hid (ChgL [blk] w w9):=HCq.out.trans C9;clear Vr hRe2 hSo2 C9 CS;go_wp2
                go_end0
                have hl:=Sym.halves HO.out.1 HO.out.2.1 HX.out HRe1.out HRe2.out HSo1.out HSo2.out;exact ⟨rfl,_,HVr.out,HRe0.out.trans hl.2,hl.1,HCr.out⟩
              · have HK3:Hid (¬ (mid < e ∧ e < b)):=fun h => c3b h.2
                have f3:decide ((mid:Int) < (e:Int)) = true:=decide_eq_true (by omega);have g3:decide (mid < e) = true:=decide_eq_true (by omega)
                have u3:(mid:Int) < (e:Int):=by omega
                have f3b:decide ((e:Int) < (b:Int)) = false:=decide_eq_false (by omega);have g3b:decide (e < b) = false:=decide_eq_false (by omega);have HVr:Hid (RowsV x0 enc N blk cap lo hi wr q1):=HVq.out;have HRe2:Hid (Sym.Re mid b q1 q1):=Sym.Re.refl _ _ _;have HSo2:Hid (Sym.Srt (numL x0) q1 mid b):=HN3 HRe1.out HK3.out;have HCr:Hid (ChgL [blk] w wr):=HCq.out;go_wp2
                go_end0
                have hl:=Sym.halves HO.out.1 HO.out.2.1 HX.out HRe1.out HRe2.out HSo1.out HSo2.out;exact ⟨rfl,_,HVr.out,HRe0.out.trans hl.2,hl.1,HCr.out⟩
            · have HK3:Hid (¬ (mid < e ∧ e < b)):=fun h => c3 h.1
              have f3:decide ((mid:Int) < (e:Int)) = false:=decide_eq_false (by omega);have g3:decide (mid < e) = false:=decide_eq_false (by omega);have HVr:Hid (RowsV x0 enc N blk cap lo hi wr q1):=HVq.out;have HRe2:Hid (Sym.Re mid b q1 q1):=Sym.Re.refl _ _ _;have HSo2:Hid (Sym.Srt (numL x0) q1 mid b):=HN3 HRe1.out HK3.out;have HCr:Hid (ChgL [blk] w wr):=HCq.out;go_wp2
              go_end0
              have hl:=Sym.halves HO.out.1 HO.out.2.1 HX.out HRe1.out HRe2.out HSo1.out HSo2.out;exact ⟨rfl,_,HVr.out,HRe0.out.trans hl.2,hl.1,HCr.out⟩
        · have HK2:Hid (¬ (a < i ∧ i < mid)):=fun h => c2 h.1
          have f2:decide ((a:Int) < (i:Int)) = false:=decide_eq_false (by omega);have g2:decide (a < i) = false:=decide_eq_false (by omega);obtain ⟨q1,hq1⟩:∃ q1,q1 = q0:=⟨_,rfl⟩;have HVq:Hid (RowsV x0 enc N blk cap lo hi wr q1):=(by rw [hq1];exact HV1.out:RowsV x0 enc N blk cap lo hi wr q1);have HRe1:Hid (Sym.Re a mid q0 q1):=(by rw [hq1];exact Sym.Re.refl _ _ _:Sym.Re a mid q0 q1);have HSo1:Hid (Sym.Srt (numL x0) q1 a mid):=(by rw [hq1];exact HN2 HK2.out:Sym.Srt (numL x0) q1 a mid);have HCq:Hid (ChgL [blk] w wr):=HC1.out;clear hq1
          by_cases c3:mid < e
          · by_cases c3b:e < b
            · have HK3:Hid (mid < e ∧ e < b):=⟨c3,c3b⟩
              have f3:decide ((mid:Int) < (e:Int)) = true:=decide_eq_true (by omega);have g3:decide (mid < e) = true:=decide_eq_true (by omega)
              have u3:(mid:Int) < (e:Int):=by omega
              have f3b:decide ((e:Int) < (b:Int)) = true:=decide_eq_true (by omega);have g3b:decide (e < b) = true:=decide_eq_true (by omega)
              have u3b:(e:Int) < (b:Int):=by omega
              have CS:=HIH.out q1 wr mid e b (by have h9:=HO.out;omega) HVq.out HK3.out.1 HK3.out.2 HO.out.2.2.1 (HT3 HRe1.out) (HL3 HRe1.out) (HL4 HRe1.out)
              go_wp2_with fail
              refine CS.mono ?_;rintro ee w9 ⟨rfl,r,Vr,hRe2,hSo2,C9⟩;have HVr:Hid (RowsV x0 enc N blk cap lo hi w9 r):=Vr;have HRe2:Hid (Sym.Re mid b q1 r):=hRe2;have HSo2:Hid (Sym.Srt (numL x0) r mid b):=hSo2;have HCr:Hid (ChgL [blk] w w9):=HCq.out.trans C9;clear Vr hRe2 hSo2 C9 CS;go_wp2
              go_end0
              have hl:=Sym.halves HO.out.1 HO.out.2.1 HX.out HRe1.out HRe2.out HSo1.out HSo2.out;exact ⟨rfl,_,HVr.out,HRe0.out.trans hl.2,hl.1,HCr.out⟩
            · have HK3:Hid (¬ (mid < e ∧ e < b)):=fun h => c3b h.2
              have f3:decide ((mid:Int) < (e:Int)) = true:=decide_eq_true (by omega);have g3:decide (mid < e) = true:=decide_eq_true (by omega)
              have u3:(mid:Int) < (e:Int):=by omega
              have f3b:decide ((e:Int) < (b:Int)) = false:=decide_eq_false (by omega);have g3b:decide (e < b) = false:=decide_eq_false (by omega);have HVr:Hid (RowsV x0 enc N blk cap lo hi wr q1):=HVq.out;have HRe2:Hid (Sym.Re mid b q1 q1):=Sym.Re.refl _ _ _;have HSo2:Hid (Sym.Srt (numL x0) q1 mid b):=HN3 HRe1.out HK3.out;have HCr:Hid (ChgL [blk] w wr):=HCq.out;go_wp2
              go_end0
              have hl:=Sym.halves HO.out.1 HO.out.2.1 HX.out HRe1.out HRe2.out HSo1.out HSo2.out;exact ⟨rfl,_,HVr.out,HRe0.out.trans hl.2,hl.1,HCr.out⟩
          · have HK3:Hid (¬ (mid < e ∧ e < b)):=fun h => c3 h.1
            have f3:decide ((mid:Int) < (e:Int)) = false:=decide_eq_false (by omega);have g3:decide (mid < e) = false:=decide_eq_false (by omega);have HVr:Hid (RowsV x0 enc N blk cap lo hi wr q1):=HVq.out;have HRe2:Hid (Sym.Re mid b q1 q1):=Sym.Re.refl _ _ _;have HSo2:Hid (Sym.Srt (numL x0) q1 mid b):=HN3 HRe1.out HK3.out;have HCr:Hid (ChgL [blk] w wr):=HCq.out;go_wp2
            go_end0
            have hl:=Sym.halves HO.out.1 HO.out.2.1 HX.out HRe1.out HRe2.out HSo1.out HSo2.out;exact ⟨rfl,_,HVr.out,HRe0.out.trans hl.2,hl.1,HCr.out⟩
set_option maxHeartbeats 16000000 in
set_option maxRecDepth 1000000 in
theorem symMerge_3b (x0:Nat → RecD) (enc:Nat → List Value) (p:Nat → Nat) (N blk cap lo hi:Nat) (w:World) (V:RowsV x0 enc N blk cap lo hi w p) (hlo:hi ≤ lo) (hN:N < 1000000000) (a m b mid:Nat) (ham:a < m) (hmb:m < b) (hb:b ≤ N) (htag:∀ i j,a ≤ i → i < m → m ≤ j → j < b → p i < p j) (hs1:Sym.Srt (numL x0) p a m) (hs2:Sym.Srt (numL x0) p m b) (h0:m ≠ a + 1) (h1:b ≠ m + 1) (hmid:mid = (a + b) / 2) (hx:m ≤ mid) (IH:∀ (p':Nat → Nat) (w':World) (a' m' b':Nat),b' - a' < b - a → RowsV x0 enc N blk cap lo hi w' p' → a' < m' → m' < b' → b' ≤ N → (∀ i j,a' ≤ i → i < m' → m' ≤ j → j < b' → p' i < p' j) → Sym.Srt (numL x0) p' a' m' → Sym.Srt (numL x0) p' m' b' → Calls Tryz.prog 163 #[.slice (some ⟨blk,0,none⟩) N cap,.int .i64 a',.int .i64 m',.int .i64 b',.func (.func 117) #[] #[]] w' (fun e w'' => e = .returned (.tuple #[]) ∧ ∃ q,RowsV x0 enc N blk cap lo hi w'' q ∧ Sym.Re a' b' p' q ∧ Sym.Srt (numL x0) q a' b' ∧ ChgL [blk] w' w'')) :
    Calls Tryz.prog 163 #[.slice (some ⟨blk,0,none⟩) N cap,.int .i64 a,.int .i64 m,.int .i64 b,.func (.func 117) #[] #[]] w (fun e w' => e = .returned (.tuple #[]) ∧ ∃ q,RowsV x0 enc N blk cap lo hi w' q ∧ Sym.Re a b p q ∧ Sym.Srt (numL x0) q a b ∧ ChgL [blk] w w'):=by
  have HV0:Hid (RowsV x0 enc N blk cap lo hi w p):=V;have HT:Hid (∀ i j,a ≤ i → i < m → m ≤ j → j < b → p i < p j):=htag;have HS1:Hid (Sym.Srt (numL x0) p a m):=hs1;have HS2:Hid (Sym.Srt (numL x0) p m b):=hs2;have HIH:Hid (∀ (p':Nat → Nat) (w':World) (a' m' b':Nat),b' - a' < b - a → RowsV x0 enc N blk cap lo hi w' p' → a' < m' → m' < b' → b' ≤ N → (∀ i j,a' ≤ i → i < m' → m' ≤ j → j < b' → p' i < p' j) → Sym.Srt (numL x0) p' a' m' → Sym.Srt (numL x0) p' m' b' → Calls Tryz.prog 163 #[.slice (some ⟨blk,0,none⟩) N cap,.int .i64 a',.int .i64 m',.int .i64 b',.func (.func 117) #[] #[]] w' (fun e w'' => e = .returned (.tuple #[]) ∧ ∃ q,RowsV x0 enc N blk cap lo hi w'' q ∧ Sym.Re a' b' p' q ∧ Sym.Srt (numL x0) q a' b' ∧ ChgL [blk] w' w'')):=IH;have HMID:Hid (mid = (a + b) / 2):=hmid;obtain ⟨D,hD⟩:∃ D,D = m - a:=⟨_,rfl⟩
  have w0:IntKind.i64.wrap ((m:Int) - (a:Int)) = (D:Int):=by rw [IntKind.wrap_i64];omega
  have d0:((D:Int) == 1) = false:=by simp;omega
  obtain ⟨E,hE⟩:∃ E,E = b - m:=⟨_,rfl⟩
  have w9:IntKind.i64.wrap ((b:Int) - (m:Int)) = (E:Int):=by rw [IntKind.wrap_i64];omega
  have d9:((E:Int) == 1) = false:=by simp;omega
  have w1:IntKind.i64.wrap ((a:Int) + (b:Int)) = ((a + b:Nat):Int):=by rw [IntKind.wrap_i64];omega
  have e1:((a:Int) + (b:Int)) / 2 = (mid:Int):=by omega
  obtain ⟨n,hn⟩:∃ n,n = mid + m:=⟨_,rfl⟩
  have w2:IntKind.i64.wrap ((mid:Int) + (m:Int)) = (n:Int):=by rw [IntKind.wrap_i64];omega
  obtain ⟨P,hP⟩:∃ P,n = P + 1:=⟨n - 1,by omega⟩
  have w3:IntKind.i64.wrap ((n:Int) - 1) = (P:Int):=by rw [IntKind.wrap_i64];omega
  obtain ⟨S0,hS0⟩:∃ S0,S0 = a:=⟨_,rfl⟩;obtain ⟨R0,hR0⟩:∃ R0,R0 = m:=⟨_,rfl⟩;have x1:decide ((mid:Int) < (m:Int)) = false:=decide_eq_false (by omega);have x2:decide (mid < m) = false:=decide_eq_false (by omega)
  have F:a ≤ S0 ∧ n ≤ S0 + b ∧ (S0 = a ∨ n = S0 + b) ∧ S0 ≤ R0 ∧ R0 ≤ m ∧ R0 ≤ mid ∧ (R0 = m ∨ R0 = mid):=by omega
  have HF:Hid (a ≤ S0 ∧ n ≤ S0 + b ∧ (S0 = a ∨ n = S0 + b) ∧ S0 ≤ R0 ∧ R0 ≤ m ∧ R0 ≤ mid ∧ (R0 = m ∨ R0 = mid)):=F;have HN:Hid (n = mid + m ∧ n = P + 1):=⟨hn,hP⟩;have HSR:Hid (S0 = a ∧ R0 = m):=⟨hS0,hR0⟩;clear V htag hs1 hs2 h0 h1 hD hE IH hmid hn hP hS0 hR0 F
  go_enter Tryz.func163,Tryz.ntmps163
  go_wp2
  go_loopw [20,21] (fun vi vj wr => ∃ (i j:Nat),S0 ≤ i ∧ i ≤ j ∧ j ≤ R0 ∧ vi = .int .i64 i ∧ vj = .int .i64 j ∧ RowsV x0 enc N blk cap lo hi wr p ∧ (i = S0 ∨ numL x0 (p (i - 1)) (p (n - i))) ∧ (j = R0 ∨ numL x0 (p (P - j)) (p j)) ∧ ChgL [blk] w wr) (fun vi vj _ => (intOf vj).toNat - (intOf vi).toNat)
  case atStart => exact ⟨S0,R0,Nat.le_refl _,HF.out.2.2.2.1,Nat.le_refl _,by have:=HSR.out;go_num,by have:=HSR.out;go_num,HV0.out,.inl rfl,.inl rfl,ChgL.refl _ _⟩
  case round =>
    obtain ⟨i,j,hmi,hij,hjb,rfl,rfl,V,hL,hR,C⟩:=hrel;have HC:Hid (ChgL [blk] w wr):=C;have HL:Hid (i = S0 ∨ numL x0 (p (i - 1)) (p (n - i))):=hL;have HR:Hid (j = R0 ∨ numL x0 (p (P - j)) (p j)):=hR;have HV:Hid (RowsV x0 enc N blk cap lo hi wr p):=V;clear C hL hR w0 w9 d0 d9 w1 e1 w2 w3
    by_cases hlt:i < j
    · have t1:(i:Int) < (j:Int):=by omega
      obtain ⟨B,hB⟩:∃ B,B = (i + j) / 2:=⟨_,rfl⟩
      have w1:IntKind.i64.wrap ((i:Int) + (j:Int)) = ((i + j:Nat):Int):=by rw [IntKind.wrap_i64];have:=HF.out;omega
      have e1:((i:Int) + (j:Int)) / 2 = (B:Int):=by omega
      have hBi:i ≤ B:=by omega
      have hBj:B < j:=by omega
      obtain ⟨A,hA⟩:∃ A,A = P - B:=⟨_,rfl⟩;have hF:=HF.out;have hNN:=HN.out;have hMID:=HMID.out
      have hAm:m ≤ A ∧ A < b:=by omega
      have HAP:Hid (A + B = P):=(by omega:A + B = P)
      have w4:IntKind.i64.wrap ((P:Int) - (B:Int)) = (A:Int):=by rw [IntKind.wrap_i64];omega
      have hAN:A < N:=by omega
      have hBN:B < N:=by omega
      have i1:(A:Int) < (N:Int):=by omega
      have i2:(B:Int) < (N:Int):=by omega
      have i3:(0:Int) ≤ (A:Int):=by omega
      have i4:(0:Int) ≤ (B:Int):=by omega
      have hsz:=(V.row.lt blk rfl);have HTG:Hid (p B < p A):=HT.out B A (by omega) (by omega) (by omega) (by omega);have VD:=View.drew V;have rgA:wr.drew.rangeAt blk (A * 9) (enc (p A)):=VD.range hAN;have rgB:wr.drew.rangeAt blk (B * 9) (enc (p B)):=VD.range hBN;have hsA:(enc (p A)).length = 9:=VD.lens A hAN;have hsB:(enc (p B)).length = 9:=VD.lens B hBN;have rdA:=VD.each A hAN;have rdB:=VD.each B hBN;obtain ⟨cA,hcA⟩:∃ c,c = enc (p A):=⟨_,rfl⟩;obtain ⟨cB,hcB⟩:∃ c,c = enc (p B):=⟨_,rfl⟩;rw [← hcA] at rgA hsA;rw [← hcB] at rgB hsB;have CC0:=byNumbers_is _ _ _ _ hi hi wr.drew rdA rdB;rw [← hcA,← hcB] at CC0;obtain ⟨c,hc⟩:∃ c:Int,c = numC (x0 (p A)) (x0 (p B)):=⟨_,rfl⟩;rw [← hc] at CC0;have HCN:Hid (c = numC (x0 (p A)) (x0 (p B))):=hc
      have CC:Calls Tryz.prog 117 (#[.agg cA.toArray,.agg cB.toArray] ++ #[]) wr.drew fun e w' => e = .returned (.int .i64 c) ∧ Below wr.drew.heap.size wr.drew w':=by rw [Array.append_empty];exact CC0
      have HVD:Hid (RowsV x0 enc N blk cap lo hi wr.drew p):=VD;clear CC0 hc hcA hcB rdA rdB hB hA hF hNN hMID VD V HV
      go_upto_region 35 with fail
      try rw [e1]
      refine wp_region_M 11 (fun w' => w'.rangeAt blk (A * 9) cA ∧ w'.rangeAt blk (B * 9) cB) mixedO ⟨rgA,rgB⟩ (fun hHeld => ?_);refine wpAnyM_pure (i:=0) (oi:=_) (v:=?_) rfl (by kernel_rfl) (fun _ _ _ h => h) (Or.inl ⟨by kernel_rfl,?_⟩) (by assumption) ?_
      rotate_left
      · intro w' hSw;go_simp;try with_reducible rfl
      try simp only [Act.put,SL]
      refine wpAnyM_pure (i:=1) (oi:=_) (v:=?_) rfl (by kernel_rfl) (fun _ _ _ h => h) (Or.inl ⟨by kernel_rfl,?_⟩) (by assumption) ?_
      rotate_left
      · intro w' hSw;go_simp;try with_reducible rfl
      try simp only [Act.put,SL]
      refine wpAnyM_pure (i:=2) (oi:=_) (v:=?_) rfl (by kernel_rfl) (fun _ _ _ h => h) (Or.inl ⟨by kernel_rfl,?_⟩) (by assumption) ?_
      rotate_left
      · intro w' hSw;go_simp;try with_reducible rfl
      try simp only [Act.put,SL]
      refine wpAnyM_pure (i:=3) (oi:=_) (v:=?_) rfl (by kernel_rfl) (fun _ _ _ h => h) (Or.inl ⟨by kernel_rfl,?_⟩) (by assumption) ?_
      rotate_left
      · intro w' hSw;go_simp;try with_reducible rfl
      try simp only [Act.put,SL]
      refine wpAnyM_pure (i:=4) (oi:=_) (v:=?_) rfl (by kernel_rfl) (fun _ _ _ h => h) (Or.inl ⟨by kernel_rfl,?_⟩) (by assumption) ?_
      rotate_left
      · intro w' hSw;go_simp;try with_reducible rfl
      try simp only [Act.put,SL]
      refine wpAnyM_pure (i:=5) (oi:=_) (v:=?_) rfl (by kernel_rfl) (fun _ _ _ h => h) (Or.inl ⟨by kernel_rfl,?_⟩) (by assumption) ?_
      rotate_left
      · intro w' hSw;go_simp;try with_reducible rfl
      try simp only [Act.put,SL]
      refine wpAnyM_take (i:=6) (oi:=_) (v:=.agg cA.toArray) 16 rfl (by kernel_rfl) (fun _ _ _ h => h) (yieldsIf_load_mid (by kernel_rfl) 81 (.tmp 163) rfl blk (A * 9) (by simp [Act.eval,Act.put]) cA _ (fun w h => h.1) Tryz.underlying81 rfl (info_Rec9 hsA)) (by assumption) ?_
      try simp only [Act.put,SL]
      refine wpAnyM_pure (i:=7) (oi:=_) (v:=?_) rfl (by kernel_rfl) (fun _ _ _ h => h) (Or.inl ⟨by kernel_rfl,?_⟩) (by assumption) ?_
      rotate_left
      · intro w' hSw;go_simp;try with_reducible rfl
      try simp only [Act.put,SL]
      refine wpAnyM_pure (i:=8) (oi:=_) (v:=?_) rfl (by kernel_rfl) (fun _ _ _ h => h) (Or.inl ⟨by kernel_rfl,?_⟩) (by assumption) ?_
      rotate_left
      · intro w' hSw;go_simp;try with_reducible rfl
      try simp only [Act.put,SL]
      refine wpAnyM_pure (i:=9) (oi:=_) (v:=?_) rfl (by kernel_rfl) (fun _ _ _ h => h) (Or.inl ⟨by kernel_rfl,?_⟩) (by assumption) ?_
      rotate_left
      · intro w' hSw;go_simp;try with_reducible rfl
      try simp only [Act.put,SL]
      refine wpAnyM_take (i:=10) (oi:=_) (v:=.agg cB.toArray) 16 rfl (by kernel_rfl) (fun _ _ _ h => h) (yieldsIf_load_mid (by kernel_rfl) 81 (.tmp 167) rfl blk (B * 9) (by simp [Act.eval,Act.put]) cB _ (fun w h => h.2) Tryz.underlying81 rfl (info_Rec9 hsB)) (by assumption) ?_
      try simp only [Act.put,SL]
      refine wpAnyM_one (i:=11) (o:=_) rfl (by kernel_rfl) (by kernel_rfl) (fun KC hKC => ?_);refine step_callv (by kernel_rfl) (.tmp 158) 117 #[] _ _ rfl (by simp [Act.eval,Act.put]) #[.agg cA.toArray,.agg cB.toArray] (by simp [Act.eval,Act.put]) Tryz.func117 (by kernel_rfl) (by kernel_rfl) CC ?_;rintro ee w5 ⟨rfl,b5⟩;refine ⟨_,rfl,?_⟩;refine hKC _ _ ?_;clear hKC KC
      try simp only [Act.put,SL]
      refine wpAnyM_pureL (i:=12) (oi:=_) (v:=?_) rfl (by kernel_rfl) (fun _ _ _ h => h) (Or.inl ⟨by kernel_rfl,?_⟩) ?_
      rotate_left
      · intro w' hSw;go_simp;try with_reducible rfl
      try simp only [Act.put,SL]
      obtain ⟨dd,hdd⟩:∃ d:Bool,d = decide (c < 0):=⟨_,rfl⟩;have HDD:Hid (dd = decide (c < 0)):=hdd;rw [← hdd];clear hdd;refine wpAnyM_pureL (i:=13) (oi:=_) (v:=?_) rfl (by kernel_rfl) (fun _ _ _ h => h) (Or.inl ⟨by kernel_rfl,?_⟩) ?_
      rotate_left
      · intro w' hSw;go_simp;try with_reducible rfl
      try simp only [Act.put,SL]
      refine wpAnyM_done (by kernel_rfl) ?_ _;have HV5:Hid (RowsV x0 enc N blk cap lo hi w5 p):=View.below HVD.out b5 (by show hi ≤ wr.heap.size;omega);have HC5:Hid (ChgL [blk] w w5):=HC.out.trans ((ChgL.of_below ⟨rfl,rfl,rfl,Nat.le_refl _,fun _ _ => rfl⟩:ChgL [blk] wr wr.drew).trans (ChgL.of_below b5));clear HVD HC rgA rgB hsA hsB b5 hHeld CC hsz
      cases dd
      · go_wp2
        go_roundw
        case rel =>
          refine ⟨B + 1,j,by omega,by omega,by omega,by go_num,rfl,HV5.out,.inr ?_,HR.out,HC5.out⟩
          have h2:¬ c < 0:=by simpa using HDD.out
          rw [HCN.out] at h2;rw [show B + 1 - 1 = B by omega,show n - (B + 1) = A by have h8:=HN.out;have h9:=HAP.out;omega];exact ask_no HTG.out h2
        case measure => simp [intOf];omega
      · go_wp2
        go_roundw
        case rel =>
          refine ⟨i,B,hmi,hBi,by omega,rfl,by go_num,HV5.out,HL.out,.inr ?_,HC5.out⟩
          have h2:c < 0:=by simpa using HDD.out
          rw [HCN.out] at h2;rw [show P - B = A by have h9:=HAP.out;omega];exact ask_yes h2
        case measure => simp [intOf];omega
    · obtain rfl:i = j:=by omega
      clear V hij;obtain ⟨e,he⟩:∃ e,e = n - i:=⟨_,rfl⟩;have hF:=HF.out;have hNN:=HN.out;have hMID:=HMID.out
      have hie:mid + m = i + e:=by omega
      have hae:a ≤ i ∧ i ≤ m ∧ m ≤ e ∧ e ≤ b ∧ i ≤ mid ∧ mid ≤ e:=by omega
      have w5:IntKind.i64.wrap ((n:Int) - (i:Int)) = (e:Int):=by rw [IntKind.wrap_i64];omega
      have SP:=Sym.split (numL_ord x0) (p:=p) (a:=a) (m:=m) (b:=b) (s:=i) (e:=e) (mid:=mid) HS1.out HS2.out hie hae.1 hae.2.1 hae.2.2.1 hae.2.2.2.1 (fun h3 h4 => by
        rcases HL.out with h5 | h5
        · omega
        · rw [← he] at h5;exact h5) (fun h3 h4 => by
        rcases HR.out with h5 | h5
        · omega
        · rw [show P - i = e - 1 by omega] at h5;exact h5)
      obtain ⟨q0,hq0⟩:∃ q0:Nat → Nat,q0 = fun k => p (Sym.rot i m e k):=⟨_,rfl⟩;have HQ0:Hid (q0 = fun k => p (Sym.rot i m e k)):=hq0;rw [← hq0] at SP;have HSa:Hid (Sym.Srt (numL x0) q0 a i):=SP.1;have HSb:Hid (Sym.Srt (numL x0) q0 i mid):=SP.2.1;have HSc:Hid (Sym.Srt (numL x0) q0 mid e):=SP.2.2.1;have HSd:Hid (Sym.Srt (numL x0) q0 e b):=SP.2.2.2.1;have HX:Hid (∀ x y,a ≤ x → x < mid → mid ≤ y → y < b → numL x0 (q0 x) (q0 y)):=(fun x y h3 h4 h5 h6 => by rw [hq0];exact SP.2.2.2.2 x y h3 h4 h5 h6:∀ x y,a ≤ x → x < mid → mid ≤ y → y < b → numL x0 (q0 x) (q0 y));have HRe0:Hid (Sym.Re a b p q0):=(by rw [hq0];exact (Sym.Re.rots p hae.2.1 hae.2.2.1).mono hae.1 hae.2.2.2.1:Sym.Re a b p q0);have HO:Hid (a ≤ mid ∧ mid ≤ b ∧ b ≤ N ∧ mid ≤ N ∧ a < mid ∧ mid < b ∧ e ≤ N):=⟨by omega,by omega,by omega,by omega,by omega,by omega,by omega⟩
      have HT2:Hid (∀ x y,a ≤ x → x < i → i ≤ y → y < mid → q0 x < q0 y):=(fun x y h3 h4 h5 h6 => by
        have h7:=rot_c (e:=e) hie hae.2.1 hae.2.2.1 h5 h6;rw [hq0]
        show p (Sym.rot i m e x) < p (Sym.rot i m e y)
        rw [rot_a h4]
        exact HT.out x _ h3 (by omega) h7.1 (by omega):∀ x y,a ≤ x → x < i → i ≤ y → y < mid → q0 x < q0 y)
      have HT3':Hid (∀ q1,Sym.Re a mid q0 q1 → ∀ x y,mid ≤ x → x < e → e ≤ y → y < b → q1 x < q1 y):=(fun q1 k x y h3 h4 h5 h6 => by
        have h7:=rot_d (e:=e) hie hae.2.1 hae.2.2.1 h3 h4;rw [k.out (.inr h3),k.out (.inr (by omega)),hq0]
        show p (Sym.rot i m e x) < p (Sym.rot i m e y)
        rw [rot_b h5]
        exact HT.out _ y (by omega) h7.2 (by omega) h6:∀ q1,Sym.Re a mid q0 q1 → ∀ x y,mid ≤ x → x < e → e ≤ y → y < b → q1 x < q1 y)
      have HT3:∀ {q1},Sym.Re a mid q0 q1 → ∀ x y,mid ≤ x → x < e → e ≤ y → y < b → q1 x < q1 y:=fun k => HT3'.out _ k;have HL3:∀ {q1},Sym.Re a mid q0 q1 → Sym.Srt (numL x0) q1 mid e:=fun k => HSc.out.congr (fun x h3 h4 => k.out (.inr h3));have HL4:∀ {q1},Sym.Re a mid q0 q1 → Sym.Srt (numL x0) q1 e b:=fun k => HSd.out.congr (fun x h3 h4 => k.out (.inr (by omega)))
      have HN1:¬ (i < m ∧ m < e) → ∀ x,p (Sym.rot i m e x) = p x:=fun h x => by
        by_cases h3:i = m
        · rw [h3,rot_id1]
        · have h4:e = m:=by omega
          rw [h4,rot_id2]
      have HN2:¬ (a < i ∧ i < mid) → Sym.Srt (numL x0) q0 a mid:=fun h => by
        by_cases h3:a = i
        · rw [h3];exact HSb.out
        · have h4:mid = i:=by omega
          rw [h4];exact HSa.out
      have HN3:∀ {q1},Sym.Re a mid q0 q1 → ¬ (mid < e ∧ e < b) → Sym.Srt (numL x0) q1 mid b:=fun k h => by
        by_cases h3:mid = e
        · rw [h3];rw [h3] at k;exact HSd.out.congr (fun x h3 h4 => k.out (.inr h3))
        · have h4:b = e:=by omega
          rw [h4];exact HL3 k
      clear hF hNN hMID SP hq0 he
      by_cases c1:i < m
      · by_cases c1b:m < e
        · have HK1:Hid (i < m ∧ m < e):=⟨c1,c1b⟩
          have f1:decide ((i:Int) < (m:Int)) = true:=decide_eq_true (by omega);have g1:decide (i < m) = true:=decide_eq_true (by omega)
          have u1:(i:Int) < (m:Int):=by omega
          have f1b:decide ((m:Int) < (e:Int)) = true:=decide_eq_true (by omega);have g1b:decide (m < e) = true:=decide_eq_true (by omega)
          have u1b:(m:Int) < (e:Int):=by omega
          have CS:=rotate_any x0 enc p N blk cap lo hi wr HV.out hlo hN i m e (.func (.func 117) #[] #[]) HK1.out.1 HK1.out.2 (by have h9:=HO.out;omega)
          go_wp2_with fail
          refine CS.mono ?_;rintro ee w6 ⟨rfl,V6,C6⟩;have HV1:Hid (RowsV x0 enc N blk cap lo hi w6 q0):=(by rw [HQ0.out];exact V6:RowsV x0 enc N blk cap lo hi w6 q0);have HC1:Hid (ChgL [blk] w w6):=HC.out.trans C6;clear V6 C6 CS
          by_cases c2:a < i
          · by_cases c2b:i < mid
            · have HK2:Hid (a < i ∧ i < mid):=⟨c2,c2b⟩
              have f2:decide ((a:Int) < (i:Int)) = true:=decide_eq_true (by omega);have g2:decide (a < i) = true:=decide_eq_true (by omega)
              have u2:(a:Int) < (i:Int):=by omega
              have f2b:decide ((i:Int) < (mid:Int)) = true:=decide_eq_true (by omega);have g2b:decide (i < mid) = true:=decide_eq_true (by omega)
              have u2b:(i:Int) < (mid:Int):=by omega
              have CS:=HIH.out q0 w6 a i mid (by have h9:=HO.out;omega) HV1.out HK2.out.1 HK2.out.2 HO.out.2.2.2.1 HT2.out HSa.out HSb.out
              go_wp2_with fail
              refine CS.mono ?_;rintro ee w7 ⟨rfl,q1,Vq,hRe1,hSo1,C7⟩;have HVq:Hid (RowsV x0 enc N blk cap lo hi w7 q1):=Vq;have HRe1:Hid (Sym.Re a mid q0 q1):=hRe1;have HSo1:Hid (Sym.Srt (numL x0) q1 a mid):=hSo1;have HCq:Hid (ChgL [blk] w w7):=HC1.out.trans C7;clear Vq hRe1 hSo1 C7 CS
              by_cases c3:mid < e
              · by_cases c3b:e < b
                · have HK3:Hid (mid < e ∧ e < b):=⟨c3,c3b⟩
                  have f3:decide ((mid:Int) < (e:Int)) = true:=decide_eq_true (by omega);have g3:decide (mid < e) = true:=decide_eq_true (by omega)
                  have u3:(mid:Int) < (e:Int):=by omega
                  have f3b:decide ((e:Int) < (b:Int)) = true:=decide_eq_true (by omega);have g3b:decide (e < b) = true:=decide_eq_true (by omega)
                  have u3b:(e:Int) < (b:Int):=by omega
                  have CS:=HIH.out q1 w7 mid e b (by have h9:=HO.out;omega) HVq.out HK3.out.1 HK3.out.2 HO.out.2.2.1 (HT3 HRe1.out) (HL3 HRe1.out) (HL4 HRe1.out)
                  go_wp2_with fail
                  refine CS.mono ?_;rintro ee w9 ⟨rfl,r,Vr,hRe2,hSo2,C9⟩;have HVr:Hid (RowsV x0 enc N blk cap lo hi w9 r):=Vr;have HRe2:Hid (Sym.Re mid b q1 r):=hRe2;have HSo2:Hid (Sym.Srt (numL x0) r mid b):=hSo2;have HCr:Hid (ChgL [blk] w w9):=HCq.out.trans C9;clear Vr hRe2 hSo2 C9 CS;go_wp2
                  go_end0
                  have hl:=Sym.halves HO.out.1 HO.out.2.1 HX.out HRe1.out HRe2.out HSo1.out HSo2.out;exact ⟨rfl,_,HVr.out,HRe0.out.trans hl.2,hl.1,HCr.out⟩
                · have HK3:Hid (¬ (mid < e ∧ e < b)):=fun h => c3b h.2
                  have f3:decide ((mid:Int) < (e:Int)) = true:=decide_eq_true (by omega);have g3:decide (mid < e) = true:=decide_eq_true (by omega)
                  have u3:(mid:Int) < (e:Int):=by omega
                  have f3b:decide ((e:Int) < (b:Int)) = false:=decide_eq_false (by omega);have g3b:decide (e < b) = false:=decide_eq_false (by omega);have HVr:Hid (RowsV x0 enc N blk cap lo hi w7 q1):=HVq.out;have HRe2:Hid (Sym.Re mid b q1 q1):=Sym.Re.refl _ _ _;have HSo2:Hid (Sym.Srt (numL x0) q1 mid b):=HN3 HRe1.out HK3.out;have HCr:Hid (ChgL [blk] w w7):=HCq.out;go_wp2
                  go_end0
                  have hl:=Sym.halves HO.out.1 HO.out.2.1 HX.out HRe1.out HRe2.out HSo1.out HSo2.out;exact ⟨rfl,_,HVr.out,HRe0.out.trans hl.2,hl.1,HCr.out⟩
              · have HK3:Hid (¬ (mid < e ∧ e < b)):=fun h => c3 h.1
                have f3:decide ((mid:Int) < (e:Int)) = false:=decide_eq_false (by omega);have g3:decide (mid < e) = false:=decide_eq_false (by omega);have HVr:Hid (RowsV x0 enc N blk cap lo hi w7 q1):=HVq.out;have HRe2:Hid (Sym.Re mid b q1 q1):=Sym.Re.refl _ _ _;have HSo2:Hid (Sym.Srt (numL x0) q1 mid b):=HN3 HRe1.out HK3.out;have HCr:Hid (ChgL [blk] w w7):=HCq.out;go_wp2
                go_end0
                have hl:=Sym.halves HO.out.1 HO.out.2.1 HX.out HRe1.out HRe2.out HSo1.out HSo2.out;exact ⟨rfl,_,HVr.out,HRe0.out.trans hl.2,hl.1,HCr.out⟩
            · have HK2:Hid (¬ (a < i ∧ i < mid)):=fun h => c2b h.2
              have f2:decide ((a:Int) < (i:Int)) = true:=decide_eq_true (by omega);have g2:decide (a < i) = true:=decide_eq_true (by omega)
              have u2:(a:Int) < (i:Int):=by omega
              have f2b:decide ((i:Int) < (mid:Int)) = false:=decide_eq_false (by omega);have g2b:decide (i < mid) = false:=decide_eq_false (by omega);obtain ⟨q1,hq1⟩:∃ q1,q1 = q0:=⟨_,rfl⟩;have HVq:Hid (RowsV x0 enc N blk cap lo hi w6 q1):=(by rw [hq1];exact HV1.out:RowsV x0 enc N blk cap lo hi w6 q1);have HRe1:Hid (Sym.Re a mid q0 q1):=(by rw [hq1];exact Sym.Re.refl _ _ _:Sym.Re a mid q0 q1);have HSo1:Hid (Sym.Srt (numL x0) q1 a mid):=(by rw [hq1];exact HN2 HK2.out:Sym.Srt (numL x0) q1 a mid);have HCq:Hid (ChgL [blk] w w6):=HC1.out;clear hq1
              by_cases c3:mid < e
              · by_cases c3b:e < b
                · have HK3:Hid (mid < e ∧ e < b):=⟨c3,c3b⟩
                  have f3:decide ((mid:Int) < (e:Int)) = true:=decide_eq_true (by omega);have g3:decide (mid < e) = true:=decide_eq_true (by omega)
                  have u3:(mid:Int) < (e:Int):=by omega
                  have f3b:decide ((e:Int) < (b:Int)) = true:=decide_eq_true (by omega);have g3b:decide (e < b) = true:=decide_eq_true (by omega)
                  have u3b:(e:Int) < (b:Int):=by omega
                  have CS:=HIH.out q1 w6 mid e b (by have h9:=HO.out;omega) HVq.out HK3.out.1 HK3.out.2 HO.out.2.2.1 (HT3 HRe1.out) (HL3 HRe1.out) (HL4 HRe1.out)
                  go_wp2_with fail
                  refine CS.mono ?_;rintro ee w9 ⟨rfl,r,Vr,hRe2,hSo2,C9⟩;have HVr:Hid (RowsV x0 enc N blk cap lo hi w9 r):=Vr;have HRe2:Hid (Sym.Re mid b q1 r):=hRe2;have HSo2:Hid (Sym.Srt (numL x0) r mid b):=hSo2;have HCr:Hid (ChgL [blk] w w9):=HCq.out.trans C9;clear Vr hRe2 hSo2 C9 CS;go_wp2
                  go_end0
                  have hl:=Sym.halves HO.out.1 HO.out.2.1 HX.out HRe1.out HRe2.out HSo1.out HSo2.out;exact ⟨rfl,_,HVr.out,HRe0.out.trans hl.2,hl.1,HCr.out⟩
                · have HK3:Hid (¬ (mid < e ∧ e < b)):=fun h => c3b h.2
                  have f3:decide ((mid:Int) < (e:Int)) = true:=decide_eq_true (by omega);have g3:decide (mid < e) = true:=decide_eq_true (by omega)
                  have u3:(mid:Int) < (e:Int):=by omega
                  have f3b:decide ((e:Int) < (b:Int)) = false:=decide_eq_false (by omega);have g3b:decide (e < b) = false:=decide_eq_false (by omega);have HVr:Hid (RowsV x0 enc N blk cap lo hi w6 q1):=HVq.out;have HRe2:Hid (Sym.Re mid b q1 q1):=Sym.Re.refl _ _ _;have HSo2:Hid (Sym.Srt (numL x0) q1 mid b):=HN3 HRe1.out HK3.out;have HCr:Hid (ChgL [blk] w w6):=HCq.out;go_wp2
                  go_end0
                  have hl:=Sym.halves HO.out.1 HO.out.2.1 HX.out HRe1.out HRe2.out HSo1.out HSo2.out;exact ⟨rfl,_,HVr.out,HRe0.out.trans hl.2,hl.1,HCr.out⟩
              · have HK3:Hid (¬ (mid < e ∧ e < b)):=fun h => c3 h.1
                have f3:decide ((mid:Int) < (e:Int)) = false:=decide_eq_false (by omega);have g3:decide (mid < e) = false:=decide_eq_false (by omega);have HVr:Hid (RowsV x0 enc N blk cap lo hi w6 q1):=HVq.out;have HRe2:Hid (Sym.Re mid b q1 q1):=Sym.Re.refl _ _ _;have HSo2:Hid (Sym.Srt (numL x0) q1 mid b):=HN3 HRe1.out HK3.out;have HCr:Hid (ChgL [blk] w w6):=HCq.out;go_wp2
                go_end0
                have hl:=Sym.halves HO.out.1 HO.out.2.1 HX.out HRe1.out HRe2.out HSo1.out HSo2.out;exact ⟨rfl,_,HVr.out,HRe0.out.trans hl.2,hl.1,HCr.out⟩
          · have HK2:Hid (¬ (a < i ∧ i < mid)):=fun h => c2 h.1
            have f2:decide ((a:Int) < (i:Int)) = false:=decide_eq_false (by omega);have g2:decide (a < i) = false:=decide_eq_false (by omega);obtain ⟨q1,hq1⟩:∃ q1,q1 = q0:=⟨_,rfl⟩;have HVq:Hid (RowsV x0 enc N blk cap lo hi w6 q1):=(by rw [hq1];exact HV1.out:RowsV x0 enc N blk cap lo hi w6 q1);have HRe1:Hid (Sym.Re a mid q0 q1):=(by rw [hq1];exact Sym.Re.refl _ _ _:Sym.Re a mid q0 q1);have HSo1:Hid (Sym.Srt (numL x0) q1 a mid):=(by rw [hq1];exact HN2 HK2.out:Sym.Srt (numL x0) q1 a mid);have HCq:Hid (ChgL [blk] w w6):=HC1.out;clear hq1
            by_cases c3:mid < e
            · by_cases c3b:e < b
              · have HK3:Hid (mid < e ∧ e < b):=⟨c3,c3b⟩
                have f3:decide ((mid:Int) < (e:Int)) = true:=decide_eq_true (by omega);have g3:decide (mid < e) = true:=decide_eq_true (by omega)
                have u3:(mid:Int) < (e:Int):=by omega
                have f3b:decide ((e:Int) < (b:Int)) = true:=decide_eq_true (by omega);have g3b:decide (e < b) = true:=decide_eq_true (by omega)
                have u3b:(e:Int) < (b:Int):=by omega
                have CS:=HIH.out q1 w6 mid e b (by have h9:=HO.out;omega) HVq.out HK3.out.1 HK3.out.2 HO.out.2.2.1 (HT3 HRe1.out) (HL3 HRe1.out) (HL4 HRe1.out)
                go_wp2_with fail
                refine CS.mono ?_;rintro ee w9 ⟨rfl,r,Vr,hRe2,hSo2,C9⟩;have HVr:Hid (RowsV x0 enc N blk cap lo hi w9 r):=Vr;have HRe2:Hid (Sym.Re mid b q1 r):=hRe2;have HSo2:Hid (Sym.Srt (numL x0) r mid b):=hSo2;have HCr:Hid (ChgL [blk] w w9):=HCq.out.trans C9;clear Vr hRe2 hSo2 C9 CS;go_wp2
                go_end0
                have hl:=Sym.halves HO.out.1 HO.out.2.1 HX.out HRe1.out HRe2.out HSo1.out HSo2.out;exact ⟨rfl,_,HVr.out,HRe0.out.trans hl.2,hl.1,HCr.out⟩
              · have HK3:Hid (¬ (mid < e ∧ e < b)):=fun h => c3b h.2
                have f3:decide ((mid:Int) < (e:Int)) = true:=decide_eq_true (by omega);have g3:decide (mid < e) = true:=decide_eq_true (by omega)
                have u3:(mid:Int) < (e:Int):=by omega
                have f3b:decide ((e:Int) < (b:Int)) = false:=decide_eq_false (by omega);have g3b:decide (e < b) = false:=decide_eq_false (by omega);have HVr:Hid (RowsV x0 enc N blk cap lo hi w6 q1):=HVq.out;have HRe2:Hid (Sym.Re mid b q1 q1):=Sym.Re.refl _ _ _;have HSo2:Hid (Sym.Srt (numL x0) q1 mid b):=HN3 HRe1.out HK3.out;have HCr:Hid (ChgL [blk] w w6):=HCq.out;go_wp2
                go_end0
                have hl:=Sym.halves HO.out.1 HO.out.2.1 HX.out HRe1.out HRe2.out HSo1.out HSo2.out;exact ⟨rfl,_,HVr.out,HRe0.out.trans hl.2,hl.1,HCr.out⟩
            · have HK3:Hid (¬ (mid < e ∧ e < b)):=fun h => c3 h.1
              have f3:decide ((mid:Int) < (e:Int)) = false:=decide_eq_false (by omega);have g3:decide (mid < e) = false:=decide_eq_false (by omega);have HVr:Hid (RowsV x0 enc N blk cap lo hi w6 q1):=HVq.out;have HRe2:Hid (Sym.Re mid b q1 q1):=Sym.Re.refl _ _ _;have HSo2:Hid (Sym.Srt (numL x0) q1 mid b):=HN3 HRe1.out HK3.out;have HCr:Hid (ChgL [blk] w w6):=HCq.out;go_wp2
              go_end0
              have hl:=Sym.halves HO.out.1 HO.out.2.1 HX.out HRe1.out HRe2.out HSo1.out HSo2.out;exact ⟨rfl,_,HVr.out,HRe0.out.trans hl.2,hl.1,HCr.out⟩
        · have HK1:Hid (¬ (i < m ∧ m < e)):=fun h => c1b h.2
          have f1:decide ((i:Int) < (m:Int)) = true:=decide_eq_true (by omega);have g1:decide (i < m) = true:=decide_eq_true (by omega)
          have u1:(i:Int) < (m:Int):=by omega
          have f1b:decide ((m:Int) < (e:Int)) = false:=decide_eq_false (by omega);have g1b:decide (m < e) = false:=decide_eq_false (by omega);have HV1:Hid (RowsV x0 enc N blk cap lo hi wr q0):=(HV.out.same (fun x _ => by rw [HQ0.out];exact (HN1 HK1.out x).symm):RowsV x0 enc N blk cap lo hi wr q0);have HC1:Hid (ChgL [blk] w wr):=HC.out
          by_cases c2:a < i
          · by_cases c2b:i < mid
            · have HK2:Hid (a < i ∧ i < mid):=⟨c2,c2b⟩
              have f2:decide ((a:Int) < (i:Int)) = true:=decide_eq_true (by omega);have g2:decide (a < i) = true:=decide_eq_true (by omega)
              have u2:(a:Int) < (i:Int):=by omega
              have f2b:decide ((i:Int) < (mid:Int)) = true:=decide_eq_true (by omega);have g2b:decide (i < mid) = true:=decide_eq_true (by omega)
              have u2b:(i:Int) < (mid:Int):=by omega
              have CS:=HIH.out q0 wr a i mid (by have h9:=HO.out;omega) HV1.out HK2.out.1 HK2.out.2 HO.out.2.2.2.1 HT2.out HSa.out HSb.out
              go_wp2_with fail
              refine CS.mono ?_;rintro ee w7 ⟨rfl,q1,Vq,hRe1,hSo1,C7⟩;have HVq:Hid (RowsV x0 enc N blk cap lo hi w7 q1):=Vq;have HRe1:Hid (Sym.Re a mid q0 q1):=hRe1;have HSo1:Hid (Sym.Srt (numL x0) q1 a mid):=hSo1;have HCq:Hid (ChgL [blk] w w7):=HC1.out.trans C7;clear Vq hRe1 hSo1 C7 CS
              by_cases c3:mid < e
              · by_cases c3b:e < b
                · have HK3:Hid (mid < e ∧ e < b):=⟨c3,c3b⟩
                  have f3:decide ((mid:Int) < (e:Int)) = true:=decide_eq_true (by omega);have g3:decide (mid < e) = true:=decide_eq_true (by omega)
                  have u3:(mid:Int) < (e:Int):=by omega
                  have f3b:decide ((e:Int) < (b:Int)) = true:=decide_eq_true (by omega);have g3b:decide (e < b) = true:=decide_eq_true (by omega)
                  have u3b:(e:Int) < (b:Int):=by omega
                  have CS:=HIH.out q1 w7 mid e b (by have h9:=HO.out;omega) HVq.out HK3.out.1 HK3.out.2 HO.out.2.2.1 (HT3 HRe1.out) (HL3 HRe1.out) (HL4 HRe1.out)
                  go_wp2_with fail
                  refine CS.mono ?_;rintro ee w9 ⟨rfl,r,Vr,hRe2,hSo2,C9⟩;have HVr:Hid (RowsV x0 enc N blk cap lo hi w9 r):=Vr;have HRe2:Hid (Sym.Re mid b q1 r):=hRe2;have HSo2:Hid (Sym.Srt (numL x0) r mid b):=hSo2;have HCr:Hid (ChgL [blk] w w9):=HCq.out.trans C9;clear Vr hRe2 hSo2 C9 CS;go_wp2
                  go_end0
                  have hl:=Sym.halves HO.out.1 HO.out.2.1 HX.out HRe1.out HRe2.out HSo1.out HSo2.out;exact ⟨rfl,_,HVr.out,HRe0.out.trans hl.2,hl.1,HCr.out⟩
                · have HK3:Hid (¬ (mid < e ∧ e < b)):=fun h => c3b h.2
                  have f3:decide ((mid:Int) < (e:Int)) = true:=decide_eq_true (by omega);have g3:decide (mid < e) = true:=decide_eq_true (by omega)
                  have u3:(mid:Int) < (e:Int):=by omega
                  have f3b:decide ((e:Int) < (b:Int)) = false:=decide_eq_false (by omega);have g3b:decide (e < b) = false:=decide_eq_false (by omega);have HVr:Hid (RowsV x0 enc N blk cap lo hi w7 q1):=HVq.out;have HRe2:Hid (Sym.Re mid b q1 q1):=Sym.Re.refl _ _ _;have HSo2:Hid (Sym.Srt (numL x0) q1 mid b):=HN3 HRe1.out HK3.out;have HCr:Hid (ChgL [blk] w w7):=HCq.out;go_wp2
                  go_end0
                  have hl:=Sym.halves HO.out.1 HO.out.2.1 HX.out HRe1.out HRe2.out HSo1.out HSo2.out;exact ⟨rfl,_,HVr.out,HRe0.out.trans hl.2,hl.1,HCr.out⟩
              · have HK3:Hid (¬ (mid < e ∧ e < b)):=fun h => c3 h.1
                have f3:decide ((mid:Int) < (e:Int)) = false:=decide_eq_false (by omega);have g3:decide (mid < e) = false:=decide_eq_false (by omega);have HVr:Hid (RowsV x0 enc N blk cap lo hi w7 q1):=HVq.out;have HRe2:Hid (Sym.Re mid b q1 q1):=Sym.Re.refl _ _ _;have HSo2:Hid (Sym.Srt (numL x0) q1 mid b):=HN3 HRe1.out HK3.out;have HCr:Hid (ChgL [blk] w w7):=HCq.out;go_wp2
                go_end0
                have hl:=Sym.halves HO.out.1 HO.out.2.1 HX.out HRe1.out HRe2.out HSo1.out HSo2.out;exact ⟨rfl,_,HVr.out,HRe0.out.trans hl.2,hl.1,HCr.out⟩
            · have HK2:Hid (¬ (a < i ∧ i < mid)):=fun h => c2b h.2
              have f2:decide ((a:Int) < (i:Int)) = true:=decide_eq_true (by omega);have g2:decide (a < i) = true:=decide_eq_true (by omega)
              have u2:(a:Int) < (i:Int):=by omega
              have f2b:decide ((i:Int) < (mid:Int)) = false:=decide_eq_false (by omega);have g2b:decide (i < mid) = false:=decide_eq_false (by omega);obtain ⟨q1,hq1⟩:∃ q1,q1 = q0:=⟨_,rfl⟩;have HVq:Hid (RowsV x0 enc N blk cap lo hi wr q1):=(by rw [hq1];exact HV1.out:RowsV x0 enc N blk cap lo hi wr q1);have HRe1:Hid (Sym.Re a mid q0 q1):=(by rw [hq1];exact Sym.Re.refl _ _ _:Sym.Re a mid q0 q1);have HSo1:Hid (Sym.Srt (numL x0) q1 a mid):=(by rw [hq1];exact HN2 HK2.out:Sym.Srt (numL x0) q1 a mid);have HCq:Hid (ChgL [blk] w wr):=HC1.out;clear hq1
              by_cases c3:mid < e
              · by_cases c3b:e < b
                · have HK3:Hid (mid < e ∧ e < b):=⟨c3,c3b⟩
                  have f3:decide ((mid:Int) < (e:Int)) = true:=decide_eq_true (by omega);have g3:decide (mid < e) = true:=decide_eq_true (by omega)
                  have u3:(mid:Int) < (e:Int):=by omega
                  have f3b:decide ((e:Int) < (b:Int)) = true:=decide_eq_true (by omega);have g3b:decide (e < b) = true:=decide_eq_true (by omega)
                  have u3b:(e:Int) < (b:Int):=by omega
                  have CS:=HIH.out q1 wr mid e b (by have h9:=HO.out;omega) HVq.out HK3.out.1 HK3.out.2 HO.out.2.2.1 (HT3 HRe1.out) (HL3 HRe1.out) (HL4 HRe1.out)
                  go_wp2_with fail
                  refine CS.mono ?_;rintro ee w9 ⟨rfl,r,Vr,hRe2,hSo2,C9⟩;have HVr:Hid (RowsV x0 enc N blk cap lo hi w9 r):=Vr;have HRe2:Hid (Sym.Re mid b q1 r):=hRe2;have HSo2:Hid (Sym.Srt (numL x0) r mid b):=hSo2;have HCr:Hid (ChgL [blk] w w9):=HCq.out.trans C9;clear Vr hRe2 hSo2 C9 CS;go_wp2
                  go_end0
                  have hl:=Sym.halves HO.out.1 HO.out.2.1 HX.out HRe1.out HRe2.out HSo1.out HSo2.out;exact ⟨rfl,_,HVr.out,HRe0.out.trans hl.2,hl.1,HCr.out⟩
                · have HK3:Hid (¬ (mid < e ∧ e < b)):=fun h => c3b h.2
                  have f3:decide ((mid:Int) < (e:Int)) = true:=decide_eq_true (by omega);have g3:decide (mid < e) = true:=decide_eq_true (by omega)
                  have u3:(mid:Int) < (e:Int):=by omega
                  have f3b:decide ((e:Int) < (b:Int)) = false:=decide_eq_false (by omega);have g3b:decide (e < b) = false:=decide_eq_false (by omega);have HVr:Hid (RowsV x0 enc N blk cap lo hi wr q1):=HVq.out;have HRe2:Hid (Sym.Re mid b q1 q1):=Sym.Re.refl _ _ _;have HSo2:Hid (Sym.Srt (numL x0) q1 mid b):=HN3 HRe1.out HK3.out;have HCr:Hid (ChgL [blk] w wr):=HCq.out;go_wp2
                  go_end0
                  have hl:=Sym.halves HO.out.1 HO.out.2.1 HX.out HRe1.out HRe2.out HSo1.out HSo2.out;exact ⟨rfl,_,HVr.out,HRe0.out.trans hl.2,hl.1,HCr.out⟩
              · have HK3:Hid (¬ (mid < e ∧ e < b)):=fun h => c3 h.1
                have f3:decide ((mid:Int) < (e:Int)) = false:=decide_eq_false (by omega);have g3:decide (mid < e) = false:=decide_eq_false (by omega);have HVr:Hid (RowsV x0 enc N blk cap lo hi wr q1):=HVq.out;have HRe2:Hid (Sym.Re mid b q1 q1):=Sym.Re.refl _ _ _;have HSo2:Hid (Sym.Srt (numL x0) q1 mid b):=HN3 HRe1.out HK3.out;have HCr:Hid (ChgL [blk] w wr):=HCq.out;go_wp2
                go_end0
                have hl:=Sym.halves HO.out.1 HO.out.2.1 HX.out HRe1.out HRe2.out HSo1.out HSo2.out;exact ⟨rfl,_,HVr.out,HRe0.out.trans hl.2,hl.1,HCr.out⟩
          · have HK2:Hid (¬ (a < i ∧ i < mid)):=fun h => c2 h.1
            have f2:decide ((a:Int) < (i:Int)) = false:=decide_eq_false (by omega);have g2:decide (a < i) = false:=decide_eq_false (by omega);obtain ⟨q1,hq1⟩:∃ q1,q1 = q0:=⟨_,rfl⟩;have HVq:Hid (RowsV x0 enc N blk cap lo hi wr q1):=(by rw [hq1];exact HV1.out:RowsV x0 enc N blk cap lo hi wr q1);have HRe1:Hid (Sym.Re a mid q0 q1):=(by rw [hq1];exact Sym.Re.refl _ _ _:Sym.Re a mid q0 q1);have HSo1:Hid (Sym.Srt (numL x0) q1 a mid):=(by rw [hq1];exact HN2 HK2.out:Sym.Srt (numL x0) q1 a mid);have HCq:Hid (ChgL [blk] w wr):=HC1.out;clear hq1
            by_cases c3:mid < e
            · by_cases c3b:e < b
              · have HK3:Hid (mid < e ∧ e < b):=⟨c3,c3b⟩
                have f3:decide ((mid:Int) < (e:Int)) = true:=decide_eq_true (by omega);have g3:decide (mid < e) = true:=decide_eq_true (by omega)
                have u3:(mid:Int) < (e:Int):=by omega
                have f3b:decide ((e:Int) < (b:Int)) = true:=decide_eq_true (by omega);have g3b:decide (e < b) = true:=decide_eq_true (by omega)
                have u3b:(e:Int) < (b:Int):=by omega
                have CS:=HIH.out q1 wr mid e b (by have h9:=HO.out;omega) HVq.out HK3.out.1 HK3.out.2 HO.out.2.2.1 (HT3 HRe1.out) (HL3 HRe1.out) (HL4 HRe1.out)
                go_wp2_with fail
                refine CS.mono ?_;rintro ee w9 ⟨rfl,r,Vr,hRe2,hSo2,C9⟩;have HVr:Hid (RowsV x0 enc N blk cap lo hi w9 r):=Vr;have HRe2:Hid (Sym.Re mid b q1 r):=hRe2;have HSo2:Hid (Sym.Srt (numL x0) r mid b):=hSo2;have HCr:Hid (ChgL [blk] w w9):=HCq.out.trans C9;clear Vr hRe2 hSo2 C9 CS;go_wp2
                go_end0
                have hl:=Sym.halves HO.out.1 HO.out.2.1 HX.out HRe1.out HRe2.out HSo1.out HSo2.out;exact ⟨rfl,_,HVr.out,HRe0.out.trans hl.2,hl.1,HCr.out⟩
              · have HK3:Hid (¬ (mid < e ∧ e < b)):=fun h => c3b h.2
                have f3:decide ((mid:Int) < (e:Int)) = true:=decide_eq_true (by omega);have g3:decide (mid < e) = true:=decide_eq_true (by omega)
                have u3:(mid:Int) < (e:Int):=by omega
                have f3b:decide ((e:Int) < (b:Int)) = false:=decide_eq_false (by omega);have g3b:decide (e < b) = false:=decide_eq_false (by omega);have HVr:Hid (RowsV x0 enc N blk cap lo hi wr q1):=HVq.out;have HRe2:Hid (Sym.Re mid b q1 q1):=Sym.Re.refl _ _ _;have HSo2:Hid (Sym.Srt (numL x0) q1 mid b):=HN3 HRe1.out HK3.out;have HCr:Hid (ChgL [blk] w wr):=HCq.out;go_wp2
                go_end0
                have hl:=Sym.halves HO.out.1 HO.out.2.1 HX.out HRe1.out HRe2.out HSo1.out HSo2.out;exact ⟨rfl,_,HVr.out,HRe0.out.trans hl.2,hl.1,HCr.out⟩
            · have HK3:Hid (¬ (mid < e ∧ e < b)):=fun h => c3 h.1
              have f3:decide ((mid:Int) < (e:Int)) = false:=decide_eq_false (by omega);have g3:decide (mid < e) = false:=decide_eq_false (by omega);have HVr:Hid (RowsV x0 enc N blk cap lo hi wr q1):=HVq.out;have HRe2:Hid (Sym.Re mid b q1 q1):=Sym.Re.refl _ _ _;have HSo2:Hid (Sym.Srt (numL x0) q1 mid b):=HN3 HRe1.out HK3.out;have HCr:Hid (ChgL [blk] w wr):=HCq.out;go_wp2
              go_end0
              have hl:=Sym.halves HO.out.1 HO.out.2.1 HX.out HRe1.out HRe2.out HSo1.out HSo2.out;exact ⟨rfl,_,HVr.out,HRe0.out.trans hl.2,hl.1,HCr.out⟩
      · have HK1:Hid (¬ (i < m ∧ m < e)):=fun h => c1 h.1
        have f1:decide ((i:Int) < (m:Int)) = false:=decide_eq_false (by omega);have g1:decide (i < m) = false:=decide_eq_false (by omega);have HV1:Hid (RowsV x0 enc N blk cap lo hi wr q0):=(HV.out.same (fun x _ => by rw [HQ0.out];exact (HN1 HK1.out x).symm):RowsV x0 enc N blk cap lo hi wr q0);have HC1:Hid (ChgL [blk] w wr):=HC.out
        by_cases c2:a < i
        · by_cases c2b:i < mid
          · have HK2:Hid (a < i ∧ i < mid):=⟨c2,c2b⟩
            have f2:decide ((a:Int) < (i:Int)) = true:=decide_eq_true (by omega);have g2:decide (a < i) = true:=decide_eq_true (by omega)
            have u2:(a:Int) < (i:Int):=by omega
            have f2b:decide ((i:Int) < (mid:Int)) = true:=decide_eq_true (by omega);have g2b:decide (i < mid) = true:=decide_eq_true (by omega)
            have u2b:(i:Int) < (mid:Int):=by omega
            have CS:=HIH.out q0 wr a i mid (by have h9:=HO.out;omega) HV1.out HK2.out.1 HK2.out.2 HO.out.2.2.2.1 HT2.out HSa.out HSb.out
            go_wp2_with fail
            refine CS.mono ?_;rintro ee w7 ⟨rfl,q1,Vq,hRe1,hSo1,C7⟩;have HVq:Hid (RowsV x0 enc N blk cap lo hi w7 q1):=Vq;have HRe1:Hid (Sym.Re a mid q0 q1):=hRe1;have HSo1:Hid (Sym.Srt (numL x0) q1 a mid):=hSo1;have HCq:Hid (ChgL [blk] w w7):=HC1.out.trans C7;clear Vq hRe1 hSo1 C7 CS
            by_cases c3:mid < e
            · by_cases c3b:e < b
              · have HK3:Hid (mid < e ∧ e < b):=⟨c3,c3b⟩
                have f3:decide ((mid:Int) < (e:Int)) = true:=decide_eq_true (by omega);have g3:decide (mid < e) = true:=decide_eq_true (by omega)
                have u3:(mid:Int) < (e:Int):=by omega
                have f3b:decide ((e:Int) < (b:Int)) = true:=decide_eq_true (by omega);have g3b:decide (e < b) = true:=decide_eq_true (by omega)
                have u3b:(e:Int) < (b:Int):=by omega
                have CS:=HIH.out q1 w7 mid e b (by have h9:=HO.out;omega) HVq.out HK3.out.1 HK3.out.2 HO.out.2.2.1 (HT3 HRe1.out) (HL3 HRe1.out) (HL4 HRe1.out)
                go_wp2_with fail
                refine CS.mono ?_;rintro ee w9 ⟨rfl,r,Vr,hRe2,hSo2,C9⟩;have HVr:Hid (RowsV x0 enc N blk cap lo hi w9 r):=Vr;have HRe2:Hid (Sym.Re mid b q1 r):=hRe2;have HSo2:Hid (Sym.Srt (numL x0) r mid b):=hSo2;have HCr:Hid (ChgL [blk] w w9):=HCq.out.trans C9;clear Vr hRe2 hSo2 C9 CS;go_wp2
                go_end0
                have hl:=Sym.halves HO.out.1 HO.out.2.1 HX.out HRe1.out HRe2.out HSo1.out HSo2.out;exact ⟨rfl,_,HVr.out,HRe0.out.trans hl.2,hl.1,HCr.out⟩
              · have HK3:Hid (¬ (mid < e ∧ e < b)):=fun h => c3b h.2
                have f3:decide ((mid:Int) < (e:Int)) = true:=decide_eq_true (by omega);have g3:decide (mid < e) = true:=decide_eq_true (by omega)
                have u3:(mid:Int) < (e:Int):=by omega
                have f3b:decide ((e:Int) < (b:Int)) = false:=decide_eq_false (by omega);have g3b:decide (e < b) = false:=decide_eq_false (by omega);have HVr:Hid (RowsV x0 enc N blk cap lo hi w7 q1):=HVq.out;have HRe2:Hid (Sym.Re mid b q1 q1):=Sym.Re.refl _ _ _;have HSo2:Hid (Sym.Srt (numL x0) q1 mid b):=HN3 HRe1.out HK3.out;have HCr:Hid (ChgL [blk] w w7):=HCq.out;go_wp2
                go_end0
                have hl:=Sym.halves HO.out.1 HO.out.2.1 HX.out HRe1.out HRe2.out HSo1.out HSo2.out;exact ⟨rfl,_,HVr.out,HRe0.out.trans hl.2,hl.1,HCr.out⟩
            · have HK3:Hid (¬ (mid < e ∧ e < b)):=fun h => c3 h.1
              have f3:decide ((mid:Int) < (e:Int)) = false:=decide_eq_false (by omega);have g3:decide (mid < e) = false:=decide_eq_false (by omega);have HVr:Hid (RowsV x0 enc N blk cap lo hi w7 q1):=HVq.out;have HRe2:Hid (Sym.Re mid b q1 q1):=Sym.Re.refl _ _ _;have HSo2:Hid (Sym.Srt (numL x0) q1 mid b):=HN3 HRe1.out HK3.out;have HCr:Hid (ChgL [blk] w w7):=HCq.out;go_wp2
              go_end0
              have hl:=Sym.halves HO.out.1 HO.out.2.1 HX.out HRe1.out HRe2.out HSo1.out HSo2.out;exact ⟨rfl,_,HVr.out,HRe0.out.trans hl.2,hl.1,HCr.out⟩
          · have HK2:Hid (¬ (a < i ∧ i < mid)):=fun h => c2b h.2
            have f2:decide ((a:Int) < (i:Int)) = true:=decide_eq_true (by omega);have g2:decide (a < i) = true:=decide_eq_true (by omega)
            have u2:(a:Int) < (i:Int):=by omega
            have f2b:decide ((i:Int) < (mid:Int)) = false:=decide_eq_false (by omega);have g2b:decide (i < mid) = false:=decide_eq_false (by omega);obtain ⟨q1,hq1⟩:∃ q1,q1 = q0:=⟨_,rfl⟩;have HVq:Hid (RowsV x0 enc N blk cap lo hi wr q1):=(by rw [hq1];exact HV1.out:RowsV x0 enc N blk cap lo hi wr q1);have HRe1:Hid (Sym.Re a mid q0 q1):=(by rw [hq1];exact Sym.Re.refl _ _ _:Sym.Re a mid q0 q1);have HSo1:Hid (Sym.Srt (numL x0) q1 a mid):=(by rw [hq1];exact HN2 HK2.out:Sym.Srt (numL x0) q1 a mid);have HCq:Hid (ChgL [blk] w wr):=HC1.out;clear hq1
            by_cases c3:mid < e
            · by_cases c3b:e < b
              · have HK3:Hid (mid < e ∧ e < b):=⟨c3,c3b⟩
                have f3:decide ((mid:Int) < (e:Int)) = true:=decide_eq_true (by omega);have g3:decide (mid < e) = true:=decide_eq_true (by omega)
                have u3:(mid:Int) < (e:Int):=by omega
                have f3b:decide ((e:Int) < (b:Int)) = true:=decide_eq_true (by omega);have g3b:decide (e < b) = true:=decide_eq_true (by omega)
                have u3b:(e:Int) < (b:Int):=by omega
                have CS:=HIH.out q1 wr mid e b (by have h9:=HO.out;omega) HVq.out HK3.out.1 HK3.out.2 HO.out.2.2.1 (HT3 HRe1.out) (HL3 HRe1.out) (HL4 HRe1.out)
                go_wp2_with fail
                refine CS.mono ?_;rintro ee w9 ⟨rfl,r,Vr,hRe2,hSo2,C9⟩;have HVr:Hid (RowsV x0 enc N blk cap lo hi w9 r):=Vr;have HRe2:Hid (Sym.Re mid b q1 r):=hRe2;have HSo2:Hid (Sym.Srt (numL x0) r mid b):=hSo2;have HCr:Hid (ChgL [blk] w w9):=HCq.out.trans C9;clear Vr hRe2 hSo2 C9 CS;go_wp2
                go_end0
                have hl:=Sym.halves HO.out.1 HO.out.2.1 HX.out HRe1.out HRe2.out HSo1.out HSo2.out;exact ⟨rfl,_,HVr.out,HRe0.out.trans hl.2,hl.1,HCr.out⟩
              · have HK3:Hid (¬ (mid < e ∧ e < b)):=fun h => c3b h.2
                have f3:decide ((mid:Int) < (e:Int)) = true:=decide_eq_true (by omega);have g3:decide (mid < e) = true:=decide_eq_true (by omega)
                have u3:(mid:Int) < (e:Int):=by omega
                have f3b:decide ((e:Int) < (b:Int)) = false:=decide_eq_false (by omega);have g3b:decide (e < b) = false:=decide_eq_false (by omega);have HVr:Hid (RowsV x0 enc N blk cap lo hi wr q1):=HVq.out;have HRe2:Hid (Sym.Re mid b q1 q1):=Sym.Re.refl _ _ _;have HSo2:Hid (Sym.Srt (numL x0) q1 mid b):=HN3 HRe1.out HK3.out;have HCr:Hid (ChgL [blk] w wr):=HCq.out;go_wp2
                go_end0
                have hl:=Sym.halves HO.out.1 HO.out.2.1 HX.out HRe1.out HRe2.out HSo1.out HSo2.out;exact ⟨rfl,_,HVr.out,HRe0.out.trans hl.2,hl.1,HCr.out⟩
            · have HK3:Hid (¬ (mid < e ∧ e < b)):=fun h => c3 h.1
              have f3:decide ((mid:Int) < (e:Int)) = false:=decide_eq_false (by omega);have g3:decide (mid < e) = false:=decide_eq_false (by omega);have HVr:Hid (RowsV x0 enc N blk cap lo hi wr q1):=HVq.out;have HRe2:Hid (Sym.Re mid b q1 q1):=Sym.Re.refl _ _ _;have HSo2:Hid (Sym.Srt (numL x0) q1 mid b):=HN3 HRe1.out HK3.out;have HCr:Hid (ChgL [blk] w wr):=HCq.out;go_wp2
              go_end0
              have hl:=Sym.halves HO.out.1 HO.out.2.1 HX.out HRe1.out HRe2.out HSo1.out HSo2.out;exact ⟨rfl,_,HVr.out,HRe0.out.trans hl.2,hl.1,HCr.out⟩
        · have HK2:Hid (¬ (a < i ∧ i < mid)):=fun h => c2 h.1
          have f2:decide ((a:Int) < (i:Int)) = false:=decide_eq_false (by omega);have g2:decide (a < i) = false:=decide_eq_false (by omega);obtain ⟨q1,hq1⟩:∃ q1,q1 = q0:=⟨_,rfl⟩;have HVq:Hid (RowsV x0 enc N blk cap lo hi wr q1):=(by rw [hq1];exact HV1.out:RowsV x0 enc N blk cap lo hi wr q1);have HRe1:Hid (Sym.Re a mid q0 q1):=(by rw [hq1];exact Sym.Re.refl _ _ _:Sym.Re a mid q0 q1);have HSo1:Hid (Sym.Srt (numL x0) q1 a mid):=(by rw [hq1];exact HN2 HK2.out:Sym.Srt (numL x0) q1 a mid);have HCq:Hid (ChgL [blk] w wr):=HC1.out;clear hq1
          by_cases c3:mid < e
          · by_cases c3b:e < b
            · have HK3:Hid (mid < e ∧ e < b):=⟨c3,c3b⟩
              have f3:decide ((mid:Int) < (e:Int)) = true:=decide_eq_true (by omega);have g3:decide (mid < e) = true:=decide_eq_true (by omega)
              have u3:(mid:Int) < (e:Int):=by omega
              have f3b:decide ((e:Int) < (b:Int)) = true:=decide_eq_true (by omega);have g3b:decide (e < b) = true:=decide_eq_true (by omega)
              have u3b:(e:Int) < (b:Int):=by omega
              have CS:=HIH.out q1 wr mid e b (by have h9:=HO.out;omega) HVq.out HK3.out.1 HK3.out.2 HO.out.2.2.1 (HT3 HRe1.out) (HL3 HRe1.out) (HL4 HRe1.out)
              go_wp2_with fail
              refine CS.mono ?_;rintro ee w9 ⟨rfl,r,Vr,hRe2,hSo2,C9⟩;have HVr:Hid (RowsV x0 enc N blk cap lo hi w9 r):=Vr;have HRe2:Hid (Sym.Re mid b q1 r):=hRe2;have HSo2:Hid (Sym.Srt (numL x0) r mid b):=hSo2;have HCr:Hid (ChgL [blk] w w9):=HCq.out.trans C9;clear Vr hRe2 hSo2 C9 CS;go_wp2
              go_end0
              have hl:=Sym.halves HO.out.1 HO.out.2.1 HX.out HRe1.out HRe2.out HSo1.out HSo2.out;exact ⟨rfl,_,HVr.out,HRe0.out.trans hl.2,hl.1,HCr.out⟩
            · have HK3:Hid (¬ (mid < e ∧ e < b)):=fun h => c3b h.2
              have f3:decide ((mid:Int) < (e:Int)) = true:=decide_eq_true (by omega);have g3:decide (mid < e) = true:=decide_eq_true (by omega)
              have u3:(mid:Int) < (e:Int):=by omega
              have f3b:decide ((e:Int) < (b:Int)) = false:=decide_eq_false (by omega);have g3b:decide (e < b) = false:=decide_eq_false (by omega);have HVr:Hid (RowsV x0 enc N blk cap lo hi wr q1):=HVq.out;have HRe2:Hid (Sym.Re mid b q1 q1):=Sym.Re.refl _ _ _;have HSo2:Hid (Sym.Srt (numL x0) q1 mid b):=HN3 HRe1.out HK3.out;have HCr:Hid (ChgL [blk] w wr):=HCq.out;go_wp2
              go_end0
              have hl:=Sym.halves HO.out.1 HO.out.2.1 HX.out HRe1.out HRe2.out HSo1.out HSo2.out;exact ⟨rfl,_,HVr.out,HRe0.out.trans hl.2,hl.1,HCr.out⟩
          · have HK3:Hid (¬ (mid < e ∧ e < b)):=fun h => c3 h.1
            have f3:decide ((mid:Int) < (e:Int)) = false:=decide_eq_false (by omega);have g3:decide (mid < e) = false:=decide_eq_false (by omega);have HVr:Hid (RowsV x0 enc N blk cap lo hi wr q1):=HVq.out;have HRe2:Hid (Sym.Re mid b q1 q1):=Sym.Re.refl _ _ _;have HSo2:Hid (Sym.Srt (numL x0) q1 mid b):=HN3 HRe1.out HK3.out;have HCr:Hid (ChgL [blk] w wr):=HCq.out;go_wp2
            go_end0
            have hl:=Sym.halves HO.out.1 HO.out.2.1 HX.out HRe1.out HRe2.out HSo1.out HSo2.out;exact ⟨rfl,_,HVr.out,HRe0.out.trans hl.2,hl.1,HCr.out⟩
end Go.Proofs.YtbjkjcfodljamaaGreat
namespace Go.Proofs.YtbjkjcfodljamaaGreat
open Go.RowKit F256
theorem symMerge_n (x0:Nat → RecD) (enc:Nat → List Value) (N blk cap lo hi:Nat) (hlo:hi ≤ lo) (hN:N < 1000000000):∀ (n:Nat) (p:Nat → Nat) (w:World) (a m b:Nat),b - a ≤ n → RowsV x0 enc N blk cap lo hi w p → a < m → m < b → b ≤ N → (∀ i j,a ≤ i → i < m → m ≤ j → j < b → p i < p j) → Sym.Srt (numL x0) p a m → Sym.Srt (numL x0) p m b → Calls Tryz.prog 163 #[.slice (some ⟨blk,0,none⟩) N cap,.int .i64 a,.int .i64 m,.int .i64 b,.func (.func 117) #[] #[]] w (fun e w' => e = .returned (.tuple #[]) ∧ ∃ q,RowsV x0 enc N blk cap lo hi w' q ∧ Sym.Re a b p q ∧ Sym.Srt (numL x0) q a b ∧ ChgL [blk] w w')
  | 0,p,w,a,m,b,h,V,ham,hmb,hb,ht,h1,h2 => by omega
  | n + 1,p,w,a,m,b,h,V,ham,hmb,hb,ht,h1,h2 => by
    have IH:∀ (p':Nat → Nat) (w':World) (a' m' b':Nat),b' - a' < b - a → RowsV x0 enc N blk cap lo hi w' p' → a' < m' → m' < b' → b' ≤ N → (∀ i j,a' ≤ i → i < m' → m' ≤ j → j < b' → p' i < p' j) → Sym.Srt (numL x0) p' a' m' → Sym.Srt (numL x0) p' m' b' → Calls Tryz.prog 163 #[.slice (some ⟨blk,0,none⟩) N cap,.int .i64 a',.int .i64 m',.int .i64 b',.func (.func 117) #[] #[]] w' (fun e w'' => e = .returned (.tuple #[]) ∧ ∃ q,RowsV x0 enc N blk cap lo hi w'' q ∧ Sym.Re a' b' p' q ∧ Sym.Srt (numL x0) q a' b' ∧ ChgL [blk] w' w''):=fun p' w' a' m' b' h' V' => symMerge_n x0 enc N blk cap lo hi hlo hN n p' w' a' m' b' (by omega) V'
    by_cases c1:m = a + 1
    · exact symMerge_1 x0 enc p N blk cap lo hi w V hlo hN a m b ham hmb hb ht h1 h2 c1
    · by_cases c2:b = m + 1
      · exact symMerge_2 x0 enc p N blk cap lo hi w V hlo hN a m b ham hmb hb ht h1 h2 c1 c2
      · by_cases c3:(a + b) / 2 < m
        · exact symMerge_3a x0 enc p N blk cap lo hi w V hlo hN a m b _ ham hmb hb ht h1 h2 c1 c2 rfl c3 IH
        · exact symMerge_3b x0 enc p N blk cap lo hi w V hlo hN a m b _ ham hmb hb ht h1 h2 c1 c2 rfl (by omega) IH
theorem symMerge_any (x0:Nat → RecD) (enc:Nat → List Value) (p:Nat → Nat) (N blk cap lo hi:Nat) (w:World) (V:RowsV x0 enc N blk cap lo hi w p) (hlo:hi ≤ lo) (hN:N < 1000000000) (a m b:Nat) (ham:a < m) (hmb:m < b) (hb:b ≤ N) (htag:∀ i j,a ≤ i → i < m → m ≤ j → j < b → p i < p j) (hs1:Sym.Srt (numL x0) p a m) (hs2:Sym.Srt (numL x0) p m b):Calls Tryz.prog 163 #[.slice (some ⟨blk,0,none⟩) N cap,.int .i64 a,.int .i64 m,.int .i64 b,.func (.func 117) #[] #[]] w (fun e w' => e = .returned (.tuple #[]) ∧ ∃ q,RowsV x0 enc N blk cap lo hi w' q ∧ Sym.Re a b p q ∧ Sym.Srt (numL x0) q a b ∧ ChgL [blk] w w'):=symMerge_n x0 enc N blk cap lo hi hlo hN (b - a) p w a m b (Nat.le_refl _) V ham hmb hb htag hs1 hs2
end Go.Proofs.YtbjkjcfodljamaaGreat
namespace Go.Proofs.YtbjkjcfodljamaaGreat
open Go.RowKit F256
structure Good (lt:Nat → Nat → Prop) (q:Nat → Nat) (a b:Nat):Prop where
  srt:Sym.Srt lt q a b
  own:∀ i,a ≤ i → i < b → a ≤ q i ∧ q i < b
theorem Good.congr {lt:Nat → Nat → Prop} {q q':Nat → Nat} {a b:Nat} (h:Good lt q a b) (e:∀ i,a ≤ i → i < b → q' i = q i):Good lt q' a b:=⟨h.srt.congr e,fun i h1 h2 => by rw [e i h1 h2];exact h.own i h1 h2⟩
inductive Blks (lt:Nat → Nat → Prop) (q:Nat → Nat) (s N:Nat):Nat → Prop
  | nil {a:Nat} (h:N ≤ a):Blks lt q s N a
  | cons {a:Nat} (h:a < N) (g:Good lt q a (min (a + s) N)) (r:Blks lt q s N (a + s)):Blks lt q s N a
theorem Blks.congr {lt:Nat → Nat → Prop} {q q':Nat → Nat} {s N a:Nat} (h:Blks lt q s N a) (e:∀ i,a ≤ i → q' i = q i):Blks lt q' s N a:=by
  induction h with
  | nil h => exact .nil h
  | cons h g r ih => exact .cons h (g.congr fun i h1 _ => e i h1) (ih fun i h1 => e i (by omega))
inductive Done (lt:Nat → Nat → Prop) (q:Nat → Nat) (s:Nat):Nat → Prop
  | zero:Done lt q s 0
  | snoc {a:Nat} (r:Done lt q s a) (g:Good lt q a (a + s)):Done lt q s (a + s)
theorem Done.congr {lt:Nat → Nat → Prop} {q q':Nat → Nat} {s a:Nat} (h:Done lt q s a) (e:∀ i,i < a → q' i = q i):Done lt q' s a:=by
  induction h with
  | zero => exact .zero
  | snoc r g ih => exact .snoc (ih fun i h1 => e i (by omega)) (g.congr fun i _ h2 => e i h2)
theorem Done.app {lt:Nat → Nat → Prop} {q:Nat → Nat} {s N a:Nat} (hs:0 < s) (h:Done lt q s a) (hN:a ≤ N) (b:Blks lt q s N a):Blks lt q s N 0:=by
  induction h with
  | zero => exact b
  | snoc r g ih => exact ih (by omega) (.cons (by omega) (by rw [Nat.min_eq_left hN];exact g) b)
theorem Blks.last {lt:Nat → Nat → Prop} {q:Nat → Nat} {s N a:Nat} (g:Good lt q a N) (h:N ≤ a + s):Blks lt q s N a:=by
  by_cases c:a < N
  · exact .cons c (by rw [Nat.min_eq_right h];exact g) (.nil h)
  · exact .nil (by omega)
theorem Blks.all {lt:Nat → Nat → Prop} {q:Nat → Nat} {s N:Nat} (h:Blks lt q s N 0) (hs:N ≤ s):Sym.Srt lt q 0 N:=by
  cases h with
  | nil h => exact fun i j _ _ h3 => by omega
  | cons h g r =>
    have:=g.srt;rw [Nat.min_eq_right (by omega)] at this;exact this
theorem Blks.open {lt:Nat → Nat → Prop} {q:Nat → Nat} {s N a:Nat} (h:Blks lt q s N a) (ha:a < N):Good lt q a (min (a + s) N) ∧ Blks lt q s N (a + s):=by
  cases h with
  | nil h => omega
  | cons h g r => exact ⟨g,r⟩
theorem Good.merged {lt:Nat → Nat → Prop} {q q':Nat → Nat} {a m b:Nat} (g1:Good lt q a m) (g2:Good lt q m b) (am:a ≤ m) (mb:m ≤ b) (k:Sym.Re a b q q') (s:Sym.Srt lt q' a b):Good lt q' a b:=⟨s,fun i h1 h2 => by
  obtain ⟨j,hj,e⟩:=k.from ⟨h1,h2⟩
  rw [e]
  by_cases c:j < m
  · have:=g1.own j hj.1 c
    omega
  · have:=g2.own j (by omega) hj.2
    omega⟩
theorem Good.tags {lt:Nat → Nat → Prop} {q:Nat → Nat} {a m b:Nat} (g1:Good lt q a m) (g2:Good lt q m b):∀ i j,a ≤ i → i < m → m ≤ j → j < b → q i < q j:=fun i j h1 h2 h3 h4 => by
  have:=g1.own i h1 h2;have:=g2.own j h3 h4;omega
theorem Good.fresh {lt:Nat → Nat → Prop} {q q':Nat → Nat} {a b:Nat} (e:∀ i,a ≤ i → q i = i) (k:Sym.Re a b q q') (s:Sym.Srt lt q' a b):Good lt q' a b:=⟨s,fun i h1 h2 => by
  obtain ⟨j,hj,e1⟩:=k.from ⟨h1,h2⟩
  rw [e1,e j hj.1]
  exact hj⟩
end Go.Proofs.YtbjkjcfodljamaaGreat
namespace Go.Proofs.YtbjkjcfodljamaaGreat
open Go.RowKit F256
set_option maxHeartbeats 16000000 in
set_option maxRecDepth 1000000 in
theorem stable_any (x0:Nat → RecD) (enc:Nat → List Value) (N blk cap lo hi:Nat) (w:World) (V:RowsV x0 enc N blk cap lo hi w (fun i => i)) (hlo:hi ≤ lo) (hN:N < 1000000000) :
    Calls Tryz.prog 141 #[.slice (some ⟨blk,0,none⟩) N cap,.int .i64 N,.func (.func 117) #[] #[]] w (fun e w' => e = .returned (.tuple #[]) ∧ ∃ q,RowsV x0 enc N blk cap lo hi w' q ∧ Sym.Re 0 N (fun i => i) q ∧ Sym.Srt (numL x0) q 0 N ∧ ChgL [blk] w w'):=by
  have HV0:Hid (RowsV x0 enc N blk cap lo hi w (fun i => i)):=V;clear V
  go_enter Tryz.func141,Tryz.ntmps141
  go_wp2
  go_loopw [7,8] (fun va vb wr => ∃ (a B:Nat) (q:Nat → Nat),B = a + 20 ∧ a ≤ N ∧ va = .int .i64 a ∧ vb = .int .i64 B ∧ RowsV x0 enc N blk cap lo hi wr q ∧ Done (numL x0) q 20 a ∧ (∀ i,a ≤ i → q i = i) ∧ Sym.Re 0 N (fun i => i) q ∧ ChgL [blk] w wr) (fun va _ _ => N - (intOf va).toNat)
  case atStart => exact ⟨0,20,(fun i => i),rfl,Nat.zero_le _,by go_num,by go_num,HV0.out,.zero,fun i _ => rfl,Sym.Re.refl _ _ _,ChgL.refl _ _⟩
  case round =>
    obtain ⟨a,B,q,hB,haN,rfl,rfl,V,hD,hid,hRe,C⟩:=hrel;have HC:Hid (ChgL [blk] w wr):=C;have HD:Hid (Done (numL x0) q 20 a):=hD;have HI:Hid (∀ i,a ≤ i → q i = i):=hid;have HRe:Hid (Sym.Re 0 N (fun i => i) q):=hRe;have HB:Hid (B = a + 20):=hB;clear C hD hid hRe
    have w1:IntKind.i64.wrap ((B:Int) + 20) = ((B + 20:Nat):Int):=by rw [IntKind.wrap_i64];omega
    by_cases hlt:B ≤ N
    · have t1:(B:Int) ≤ (N:Int):=by omega
      have CS:=insertion_any x0 enc q N blk cap lo hi wr V hlo hN a B (by omega) hlt (fun i j h1 h2 h3 => by rw [HI.out i h1,HI.out j (by omega)];exact h2);clear V hB
      go_wp2_with fail
      refine CS.mono ?_;rintro ee w2 ⟨rfl,q2,V2,hRe2,hS2,C2⟩;have HV2:Hid (RowsV x0 enc N blk cap lo hi w2 q2):=V2;have HRe2:Hid (Sym.Re a B q q2):=hRe2;have HS2:Hid (Sym.Srt (numL x0) q2 a B):=hS2;have HC2:Hid (ChgL [blk] w w2):=HC.out.trans C2;clear V2 hRe2 hS2 C2 CS;go_wp2
      go_roundw
      case rel =>
        have hB:=HB.out;have hk:=HRe2.out;exact ⟨B,B + 20,q2,rfl,hlt,rfl,by go_num,HV2.out,by rw [hB] at hk ⊢;exact .snoc (HD.out.congr fun i h1 => hk.out (.inl h1)) (Good.fresh HI.out hk (by rw [← hB];exact HS2.out)),fun i h1 => by rw [hk.out (.inr h1)];exact HI.out i (by omega),HRe.out.trans (hk.mono (Nat.zero_le _) hlt),HC2.out⟩
      case measure => have hB:=HB.out;simp [intOf];omega
    · have HNL:Hid (¬ B ≤ N):=hlt
      have f1:decide ((B:Int) ≤ (N:Int)) = false:=decide_eq_false (by omega);have g1:decide (B ≤ N) = false:=decide_eq_false hlt;have CS:=insertion_any x0 enc q N blk cap lo hi wr V hlo hN a N haN (Nat.le_refl _) (fun i j h1 h2 h3 => by rw [HI.out i h1,HI.out j (by omega)];exact h2);clear V hB w1 hlt
      go_wp2_with fail
      refine CS.mono ?_;rintro ee w2 ⟨rfl,q2,V2,hRe2,hS2,C2⟩;have HV2:Hid (RowsV x0 enc N blk cap lo hi w2 q2):=V2;have HRe2:Hid (Sym.Re a N q q2):=hRe2;have HS2:Hid (Sym.Srt (numL x0) q2 a N):=hS2;have HC2:Hid (ChgL [blk] w w2):=HC.out.trans C2;clear V2 hRe2 hS2 C2 CS;have HBl:Hid (Blks (numL x0) q2 20 N 0):=Done.app (by decide) (HD.out.congr fun i h1 => HRe2.out.out (.inl h1)) haN (Blks.last (Good.fresh HI.out HRe2.out HS2.out) (by have h1:=HB.out;have h2:=HNL.out;omega));have HReN:Hid (Sym.Re 0 N (fun i => i) q2):=HRe.out.trans (HRe2.out.mono (Nat.zero_le _) (Nat.le_refl _));clear HD HI HRe HRe2 HS2 HC HNL HB f1 g1;go_wp2
      go_loopw [6] (fun vs wr => ∃ (s:Nat) (q:Nat → Nat),20 ≤ s ∧ s < 2000000000 ∧ vs = .int .i64 s ∧ RowsV x0 enc N blk cap lo hi wr q ∧ Blks (numL x0) q s N 0 ∧ Sym.Re 0 N (fun i => i) q ∧ ChgL [blk] w wr) (fun vs _ => N - (intOf vs).toNat)
      case atStart => exact ⟨20,q2,Nat.le_refl _,by decide,by go_num,HV2.out,HBl.out,HReN.out,HC2.out⟩
      case round =>
        obtain ⟨s,q3,hs20,hs2,rfl,V,hBl,hRe,C⟩:=hrel;have HVs:Hid (RowsV x0 enc N blk cap lo hi wr q3):=V;have HCs:Hid (ChgL [blk] w wr):=C;have HBs:Hid (Blks (numL x0) q3 s N 0):=hBl;have HRes:Hid (Sym.Re 0 N (fun i => i) q3):=hRe;clear C hBl hRe V HV2 HBl HReN HC2
        by_cases hlt:s < N
        · have t2:(s:Int) < (N:Int):=by omega
          obtain ⟨T,hT⟩:∃ T,T = 2 * s:=⟨_,rfl⟩;have HT:Hid (T = 2 * s):=hT
          have w2:IntKind.i64.wrap (2 * (s:Int)) = (T:Int):=by rw [IntKind.wrap_i64];omega
          have w3:IntKind.i64.wrap ((s:Int) * 2) = (T:Int):=by rw [IntKind.wrap_i64];omega
          clear hT;go_wp2
          go_loopw [7,8] (fun va vb wr => ∃ (a B:Nat) (q:Nat → Nat),B = a + T ∧ a ≤ N ∧ va = .int .i64 a ∧ vb = .int .i64 B ∧ RowsV x0 enc N blk cap lo hi wr q ∧ Done (numL x0) q T a ∧ Blks (numL x0) q s N a ∧ Sym.Re 0 N (fun i => i) q ∧ ChgL [blk] w wr) (fun va _ _ => N - (intOf va).toNat)
          case atStart => exact ⟨0,T,q3,by omega,Nat.zero_le _,by go_num,by go_num,HVs.out,.zero,HBs.out,HRes.out,HCs.out⟩
          case round =>
            obtain ⟨a,B,q4,hB,haN,rfl,rfl,V,hD,hBl,hRe,C⟩:=hrel;have hT:=HT.out;have HC:Hid (ChgL [blk] w wr):=C;have HD:Hid (Done (numL x0) q4 T a):=hD;have HBl:Hid (Blks (numL x0) q4 s N a):=hBl;have HRe:Hid (Sym.Re 0 N (fun i => i) q4):=hRe;have HB:Hid (B = a + T):=hB;have HV4:Hid (RowsV x0 enc N blk cap lo hi wr q4):=V;clear C hD hBl hRe HVs HBs HRes HCs V;obtain ⟨M,hM⟩:∃ M,M = a + s:=⟨_,rfl⟩;have HM:Hid (M = a + s):=hM
            have w4:IntKind.i64.wrap ((a:Int) + (s:Int)) = (M:Int):=by rw [IntKind.wrap_i64];omega
            have w5:IntKind.i64.wrap ((B:Int) + (T:Int)) = ((B + T:Nat):Int):=by rw [IntKind.wrap_i64];omega
            by_cases hle:B ≤ N
            · have t3:(B:Int) ≤ (N:Int):=by omega
              have o1:=HBl.out.open (by omega);rw [← hM] at o1;have o2:=o1.2.open (by omega);rw [Nat.min_eq_left (by omega)] at o1;rw [show M + s = B by omega,Nat.min_eq_left hle] at o2;have HG1:Hid (Good (numL x0) q4 a M):=o1.1;have HG2:Hid (Good (numL x0) q4 M B):=o2.1;have HBr:Hid (Blks (numL x0) q4 s N B):=o2.2;have CS:=symMerge_any x0 enc q4 N blk cap lo hi wr HV4.out hlo hN a M B (by omega) (by omega) hle (HG1.out.tags HG2.out) HG1.out.srt HG2.out.srt;clear o1 o2 hB hM hT
              go_wp2_with fail
              refine CS.mono ?_;rintro ee w9 ⟨rfl,q5,V2,hRe2,hS2,C2⟩;have HV2:Hid (RowsV x0 enc N blk cap lo hi w9 q5):=V2;have HRe2:Hid (Sym.Re a B q4 q5):=hRe2;have HS2:Hid (Sym.Srt (numL x0) q5 a B):=hS2;have HC2:Hid (ChgL [blk] w w9):=HC.out.trans C2;clear V2 hRe2 hS2 C2 CS;go_wp2
              go_roundw
              case rel =>
                have hB:=HB.out;have hM:=HM.out;have hT:=HT.out;have hk:=HRe2.out
                exact ⟨B,B + T,q5,rfl,hle,rfl,by go_num,HV2.out,by
                  have g:=HG1.out.merged HG2.out (by omega) (by omega) hk HS2.out;rw [hB] at hk g ⊢
                  exact .snoc (HD.out.congr fun i h1 => hk.out (.inl h1)) g,HBr.out.congr (fun i h1 => hk.out (.inr h1)),HRe.out.trans (hk.mono (Nat.zero_le _) hle),HC2.out⟩
              case measure => have hB:=HB.out;have hT:=HT.out;simp [intOf];omega
            · have HNL:Hid (¬ B ≤ N):=hle
              have f1:decide ((B:Int) ≤ (N:Int)) = false:=decide_eq_false (by omega);have g1:decide (B ≤ N) = false:=decide_eq_false hle
              by_cases hm:M < N
              · have t3:(M:Int) < (N:Int):=by omega
                have o1:=HBl.out.open (by omega);rw [← hM] at o1;have o2:=o1.2.open (by omega);rw [Nat.min_eq_left (by omega)] at o1;rw [Nat.min_eq_right (by omega)] at o2;have HG1:Hid (Good (numL x0) q4 a M):=o1.1;have HG2:Hid (Good (numL x0) q4 M N):=o2.1;have CS:=symMerge_any x0 enc q4 N blk cap lo hi wr HV4.out hlo hN a M N (by omega) hm (Nat.le_refl _) (HG1.out.tags HG2.out) HG1.out.srt HG2.out.srt;clear o1 o2 hB hM hT hle
                go_wp2_with fail
                refine CS.mono ?_;rintro ee w9 ⟨rfl,q5,V2,hRe2,hS2,C2⟩;have HV2:Hid (RowsV x0 enc N blk cap lo hi w9 q5):=V2;have HRe2:Hid (Sym.Re a N q4 q5):=hRe2;have HS2:Hid (Sym.Srt (numL x0) q5 a N):=hS2;have HC2:Hid (ChgL [blk] w w9):=HC.out.trans C2;clear V2 hRe2 hS2 C2 CS;go_wp2
                go_roundw
                case rel =>
                  have hB:=HB.out;have hM:=HM.out;have hT:=HT.out;have hNL:=HNL.out;have hk:=HRe2.out;exact ⟨T,q5,by omega,by omega,by go_num,HV2.out,Done.app (by omega) (HD.out.congr fun i h1 => hk.out (.inl h1)) haN (Blks.last (HG1.out.merged HG2.out (by omega) (by omega) hk HS2.out) (by omega)),HRe.out.trans (hk.mono (Nat.zero_le _) (Nat.le_refl _)),HC2.out⟩
                case measure => have hT:=HT.out;simp [intOf];omega
              · have f2:decide ((M:Int) < (N:Int)) = false:=decide_eq_false (by omega)
                have g2:decide (M < N) = false:=decide_eq_false hm
                have HBT:Hid (Blks (numL x0) q4 T N a):=(by
                  by_cases c:a < N
                  · have o1:=(HBl.out.open c).1
                    rw [Nat.min_eq_right (by omega)] at o1;exact Blks.last o1 (by omega)
                  · exact .nil (by omega):Blks (numL x0) q4 T N a)
                clear hB hM hT hle hm;go_wp2
                go_roundw
                case rel => have hT:=HT.out;exact ⟨T,q4,by omega,by omega,by go_num,HV4.out,Done.app (by omega) HD.out haN HBT.out,HRe.out,HC.out⟩
                case measure => have hT:=HT.out;simp [intOf];omega
        · have f2:decide ((s:Int) < (N:Int)) = false:=decide_eq_false (by omega)
          have g2:decide (s < N) = false:=decide_eq_false hlt;have HNL:Hid (N ≤ s):=(by omega:N ≤ s);clear hlt;go_wp2
          go_end0
          exact ⟨rfl,q3,HVs.out,HRes.out,HBs.out.all HNL.out,HCs.out⟩
end Go.Proofs.YtbjkjcfodljamaaGreat
namespace Go.Proofs.YtbjkjcfodljamaaGreat
open Go.RowKit F256
set_option maxHeartbeats 8000000 in
set_option maxRecDepth 1000000 in
theorem sortStable_any (x0:Nat → RecD) (enc:Nat → List Value) (N blk cap lo hi:Nat) (w:World) (V:RowsV x0 enc N blk cap lo hi w (fun i => i)) (hlo:hi ≤ lo) (hN:N < 1000000000) :
    Calls Tryz.prog 116 #[.slice (some ⟨blk,0,none⟩) N cap,.func (.func 117) #[] #[]] w (fun e w' => e = .returned (.tuple #[]) ∧ ∃ q,RowsV x0 enc N blk cap lo hi w' q ∧ Sym.Re 0 N (fun i => i) q ∧ Sym.Srt (numL x0) q 0 N ∧ ChgL [blk] w w'):=by
  have CS:=stable_any x0 enc N blk cap lo hi w V hlo hN;clear V
  go_enter Tryz.func116,Tryz.ntmps116
  go_wp2_with fail
  refine CS.mono ?_;rintro ee w2 ⟨rfl,q,V2,hRe,hS,C⟩;have HV2:Hid (RowsV x0 enc N blk cap lo hi w2 q):=V2;have HRe:Hid (Sym.Re 0 N (fun i => i) q):=hRe;have HS:Hid (Sym.Srt (numL x0) q 0 N):=hS;have HC:Hid (ChgL [blk] w w2):=C;clear V2 hRe hS C CS;go_wp2
  go_end0
  exact ⟨rfl,q,HV2.out,HRe.out,HS.out,HC.out⟩
set_option maxHeartbeats 8000000 in
set_option maxRecDepth 1000000 in
theorem insertion_nil (w:World):Calls Tryz.prog 162 #[.slice none 0 0,.int .i64 0,.int .i64 0,.func (.func 117) #[] #[]] w (fun e w' => e = .returned (.tuple #[]) ∧ Below w.heap.size w w'):=by
  go_enter Tryz.func162,Tryz.ntmps162
  go_wp2
  go_loopw [8] (fun vi wr => vi = .int .i64 1 ∧ Below w.heap.size w wr) (fun _ _ => 0)
  case atStart => exact ⟨by go_num,⟨rfl,rfl,rfl,Nat.le_refl _,fun _ _ => rfl⟩⟩
  case round =>
    obtain ⟨rfl,hb⟩:=hrel;go_wp2
    go_end0
    exact ⟨rfl,hb⟩
set_option maxHeartbeats 8000000 in
set_option maxRecDepth 1000000 in
theorem stable_nil (w:World):Calls Tryz.prog 141 #[.slice none 0 0,.int .i64 0,.func (.func 117) #[] #[]] w (fun e w' => e = .returned (.tuple #[]) ∧ Below w.heap.size w w'):=by
  have CS:=insertion_nil w
  go_enter Tryz.func141,Tryz.ntmps141
  go_wp2
  go_loopw [7,8] (fun va vb wr => va = .int .i64 0 ∧ vb = .int .i64 20 ∧ wr = w) (fun _ _ _ => 0)
  case atStart => exact ⟨by go_num,by go_num,rfl⟩
  case round =>
    obtain ⟨rfl,rfl,rfl⟩:=hrel
    go_wp2_with fail
    refine CS.mono ?_;rintro ee w2 ⟨rfl,hb⟩;have HB:Hid (Below wr.heap.size wr w2):=hb;clear hb CS;go_wp2
    go_loopw [6] (fun vs w' => vs = .int .i64 20 ∧ Below wr.heap.size wr w') (fun _ _ => 0)
    case atStart => exact ⟨by go_num,HB.out⟩
    case round =>
      obtain ⟨rfl,hb⟩:=hrel;go_wp2
      go_end0
      exact ⟨rfl,hb⟩
set_option maxHeartbeats 8000000 in
set_option maxRecDepth 1000000 in
theorem sortStable_nil (w:World):Calls Tryz.prog 116 #[.slice none 0 0,.func (.func 117) #[] #[]] w (fun e w' => e = .returned (.tuple #[]) ∧ Below w.heap.size w w'):=by
  have CS:=stable_nil w
  go_enter Tryz.func116,Tryz.ntmps116
  go_wp2_with fail
  refine CS.mono ?_;rintro ee w2 ⟨rfl,hb⟩;go_wp2
  go_end0
  exact ⟨rfl,hb⟩
end Go.Proofs.YtbjkjcfodljamaaGreat