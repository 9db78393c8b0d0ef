/- Walk of slices.symMergeCmpFunc over records: one element in the second part. -/
import Derived.Test.YtodedamnclhbnaaGreatZPundonah
set_option linter.unusedVariables false
set_option linter.unusedSimpArgs false
namespace Go.Proofs.YtodedamnclhbnaaGreat
open Go.RowKit F256
theorem rot2_step (m k x:Nat) (h:k + 1 ≤ m):Sym.rot (k + 1) m (m + 1) (Sym.swp (k + 1) k x) = Sym.rot k m (m + 1) x:=by
  unfold Sym.rot Sym.swp
  repeat' split
  all_goals omega
theorem rot2_zero (m x:Nat):Sym.rot m m (m + 1) x = x:=by
  unfold Sym.rot
  repeat' split
  all_goals omega
theorem merge2 {lt:Nat → Nat → Prop} {p:Nat → Nat} {a m i:Nat} (hai:a ≤ i) (him:i ≤ m) (h1:Sym.Srt lt p a m) (hl:∀ k,a ≤ k → k < i → lt (p k) (p m)) (hr:∀ k,i ≤ k → k < m → lt (p m) (p k)) :
    Sym.Srt lt (fun k => p (Sym.rot i m (m + 1) k)) a (m + 1) ∧ Sym.Re a (m + 1) p (fun k => p (Sym.rot i m (m + 1) k)):=by
  have r1 : ∀ k, i < k → k ≤ m → Sym.rot i m (m + 1) k = k - 1 := fun k h3 h4 => by unfold Sym.rot;repeat' split
                                                                                    all_goals omega
  have r2 : Sym.rot i m (m + 1) i = m := by unfold Sym.rot;repeat' split
                                            all_goals omega
  have r3 : ∀ k, k < i → Sym.rot i m (m + 1) k = k := fun k h3 => by unfold Sym.rot;repeat' split
                                                                     all_goals omega
  refine ⟨fun x y h3 h4 h5 => ?_,(Sym.Re.rots p him (by omega)).mono hai (Nat.le_refl _)⟩
  show lt (p (Sym.rot i m (m + 1) x)) (p (Sym.rot i m (m + 1) y))
  by_cases c1:x < i
  · rw [r3 x c1]
    by_cases c2:y < i
    · rw [r3 y c2];exact h1 _ _ (by omega) (by omega) (by omega)
    · by_cases c3:y = i
      · rw [c3,r2];exact hl _ h3 c1
      · rw [r1 y (by omega) (by omega)];exact h1 _ _ (by omega) (by omega) (by omega)
  · by_cases c3:x = i
    · rw [c3,r2,r1 y (by omega) (by omega)];exact hr _ (by omega) (by omega)
    · rw [r1 x (by omega) (by omega),r1 y (by omega) (by omega)];exact h1 _ _ (by omega) (by omega) (by omega)
set_option maxHeartbeats 8000000 in
set_option maxRecDepth 1000000 in
theorem symMerge_2 (x0:Nat → RecD) (enc:Nat → List Value) (p:Nat → Nat) (N blk cap lo hi:Nat) (w:World) (V:RowsV x0 enc N blk cap lo hi w p) (hlo:hi ≤ lo) (hN:N < 1000000000) (a m b:Nat) (ham:a < m) (hmb:m < b) (hb:b ≤ N) (htag:∀ i j,a ≤ i → i < m → m ≤ j → j < b → p i < p j) (hs1:Sym.Srt (numL x0) p a m) (hs2:Sym.Srt (numL x0) p m b) (h0:m ≠ a + 1) (h1:b = m + 1) :
    Calls Tryz.prog 161 #[.slice (some ⟨blk,0,none⟩) N cap,.int .i64 a,.int .i64 m,.int .i64 b,.func (.func 114) #[] #[]] w (fun e w' => e = .returned (.tuple #[]) ∧ ∃ q,RowsV x0 enc N blk cap lo hi w' q ∧ Sym.Re a b p q ∧ Sym.Srt (numL x0) q a b ∧ ChgL [blk] w w'):=by
  have HV0:Hid (RowsV x0 enc N blk cap lo hi w p):=V;have HT:Hid (∀ i j,a ≤ i → i < m → m ≤ j → j < b → p i < p j):=htag;have HS1:Hid (Sym.Srt (numL x0) p a m):=hs1;have HM:Hid (b = m + 1):=h1;obtain ⟨D,hD⟩:∃ D,D = m - a:=⟨_,rfl⟩
  have w0:IntKind.i64.wrap ((m:Int) - (a:Int)) = (D:Int):=by rw [IntKind.wrap_i64];omega
  have d0:((D:Int) == 1) = false:=by simp;omega
  have w9:IntKind.i64.wrap ((b:Int) - (m:Int)) = 1:=by rw [IntKind.wrap_i64];omega
  clear V htag hs1 hs2 h0 h1 hD
  go_enter Tryz.func161,Tryz.ntmps161
  go_wp2
  go_loopw [14,15] (fun vi vj wr => ∃ (i j:Nat),a ≤ i ∧ i ≤ j ∧ j ≤ m ∧ vi = .int .i64 i ∧ vj = .int .i64 j ∧ RowsV x0 enc N blk cap lo hi wr p ∧ (∀ k,a ≤ k → k < i → numL x0 (p k) (p m)) ∧ (∀ k,j ≤ k → k < m → numL x0 (p m) (p k)) ∧ ChgL [blk] w wr) (fun vi vj _ => (intOf vj).toNat - (intOf vi).toNat)
  case atStart => exact ⟨a,m,Nat.le_refl _,by omega,Nat.le_refl _,by go_num,by go_num,HV0.out,fun k h1 h2 => by omega,fun k h1 h2 => by omega,ChgL.refl _ _⟩
  case round =>
    obtain ⟨i,j,hmi,hij,hjb,rfl,rfl,V,hL,hR,C⟩:=hrel;have HC:Hid (ChgL [blk] w wr):=C;have HL:Hid (∀ k,a ≤ k → k < i → numL x0 (p k) (p m)):=hL;have HR:Hid (∀ k,j ≤ k → k < m → numL x0 (p m) (p k)):=hR;have HV:Hid (RowsV x0 enc N blk cap lo hi wr p):=V;clear C hL hR w0 w9 d0
    by_cases hlt:i < j
    · have t1:(i:Int) < (j:Int):=by omega
      obtain ⟨B,hB⟩:∃ B,B = (i + j) / 2:=⟨_,rfl⟩
      have w1:IntKind.i64.wrap ((i:Int) + (j:Int)) = ((i + j:Nat):Int):=by rw [IntKind.wrap_i64];omega
      have e1:((i:Int) + (j:Int)) / 2 = (B:Int):=by omega
      have hBi:i ≤ B:=by omega
      have hBj:B < j:=by omega
      have hAN:m < N:=by omega
      have hBN:B < N:=by omega
      have i1:(m:Int) < (N:Int):=by omega
      have i2:(B:Int) < (N:Int):=by omega
      have i3:(0:Int) ≤ (m:Int):=by omega
      have i4:(0:Int) ≤ (B:Int):=by omega
      have hsz:=(V.row.lt blk rfl);have VD:=View.drew V;have rgA:wr.drew.rangeAt blk (m * 9) (enc (p m)):=VD.range hAN;have rgB:wr.drew.rangeAt blk (B * 9) (enc (p B)):=VD.range hBN;have hsA:(enc (p m)).length = 9:=VD.lens m hAN;have hsB:(enc (p B)).length = 9:=VD.lens B hBN;have rdA:=VD.each m hAN;have rdB:=VD.each B hBN;obtain ⟨cA,hcA⟩:∃ c,c = enc (p m):=⟨_,rfl⟩;obtain ⟨cB,hcB⟩:∃ c,c = enc (p B):=⟨_,rfl⟩;rw [← hcA] at rgA hsA;rw [← hcB] at rgB hsB;have CC0:=byNumbers_is _ _ _ _ hi hi wr.drew rdA rdB;rw [← hcA,← hcB] at CC0;obtain ⟨c,hc⟩:∃ c:Int,c = numC (x0 (p m)) (x0 (p B)):=⟨_,rfl⟩;rw [← hc] at CC0;have HCN:Hid (c = numC (x0 (p m)) (x0 (p B))):=hc
      have CC:Calls Tryz.prog 114 (#[.agg cA.toArray,.agg cB.toArray] ++ #[]) wr.drew fun e w' => e = .returned (.int .i64 c) ∧ Below wr.drew.heap.size wr.drew w':=by rw [Array.append_empty];exact CC0
      have HVD:Hid (RowsV x0 enc N blk cap lo hi wr.drew p):=VD;clear CC0 hc hcA hcB rdA rdB hB VD V HV
      go_upto_region 17 with fail
      try rw [e1]
      refine wp_region_M 9 (fun w' => w'.rangeAt blk (m * 9) cA ∧ w'.rangeAt blk (B * 9) cB) mixedO ⟨rgA,rgB⟩ (fun hHeld => ?_);refine wpAnyM_pure (i:=0) (oi:=_) (v:=?_) rfl (by kernel_rfl) (fun _ _ _ h => h) (Or.inl ⟨by kernel_rfl,?_⟩) (by assumption) ?_
      rotate_left
      · intro w' hSw;go_simp;try with_reducible rfl
      try simp only [Act.put,SL]
      refine wpAnyM_pure (i:=1) (oi:=_) (v:=?_) rfl (by kernel_rfl) (fun _ _ _ h => h) (Or.inl ⟨by kernel_rfl,?_⟩) (by assumption) ?_
      rotate_left
      · intro w' hSw;go_simp;try with_reducible rfl
      try simp only [Act.put,SL]
      refine wpAnyM_pure (i:=2) (oi:=_) (v:=?_) rfl (by kernel_rfl) (fun _ _ _ h => h) (Or.inl ⟨by kernel_rfl,?_⟩) (by assumption) ?_
      rotate_left
      · intro w' hSw;go_simp;try with_reducible rfl
      try simp only [Act.put,SL]
      refine wpAnyM_pure (i:=3) (oi:=_) (v:=?_) rfl (by kernel_rfl) (fun _ _ _ h => h) (Or.inl ⟨by kernel_rfl,?_⟩) (by assumption) ?_
      rotate_left
      · intro w' hSw;go_simp;try with_reducible rfl
      try simp only [Act.put,SL]
      refine wpAnyM_take (i:=4) (oi:=_) (v:=.agg cA.toArray) 16 rfl (by kernel_rfl) (fun _ _ _ h => h) (yieldsIf_load_mid (by kernel_rfl) 58 (.tmp 95) rfl blk (m * 9) (by simp [Act.eval,Act.put]) cA _ (fun w h => h.1) Tryz.underlying58 rfl (info_Rec9 hsA)) (by assumption) ?_
      try simp only [Act.put,SL]
      refine wpAnyM_pure (i:=5) (oi:=_) (v:=?_) rfl (by kernel_rfl) (fun _ _ _ h => h) (Or.inl ⟨by kernel_rfl,?_⟩) (by assumption) ?_
      rotate_left
      · intro w' hSw;go_simp;try with_reducible rfl
      try simp only [Act.put,SL]
      refine wpAnyM_pure (i:=6) (oi:=_) (v:=?_) rfl (by kernel_rfl) (fun _ _ _ h => h) (Or.inl ⟨by kernel_rfl,?_⟩) (by assumption) ?_
      rotate_left
      · intro w' hSw;go_simp;try with_reducible rfl
      try simp only [Act.put,SL]
      refine wpAnyM_pure (i:=7) (oi:=_) (v:=?_) rfl (by kernel_rfl) (fun _ _ _ h => h) (Or.inl ⟨by kernel_rfl,?_⟩) (by assumption) ?_
      rotate_left
      · intro w' hSw;go_simp;try with_reducible rfl
      try simp only [Act.put,SL]
      refine wpAnyM_take (i:=8) (oi:=_) (v:=.agg cB.toArray) 16 rfl (by kernel_rfl) (fun _ _ _ h => h) (yieldsIf_load_mid (by kernel_rfl) 58 (.tmp 99) rfl blk (B * 9) (by simp [Act.eval,Act.put]) cB _ (fun w h => h.2) Tryz.underlying58 rfl (info_Rec9 hsB)) (by assumption) ?_
      try simp only [Act.put,SL]
      refine wpAnyM_one (i:=9) (o:=_) rfl (by kernel_rfl) (by kernel_rfl) (fun KC hKC => ?_);refine step_callv (by kernel_rfl) (.tmp 92) 114 #[] _ _ rfl (by simp [Act.eval,Act.put]) #[.agg cA.toArray,.agg cB.toArray] (by simp [Act.eval,Act.put]) Tryz.func114 (by kernel_rfl) (by kernel_rfl) CC ?_;rintro ee w5 ⟨rfl,b5⟩;refine ⟨_,rfl,?_⟩;refine hKC _ _ ?_;clear hKC KC
      try simp only [Act.put,SL]
      refine wpAnyM_pureL (i:=10) (oi:=_) (v:=?_) rfl (by kernel_rfl) (fun _ _ _ h => h) (Or.inl ⟨by kernel_rfl,?_⟩) ?_
      rotate_left
      · intro w' hSw;go_simp;try with_reducible rfl
      try simp only [Act.put,SL]
      obtain ⟨dd,hdd⟩:∃ d:Bool,d = decide (c < 0):=⟨_,rfl⟩;have HDD:Hid (dd = decide (c < 0)):=hdd;rw [← hdd];clear hdd;refine wpAnyM_pureL (i:=11) (oi:=_) (v:=?_) rfl (by kernel_rfl) (fun _ _ _ h => h) (Or.inl ⟨by kernel_rfl,?_⟩) ?_
      rotate_left
      · intro w' hSw;go_simp;try with_reducible rfl
      try simp only [Act.put,SL]
      refine wpAnyM_done (by kernel_rfl) ?_ _;have HV5:Hid (RowsV x0 enc N blk cap lo hi w5 p):=View.below HVD.out b5 (by show hi ≤ wr.heap.size;omega);have HC5:Hid (ChgL [blk] w w5):=HC.out.trans ((ChgL.of_below ⟨rfl,rfl,rfl,Nat.le_refl _,fun _ _ => rfl⟩:ChgL [blk] wr wr.drew).trans (ChgL.of_below b5));clear HVD HC rgA rgB hsA hsB b5 hHeld CC hsz
      cases dd
      · go_wp2
        go_roundw
        case rel =>
          refine ⟨B + 1,j,by omega,by omega,by omega,by go_num,rfl,HV5.out,fun k k1 k2 => ?_,HR.out,HC5.out⟩
          have h2:¬ c < 0:=by simpa using HDD.out
          rw [HCN.out] at h2;have h3:=ask_no (HT.out B m (by omega) (by omega) (Nat.le_refl _) (by omega)) h2
          by_cases ck:k = B
          · rw [ck];exact h3
          · exact (numL_ord x0).trans (HS1.out k B k1 (by omega) (by omega)) h3
        case measure => simp [intOf];omega
      · go_wp2
        go_roundw
        case rel =>
          refine ⟨i,B,hmi,hBi,by omega,rfl,by go_num,HV5.out,HL.out,fun k k1 k2 => ?_,HC5.out⟩
          have h2:c < 0:=by simpa using HDD.out
          rw [HCN.out] at h2;have h3:=ask_yes h2
          by_cases ck:k = B
          · rw [ck];exact h3
          · exact (numL_ord x0).trans h3 (HS1.out B k (by omega) (by omega) k2)
        case measure => simp [intOf];omega
    · obtain rfl:i = j:=by omega
      clear V hij;go_wp2
      go_loopw [17] (fun vk wr => ∃ k:Nat,i ≤ k ∧ k ≤ m ∧ vk = .int .i64 k ∧ RowsV x0 enc N blk cap lo hi wr (fun x => p (Sym.rot k m (m + 1) x)) ∧ ChgL [blk] w wr) (fun vk _ => (intOf vk).toNat)
      case atStart => exact ⟨m,hjb,Nat.le_refl _,by go_num,HV.out.same (fun x _ => by rw [rot2_zero]),HC.out⟩
      case round =>
        obtain ⟨A,haA,hAe,rfl,V,C⟩:=hrel;have HCr:Hid (ChgL [blk] w wr):=C;clear C
        by_cases hlt:i < A
        · have t2:(i:Int) < (A:Int):=by omega
          obtain ⟨q,hq⟩:∃ q:Nat → Nat,q = fun x => p (Sym.rot A m (m + 1) x):=⟨_,rfl⟩;have HQ:Hid (q = fun x => p (Sym.rot A m (m + 1) x)):=hq
          have VQ:RowsV x0 enc N blk cap lo hi wr q:=by rw [hq];exact V
          obtain ⟨B,hB⟩:∃ B,A = B + 1:=⟨A - 1,by omega⟩;have HAB:Hid (A = B + 1):=hB
          have hAN:A < N:=by omega
          have hBN:B < N:=by omega
          have w4:IntKind.i64.wrap ((A:Int) - 1) = (B:Int):=by rw [IntKind.wrap_i64];omega
          have i1:(A:Int) < (N:Int):=by omega
          have i2:(B:Int) < (N:Int):=by omega
          have i3:(0:Int) ≤ (A:Int):=by omega
          have i4:(0:Int) ≤ (B:Int):=by omega
          have VD:=View.drew VQ;have rgA:wr.drew.rangeAt blk (A * 9) (enc (q A)):=VD.range hAN;have rgB:wr.drew.rangeAt blk (B * 9) (enc (q B)):=VD.range hBN;have hsA:(enc (q A)).length = 9:=VD.lens A hAN;have hsB:(enc (q B)).length = 9:=VD.lens B hBN
          have th1:wr.drew.there blk (A * 9) (enc (q B)).length:=by rw [hsB];exact VD.there hAN
          have th2:(wr.drew.setCells blk (A * 9) (enc (q B))).there blk (B * 9) (enc (q A)).length:=by rw [hsA];exact (VD.put (by decide) hlo hAN (VD.each B hBN)).there hBN
          have oneA:=rdOne_rec _ _ _ _ (VD.each A hAN);have oneB:=rdOne_rec _ _ _ _ (VD.each B hBN);have SW:=view_swap VD hlo hAN hBN;have HSW:Hid (RowsV x0 enc N blk cap lo hi ((wr.drew.setCells blk (A * 9) (enc (q B))).setCells blk (B * 9) (enc (q A))) (fun k => q (Sym.swp A B k))):=SW.1;have HSC:Hid (ChgL [blk] wr ((wr.drew.setCells blk (A * 9) (enc (q B))).setCells blk (B * 9) (enc (q A)))):=(ChgL.of_below ⟨rfl,rfl,rfl,Nat.le_refl _,fun _ _ => rfl⟩:ChgL [blk] wr wr.drew).trans SW.2;obtain ⟨cA,hcA⟩:∃ c,c = enc (q A):=⟨_,rfl⟩;obtain ⟨cB,hcB⟩:∃ c,c = enc (q B):=⟨_,rfl⟩;rw [← hcA] at rgA th2 hsA oneA HSW HSC;rw [← hcB] at rgB th1 th2 hsB oneB HSW HSC;clear hcA hcB VD SW;clear hq hB V VQ
          go_upto_region 23 with fail
          refine wp_region_M 15 (fun w' => w'.rangeAt blk (A * 9) cA ∧ w'.rangeAt blk (B * 9) cB) mixedO ⟨rgA,rgB⟩ (fun hHeld => ?_);refine wpAnyM_pure (i:=0) (oi:=_) (v:=?_) rfl (by kernel_rfl) (fun _ _ _ h => h) (Or.inl ⟨by rfl,?_⟩) (by assumption) ?_
          rotate_left
          · intro w' hSw;go_simp;try with_reducible rfl
          try simp only [Act.put,SL]
          refine wpAnyM_pure (i:=1) (oi:=_) (v:=?_) rfl (by kernel_rfl) (fun _ _ _ h => h) (Or.inl ⟨by rfl,?_⟩) (by assumption) ?_
          rotate_left
          · intro w' hSw;go_simp;try with_reducible rfl
          try simp only [Act.put,SL]
          refine wpAnyM_pure (i:=2) (oi:=_) (v:=?_) rfl (by kernel_rfl) (fun _ _ _ h => h) (Or.inl ⟨by rfl,?_⟩) (by assumption) ?_
          rotate_left
          · intro w' hSw;go_simp;try with_reducible rfl
          try simp only [Act.put,SL]
          refine wpAnyM_pure (i:=3) (oi:=_) (v:=?_) rfl (by kernel_rfl) (fun _ _ _ h => h) (Or.inl ⟨by rfl,?_⟩) (by assumption) ?_
          rotate_left
          · intro w' hSw;go_simp;try with_reducible rfl
          try simp only [Act.put,SL]
          refine wpAnyM_pure (i:=4) (oi:=_) (v:=?_) rfl (by kernel_rfl) (fun _ _ _ h => h) (Or.inl ⟨by rfl,?_⟩) (by assumption) ?_
          rotate_left
          · intro w' hSw;go_simp;try with_reducible rfl
          try simp only [Act.put,SL]
          refine wpAnyM_pure (i:=5) (oi:=_) (v:=?_) rfl (by kernel_rfl) (fun _ _ _ h => h) (Or.inl ⟨by rfl,?_⟩) (by assumption) ?_
          rotate_left
          · intro w' hSw;go_simp;try with_reducible rfl
          try simp only [Act.put,SL]
          refine wpAnyM_pure (i:=6) (oi:=_) (v:=?_) rfl (by kernel_rfl) (fun _ _ _ h => h) (Or.inl ⟨by rfl,?_⟩) (by assumption) ?_
          rotate_left
          · intro w' hSw;go_simp;try with_reducible rfl
          try simp only [Act.put,SL]
          refine wpAnyM_pure (i:=7) (oi:=_) (v:=?_) rfl (by kernel_rfl) (fun _ _ _ h => h) (Or.inl ⟨by rfl,?_⟩) (by assumption) ?_
          rotate_left
          · intro w' hSw;go_simp;try with_reducible rfl
          try simp only [Act.put,SL]
          refine wpAnyM_pure (i:=8) (oi:=_) (v:=?_) rfl (by kernel_rfl) (fun _ _ _ h => h) (Or.inl ⟨by rfl,?_⟩) (by assumption) ?_
          rotate_left
          · intro w' hSw;go_simp;try with_reducible rfl
          try simp only [Act.put,SL]
          refine wpAnyM_take (i:=9) (oi:=_) (v:=.agg cB.toArray) 16 rfl (by kernel_rfl) (fun _ _ _ h => h) (yieldsIf_load_mid (by rfl) 58 (.tmp 121) rfl blk (B * 9) (by simp [Act.eval,Act.put]) cB _ (fun w h => h.2) Tryz.underlying58 rfl (info_Rec9 hsB)) (by assumption) ?_
          try simp only [Act.put,SL]
          refine wpAnyM_pure (i:=10) (oi:=_) (v:=?_) rfl (by kernel_rfl) (fun _ _ _ h => h) (Or.inl ⟨by rfl,?_⟩) (by assumption) ?_
          rotate_left
          · intro w' hSw;go_simp;try with_reducible rfl
          try simp only [Act.put,SL]
          refine wpAnyM_pure (i:=11) (oi:=_) (v:=?_) rfl (by kernel_rfl) (fun _ _ _ h => h) (Or.inl ⟨by rfl,?_⟩) (by assumption) ?_
          rotate_left
          · intro w' hSw;go_simp;try with_reducible rfl
          try simp only [Act.put,SL]
          refine wpAnyM_pure (i:=12) (oi:=_) (v:=?_) rfl (by kernel_rfl) (fun _ _ _ h => h) (Or.inl ⟨by rfl,?_⟩) (by assumption) ?_
          rotate_left
          · intro w' hSw;go_simp;try with_reducible rfl
          try simp only [Act.put,SL]
          refine wpAnyM_take (i:=13) (oi:=_) (v:=.agg cA.toArray) 16 rfl (by kernel_rfl) (fun _ _ _ h => h) (yieldsIf_load_mid (by rfl) 58 (.tmp 125) rfl blk (A * 9) (by simp [Act.eval,Act.put]) cA _ (fun w h => h.1) Tryz.underlying58 rfl (info_Rec9 hsA)) (by assumption) ?_
          try simp only [Act.put,SL]
          refine wpAnyM_pure (i:=14) (oi:=_) (v:=?_) rfl (by kernel_rfl) (fun _ _ _ h => h) (Or.inl ⟨by rfl,?_⟩) (by assumption) ?_
          rotate_left
          · intro w' hSw;go_simp;try with_reducible rfl
          try simp only [Act.put,SL]
          refine wpAnyM_store (i:=15) rfl (by kernel_rfl) (by kernel_rfl) rfl rfl 58 (.tmp 127) (.tmp 122) rfl blk (A * 9) cB (by simp [Act.eval]) (by simp [Act.eval]) th1 (info_Rec9 hsB) oneB ?_;refine wpAnyM_pureL (i:=16) (oi:=_) (v:=?_) rfl (by kernel_rfl) (fun _ _ _ h => h) (Or.inl ⟨by rfl,?_⟩) ?_
          rotate_left
          · intro w' hSw;go_simp;try with_reducible rfl
          try simp only [Act.put,SL]
          refine wpAnyM_store (i:=17) rfl (by kernel_rfl) (by kernel_rfl) rfl rfl 58 (.tmp 128) (.tmp 126) rfl blk (B * 9) cA (by simp [Act.eval]) (by simp [Act.eval]) th2 (info_Rec9 hsA) oneA ?_;refine wpAnyM_done (by kernel_rfl) ?_ _;go_wp2
          go_roundw
          case rel =>
            have hAB:=HAB.out
            have e9:∀ x,q (Sym.swp A B x) = p (Sym.rot B m (m + 1) x):=fun x => by
              rw [HQ.out,hAB]
              show p (Sym.rot (B + 1) m (m + 1) (Sym.swp (B + 1) B x)) = _
              rw [rot2_step m B x (by omega)]
            exact ⟨B,by omega,by omega,by go_num,HSW.out.same (fun x _ => e9 x),HCr.out.trans HSC.out⟩
          case measure => have hAB:=HAB.out;simp [intOf];omega
        · obtain rfl:A = i:=by omega
          have HVA:Hid (RowsV x0 enc N blk cap lo hi wr (fun x => p (Sym.rot A m (m + 1) x))):=V;clear V;go_wp2;refine bodyPost_ret (results_none rfl _ _ _) rfl ?_;have M:=merge2 (p:=p) (a:=a) (m:=m) (i:=A) hmi (by omega) HS1.out (fun k h3 h4 => HL.out k h3 h4) (fun k h3 h4 => HR.out k h3 h4);rw [← HM.out] at M;exact ⟨rfl,_,by rw [← HM.out] at HVA;exact HVA.out,M.2,M.1,HCr.out⟩
end Go.Proofs.YtodedamnclhbnaaGreat
namespace Go.Proofs.YtodedamnclhbnaaGreat
open Go.RowKit F256
theorem rot_id1 (m e x:Nat):Sym.rot m m e x = x:=by
  unfold Sym.rot
  repeat' split
  all_goals omega
theorem rot_id2 (s m x:Nat):Sym.rot s m m x = x:=by
  unfold Sym.rot
  repeat' split
  all_goals omega
theorem rot_a {s m e x:Nat} (h:x < s):Sym.rot s m e x = x:=by
  unfold Sym.rot
  repeat' split
  all_goals omega
theorem rot_b {s m e x:Nat} (h:e ≤ x):Sym.rot s m e x = x:=by
  unfold Sym.rot
  repeat' split
  all_goals omega
theorem rot_c {s m e mid x:Nat} (hm:mid + m = s + e) (h1:s ≤ m) (h2:m ≤ e) (h3:s ≤ x) (h4:x < mid):m ≤ Sym.rot s m e x ∧ Sym.rot s m e x < e:=by
  unfold Sym.rot
  repeat' split
  all_goals omega
theorem rot_d {s m e mid x:Nat} (hm:mid + m = s + e) (h1:s ≤ m) (h2:m ≤ e) (h3:mid ≤ x) (h4:x < e):s ≤ Sym.rot s m e x ∧ Sym.rot s m e x < m:=by
  unfold Sym.rot
  repeat' split
  all_goals omega
set_option maxHeartbeats 16000000 in
set_option maxRecDepth 1000000 in
theorem symMerge_3a (x0:Nat → RecD) (enc:Nat → List Value) (p:Nat → Nat) (N blk cap lo hi:Nat) (w:World) (V:RowsV x0 enc N blk cap lo hi w p) (hlo:hi ≤ lo) (hN:N < 1000000000) (a m b mid:Nat) (ham:a < m) (hmb:m < b) (hb:b ≤ N) (htag:∀ i j,a ≤ i → i < m → m ≤ j → j < b → p i < p j) (hs1:Sym.Srt (numL x0) p a m) (hs2:Sym.Srt (numL x0) p m b) (h0:m ≠ a + 1) (h1:b ≠ m + 1) (hmid:mid = (a + b) / 2) (hx:mid < m) (IH:∀ (p':Nat → Nat) (w':World) (a' m' b':Nat),b' - a' < b - a → RowsV x0 enc N blk cap lo hi w' p' → a' < m' → m' < b' → b' ≤ N → (∀ i j,a' ≤ i → i < m' → m' ≤ j → j < b' → p' i < p' j) → Sym.Srt (numL x0) p' a' m' → Sym.Srt (numL x0) p' m' b' → Calls Tryz.prog 161 #[.slice (some ⟨blk,0,none⟩) N cap,.int .i64 a',.int .i64 m',.int .i64 b',.func (.func 114) #[] #[]] w' (fun e w'' => e = .returned (.tuple #[]) ∧ ∃ q,RowsV x0 enc N blk cap lo hi w'' q ∧ Sym.Re a' b' p' q ∧ Sym.Srt (numL x0) q a' b' ∧ ChgL [blk] w' w'')) :
    Calls Tryz.prog 161 #[.slice (some ⟨blk,0,none⟩) N cap,.int .i64 a,.int .i64 m,.int .i64 b,.func (.func 114) #[] #[]] w (fun e w' => e = .returned (.tuple #[]) ∧ ∃ q,RowsV x0 enc N blk cap lo hi w' q ∧ Sym.Re a b p q ∧ Sym.Srt (numL x0) q a b ∧ ChgL [blk] w w'):=by
  have HV0:Hid (RowsV x0 enc N blk cap lo hi w p):=V;have HT:Hid (∀ i j,a ≤ i → i < m → m ≤ j → j < b → p i < p j):=htag;have HS1:Hid (Sym.Srt (numL x0) p a m):=hs1;have HS2:Hid (Sym.Srt (numL x0) p m b):=hs2;have HIH:Hid (∀ (p':Nat → Nat) (w':World) (a' m' b':Nat),b' - a' < b - a → RowsV x0 enc N blk cap lo hi w' p' → a' < m' → m' < b' → b' ≤ N → (∀ i j,a' ≤ i → i < m' → m' ≤ j → j < b' → p' i < p' j) → Sym.Srt (numL x0) p' a' m' → Sym.Srt (numL x0) p' m' b' → Calls Tryz.prog 161 #[.slice (some ⟨blk,0,none⟩) N cap,.int .i64 a',.int .i64 m',.int .i64 b',.func (.func 114) #[] #[]] w' (fun e w'' => e = .returned (.tuple #[]) ∧ ∃ q,RowsV x0 enc N blk cap lo hi w'' q ∧ Sym.Re a' b' p' q ∧ Sym.Srt (numL x0) q a' b' ∧ ChgL [blk] w' w'')):=IH;have HMID:Hid (mid = (a + b) / 2):=hmid;obtain ⟨D,hD⟩:∃ D,D = m - a:=⟨_,rfl⟩
  have w0:IntKind.i64.wrap ((m:Int) - (a:Int)) = (D:Int):=by rw [IntKind.wrap_i64];omega
  have d0:((D:Int) == 1) = false:=by simp;omega
  obtain ⟨E,hE⟩:∃ E,E = b - m:=⟨_,rfl⟩
  have w9:IntKind.i64.wrap ((b:Int) - (m:Int)) = (E:Int):=by rw [IntKind.wrap_i64];omega
  have d9:((E:Int) == 1) = false:=by simp;omega
  have w1:IntKind.i64.wrap ((a:Int) + (b:Int)) = ((a + b:Nat):Int):=by rw [IntKind.wrap_i64];omega
  have e1:((a:Int) + (b:Int)) / 2 = (mid:Int):=by omega
  obtain ⟨n,hn⟩:∃ n,n = mid + m:=⟨_,rfl⟩
  have w2:IntKind.i64.wrap ((mid:Int) + (m:Int)) = (n:Int):=by rw [IntKind.wrap_i64];omega
  obtain ⟨P,hP⟩:∃ P,n = P + 1:=⟨n - 1,by omega⟩
  have w3:IntKind.i64.wrap ((n:Int) - 1) = (P:Int):=by rw [IntKind.wrap_i64];omega
  obtain ⟨S0,hS0⟩:∃ S0,S0 = n - b:=⟨_,rfl⟩;obtain ⟨R0,hR0⟩:∃ R0,R0 = mid:=⟨_,rfl⟩
  have x1:(mid:Int) < (m:Int):=by omega
  have x2:IntKind.i64.wrap ((n:Int) - (b:Int)) = (S0:Int):=by rw [IntKind.wrap_i64];omega
  have F:a ≤ S0 ∧ n ≤ S0 + b ∧ (S0 = a ∨ n = S0 + b) ∧ S0 ≤ R0 ∧ R0 ≤ m ∧ R0 ≤ mid ∧ (R0 = m ∨ R0 = mid):=by omega
  have HF:Hid (a ≤ S0 ∧ n ≤ S0 + b ∧ (S0 = a ∨ n = S0 + b) ∧ S0 ≤ R0 ∧ R0 ≤ m ∧ R0 ≤ mid ∧ (R0 = m ∨ R0 = mid)):=F;have HN:Hid (n = mid + m ∧ n = P + 1):=⟨hn,hP⟩;have HSR:Hid (S0 = n - b ∧ R0 = mid):=⟨hS0,hR0⟩;clear V htag hs1 hs2 h0 h1 hD hE IH hmid hn hP hS0 hR0 F
  go_enter Tryz.func161,Tryz.ntmps161
  go_wp2
  go_loopw [20,21] (fun vi vj wr => ∃ (i j:Nat),S0 ≤ i ∧ i ≤ j ∧ j ≤ R0 ∧ vi = .int .i64 i ∧ vj = .int .i64 j ∧ RowsV x0 enc N blk cap lo hi wr p ∧ (i = S0 ∨ numL x0 (p (i - 1)) (p (n - i))) ∧ (j = R0 ∨ numL x0 (p (P - j)) (p j)) ∧ ChgL [blk] w wr) (fun vi vj _ => (intOf vj).toNat - (intOf vi).toNat)
  case atStart => exact ⟨S0,R0,Nat.le_refl _,HF.out.2.2.2.1,Nat.le_refl _,by have:=HSR.out;go_num,by have:=HSR.out;go_num,HV0.out,.inl rfl,.inl rfl,ChgL.refl _ _⟩
  case round =>
    obtain ⟨i,j,hmi,hij,hjb,rfl,rfl,V,hL,hR,C⟩:=hrel;have HC:Hid (ChgL [blk] w wr):=C;have HL:Hid (i = S0 ∨ numL x0 (p (i - 1)) (p (n - i))):=hL;have HR:Hid (j = R0 ∨ numL x0 (p (P - j)) (p j)):=hR;have HV:Hid (RowsV x0 enc N blk cap lo hi wr p):=V;clear C hL hR w0 w9 d0 d9 w1 e1 w2 w3
    by_cases hlt:i < j
    · have t1:(i:Int) < (j:Int):=by omega
      obtain ⟨B,hB⟩:∃ B,B = (i + j) / 2:=⟨_,rfl⟩
      have w1:IntKind.i64.wrap ((i:Int) + (j:Int)) = ((i + j:Nat):Int):=by rw [IntKind.wrap_i64];have:=HF.out;omega
      have e1:((i:Int) + (j:Int)) / 2 = (B:Int):=by omega
      have hBi:i ≤ B:=by omega
      have hBj:B < j:=by omega
      obtain ⟨A,hA⟩:∃ A,A = P - B:=⟨_,rfl⟩;have hF:=HF.out;have hNN:=HN.out;have hMID:=HMID.out
      have hAm:m ≤ A ∧ A < b:=by omega
      have HAP:Hid (A + B = P):=(by omega:A + B = P)
      have w4:IntKind.i64.wrap ((P:Int) - (B:Int)) = (A:Int):=by rw [IntKind.wrap_i64];omega
      have hAN:A < N:=by omega
      have hBN:B < N:=by omega
      have i1:(A:Int) < (N:Int):=by omega
      have i2:(B:Int) < (N:Int):=by omega
      have i3:(0:Int) ≤ (A:Int):=by omega
      have i4:(0:Int) ≤ (B:Int):=by omega
      have hsz:=(V.row.lt blk rfl);have HTG:Hid (p B < p A):=HT.out B A (by omega) (by omega) (by omega) (by omega);have VD:=View.drew V;have rgA:wr.drew.rangeAt blk (A * 9) (enc (p A)):=VD.range hAN;have rgB:wr.drew.rangeAt blk (B * 9) (enc (p B)):=VD.range hBN;have hsA:(enc (p A)).length = 9:=VD.lens A hAN;have hsB:(enc (p B)).length = 9:=VD.lens B hBN;have rdA:=VD.each A hAN;have rdB:=VD.each B hBN;obtain ⟨cA,hcA⟩:∃ c,c = enc (p A):=⟨_,rfl⟩;obtain ⟨cB,hcB⟩:∃ c,c = enc (p B):=⟨_,rfl⟩;rw [← hcA] at rgA hsA;rw [← hcB] at rgB hsB;have CC0:=byNumbers_is _ _ _ _ hi hi wr.drew rdA rdB;rw [← hcA,← hcB] at CC0;obtain ⟨c,hc⟩:∃ c:Int,c = numC (x0 (p A)) (x0 (p B)):=⟨_,rfl⟩;rw [← hc] at CC0;have HCN:Hid (c = numC (x0 (p A)) (x0 (p B))):=hc
      have CC:Calls Tryz.prog 114 (#[.agg cA.toArray,.agg cB.toArray] ++ #[]) wr.drew fun e w' => e = .returned (.int .i64 c) ∧ Below wr.drew.heap.size wr.drew w':=by rw [Array.append_empty];exact CC0
      have HVD:Hid (RowsV x0 enc N blk cap lo hi wr.drew p):=VD;clear CC0 hc hcA hcB rdA rdB hB hA hF hNN hMID VD V HV
      go_upto_region 35 with fail
      try rw [e1]
      refine wp_region_M 11 (fun w' => w'.rangeAt blk (A * 9) cA ∧ w'.rangeAt blk (B * 9) cB) mixedO ⟨rgA,rgB⟩ (fun hHeld => ?_);refine wpAnyM_pure (i:=0) (oi:=_) (v:=?_) rfl (by kernel_rfl) (fun _ _ _ h => h) (Or.inl ⟨by kernel_rfl,?_⟩) (by assumption) ?_
      rotate_left
      · intro w' hSw;go_simp;try with_reducible rfl
      try simp only [Act.put,SL]
      refine wpAnyM_pure (i:=1) (oi:=_) (v:=?_) rfl (by kernel_rfl) (fun _ _ _ h => h) (Or.inl ⟨by kernel_rfl,?_⟩) (by assumption) ?_
      rotate_left
      · intro w' hSw;go_simp;try with_reducible rfl
      try simp only [Act.put,SL]
      refine wpAnyM_pure (i:=2) (oi:=_) (v:=?_) rfl (by kernel_rfl) (fun _ _ _ h => h) (Or.inl ⟨by kernel_rfl,?_⟩) (by assumption) ?_
      rotate_left
      · intro w' hSw;go_simp;try with_reducible rfl
      try simp only [Act.put,SL]
      refine wpAnyM_pure (i:=3) (oi:=_) (v:=?_) rfl (by kernel_rfl) (fun _ _ _ h => h) (Or.inl ⟨by kernel_rfl,?_⟩) (by assumption) ?_
      rotate_left
      · intro w' hSw;go_simp;try with_reducible rfl
      try simp only [Act.put,SL]
      refine wpAnyM_pure (i:=4) (oi:=_) (v:=?_) rfl (by kernel_rfl) (fun _ _ _ h => h) (Or.inl ⟨by kernel_rfl,?_⟩) (by assumption) ?_
      rotate_left
      · intro w' hSw;go_simp;try with_reducible rfl
      try simp only [Act.put,SL]
      refine wpAnyM_pure (i:=5) (oi:=_) (v:=?_) rfl (by kernel_rfl) (fun _ _ _ h => h) (Or.inl ⟨by kernel_rfl,?_⟩) (by assumption) ?_
      rotate_left
      · intro w' hSw;go_simp;try with_reducible rfl
      try simp only [Act.put,SL]
      refine wpAnyM_take (i:=6) (oi:=_) (v:=.agg cA.toArray) 16 rfl (by kernel_rfl) (fun _ _ _ h => h) (yieldsIf_load_mid (by kernel_rfl) 58 (.tmp 163) rfl blk (A * 9) (by simp [Act.eval,Act.put]) cA _ (fun w h => h.1) Tryz.underlying58 rfl (info_Rec9 hsA)) (by assumption) ?_
      try simp only [Act.put,SL]
      refine wpAnyM_pure (i:=7) (oi:=_) (v:=?_) rfl (by kernel_rfl) (fun _ _ _ h => h) (Or.inl ⟨by kernel_rfl,?_⟩) (by assumption) ?_
      rotate_left
      · intro w' hSw;go_simp;try with_reducible rfl
      try simp only [Act.put,SL]
      refine wpAnyM_pure (i:=8) (oi:=_) (v:=?_) rfl (by kernel_rfl) (fun _ _ _ h => h) (Or.inl ⟨by kernel_rfl,?_⟩) (by assumption) ?_
      rotate_left
      · intro w' hSw;go_simp;try with_reducible rfl
      try simp only [Act.put,SL]
      refine wpAnyM_pure (i:=9) (oi:=_) (v:=?_) rfl (by kernel_rfl) (fun _ _ _ h => h) (Or.inl ⟨by kernel_rfl,?_⟩) (by assumption) ?_
      rotate_left
      · intro w' hSw;go_simp;try with_reducible rfl
      try simp only [Act.put,SL]
      refine wpAnyM_take (i:=10) (oi:=_) (v:=.agg cB.toArray) 16 rfl (by kernel_rfl) (fun _ _ _ h => h) (yieldsIf_load_mid (by kernel_rfl) 58 (.tmp 167) rfl blk (B * 9) (by simp [Act.eval,Act.put]) cB _ (fun w h => h.2) Tryz.underlying58 rfl (info_Rec9 hsB)) (by assumption) ?_
      try simp only [Act.put,SL]
      refine wpAnyM_one (i:=11) (o:=_) rfl (by kernel_rfl) (by kernel_rfl) (fun KC hKC => ?_);refine step_callv (by kernel_rfl) (.tmp 158) 114 #[] _ _ rfl (by simp [Act.eval,Act.put]) #[.agg cA.toArray,.agg cB.toArray] (by simp [Act.eval,Act.put]) Tryz.func114 (by kernel_rfl) (by kernel_rfl) CC ?_;rintro ee w5 ⟨rfl,b5⟩;refine ⟨_,rfl,?_⟩;refine hKC _ _ ?_;clear hKC KC
      try simp only [Act.put,SL]
      refine wpAnyM_pureL (i:=12) (oi:=_) (v:=?_) rfl (by kernel_rfl) (fun _ _ _ h => h) (Or.inl ⟨by kernel_rfl,?_⟩) ?_
      rotate_left
      · intro w' hSw;go_simp;try with_reducible rfl
      try simp only [Act.put,SL]
      obtain ⟨dd,hdd⟩:∃ d:Bool,d = decide (c < 0):=⟨_,rfl⟩;have HDD:Hid (dd = decide (c < 0)):=hdd;rw [← hdd];clear hdd;refine wpAnyM_pureL (i:=13) (oi:=_) (v:=?_) rfl (by kernel_rfl) (fun _ _ _ h => h) (Or.inl ⟨by kernel_rfl,?_⟩) ?_
      rotate_left
      · intro w' hSw;go_simp;try with_reducible rfl
      try simp only [Act.put,SL]
      refine wpAnyM_done (by kernel_rfl) ?_ _;have HV5:Hid (RowsV x0 enc N blk cap lo hi w5 p):=View.below HVD.out b5 (by show hi ≤ wr.heap.size;omega);have HC5:Hid (ChgL [blk] w w5):=HC.out.trans ((ChgL.of_below ⟨rfl,rfl,rfl,Nat.le_refl _,fun _ _ => rfl⟩:ChgL [blk] wr wr.drew).trans (ChgL.of_below b5));clear HVD HC rgA rgB hsA hsB b5 hHeld CC hsz
      cases dd
      · go_wp2
        go_roundw
        case rel =>
          refine ⟨B + 1,j,by omega,by omega,by omega,by go_num,rfl,HV5.out,.inr ?_,HR.out,HC5.out⟩
          have h2:¬ c < 0:=by simpa using HDD.out
          rw [HCN.out] at h2;rw [show B + 1 - 1 = B by omega,show n - (B + 1) = A by have h8:=HN.out;have h9:=HAP.out;omega];exact ask_no HTG.out h2
        case measure => simp [intOf];omega
      · go_wp2
        go_roundw
        case rel =>
          refine ⟨i,B,hmi,hBi,by omega,rfl,by go_num,HV5.out,HL.out,.inr ?_,HC5.out⟩
          have h2:c < 0:=by simpa using HDD.out
          rw [HCN.out] at h2;rw [show P - B = A by have h9:=HAP.out;omega];exact ask_yes h2
        case measure => simp [intOf];omega
    · obtain rfl:i = j:=by omega
      clear V hij;obtain ⟨e,he⟩:∃ e,e = n - i:=⟨_,rfl⟩;have hF:=HF.out;have hNN:=HN.out;have hMID:=HMID.out
      have hie:mid + m = i + e:=by omega
      have hae:a ≤ i ∧ i ≤ m ∧ m ≤ e ∧ e ≤ b ∧ i ≤ mid ∧ mid ≤ e:=by omega
      have w5:IntKind.i64.wrap ((n:Int) - (i:Int)) = (e:Int):=by rw [IntKind.wrap_i64];omega
      have SP:=Sym.split (numL_ord x0) (p:=p) (a:=a) (m:=m) (b:=b) (s:=i) (e:=e) (mid:=mid) HS1.out HS2.out hie hae.1 hae.2.1 hae.2.2.1 hae.2.2.2.1 (fun h3 h4 => by
        rcases HL.out with h5 | h5
        · omega
        · rw [← he] at h5;exact h5) (fun h3 h4 => by
        rcases HR.out with h5 | h5
        · omega
        · rw [show P - i = e - 1 by omega] at h5;exact h5)
      obtain ⟨q0,hq0⟩:∃ q0:Nat → Nat,q0 = fun k => p (Sym.rot i m e k):=⟨_,rfl⟩;have HQ0:Hid (q0 = fun k => p (Sym.rot i m e k)):=hq0;rw [← hq0] at SP;have HSa:Hid (Sym.Srt (numL x0) q0 a i):=SP.1;have HSb:Hid (Sym.Srt (numL x0) q0 i mid):=SP.2.1;have HSc:Hid (Sym.Srt (numL x0) q0 mid e):=SP.2.2.1;have HSd:Hid (Sym.Srt (numL x0) q0 e b):=SP.2.2.2.1;have HX:Hid (∀ x y,a ≤ x → x < mid → mid ≤ y → y < b → numL x0 (q0 x) (q0 y)):=(fun x y h3 h4 h5 h6 => by rw [hq0];exact SP.2.2.2.2 x y h3 h4 h5 h6:∀ x y,a ≤ x → x < mid → mid ≤ y → y < b → numL x0 (q0 x) (q0 y));have HRe0:Hid (Sym.Re a b p q0):=(by rw [hq0];exact (Sym.Re.rots p hae.2.1 hae.2.2.1).mono hae.1 hae.2.2.2.1:Sym.Re a b p q0);have HO:Hid (a ≤ mid ∧ mid ≤ b ∧ b ≤ N ∧ mid ≤ N ∧ a < mid ∧ mid < b ∧ e ≤ N):=⟨by omega,by omega,by omega,by omega,by omega,by omega,by omega⟩
      have HT2:Hid (∀ x y,a ≤ x → x < i → i ≤ y → y < mid → q0 x < q0 y):=(fun x y h3 h4 h5 h6 => by
        have h7:=rot_c (e:=e) hie hae.2.1 hae.2.2.1 h5 h6;rw [hq0]
        show p (Sym.rot i m e x) < p (Sym.rot i m e y)
        rw [rot_a h4]
        exact HT.out x _ h3 (by omega) h7.1 (by omega):∀ x y,a ≤ x → x < i → i ≤ y → y < mid → q0 x < q0 y)
      have HT3':Hid (∀ q1,Sym.Re a mid q0 q1 → ∀ x y,mid ≤ x → x < e → e ≤ y → y < b → q1 x < q1 y):=(fun q1 k x y h3 h4 h5 h6 => by
        have h7:=rot_d (e:=e) hie hae.2.1 hae.2.2.1 h3 h4;rw [k.out (.inr h3),k.out (.inr (by omega)),hq0]
        show p (Sym.rot i m e x) < p (Sym.rot i m e y)
        rw [rot_b h5]
        exact HT.out _ y (by omega) h7.2 (by omega) h6:∀ q1,Sym.Re a mid q0 q1 → ∀ x y,mid ≤ x → x < e → e ≤ y → y < b → q1 x < q1 y)
      have HT3:∀ {q1},Sym.Re a mid q0 q1 → ∀ x y,mid ≤ x → x < e → e ≤ y → y < b → q1 x < q1 y:=fun k => HT3'.out _ k;have HL3:∀ {q1},Sym.Re a mid q0 q1 → Sym.Srt (numL x0) q1 mid e:=fun k => HSc.out.congr (fun x h3 h4 => k.out (.inr h3));have HL4:∀ {q1},Sym.Re a mid q0 q1 → Sym.Srt (numL x0) q1 e b:=fun k => HSd.out.congr (fun x h3 h4 => k.out (.inr (by omega)))
      have HN1:¬ (i < m ∧ m < e) → ∀ x,p (Sym.rot i m e x) = p x:=fun h x => by
        by_cases h3:i = m
        · rw [h3,rot_id1]
        · have h4:e = m:=by omega
          rw [h4,rot_id2]
      have HN2:¬ (a < i ∧ i < mid) → Sym.Srt (numL x0) q0 a mid:=fun h => by
        by_cases h3:a = i
        · rw [h3];exact HSb.out
        · have h4:mid = i:=by omega
          rw [h4];exact HSa.out
      have HN3:∀ {q1},Sym.Re a mid q0 q1 → ¬ (mid < e ∧ e < b) → Sym.Srt (numL x0) q1 mid b:=fun k h => by
        by_cases h3:mid = e
        · rw [h3];rw [h3] at k;exact HSd.out.congr (fun x h3 h4 => k.out (.inr h3))
        · have h4:b = e:=by omega
          rw [h4];exact HL3 k
      clear hF hNN hMID SP hq0 he
      by_cases c1:i < m
      · by_cases c1b:m < e
        · have HK1:Hid (i < m ∧ m < e):=⟨c1,c1b⟩
          have f1:decide ((i:Int) < (m:Int)) = true:=decide_eq_true (by omega);have g1:decide (i < m) = true:=decide_eq_true (by omega)
          have u1:(i:Int) < (m:Int):=by omega
          have f1b:decide ((m:Int) < (e:Int)) = true:=decide_eq_true (by omega);have g1b:decide (m < e) = true:=decide_eq_true (by omega)
          have u1b:(m:Int) < (e:Int):=by omega
          have CS:=rotate_any x0 enc p N blk cap lo hi wr HV.out hlo hN i m e (.func (.func 114) #[] #[]) HK1.out.1 HK1.out.2 (by have h9:=HO.out;omega)
          go_wp2_with fail
          refine CS.mono ?_;rintro ee w6 ⟨rfl,V6,C6⟩;have HV1:Hid (RowsV x0 enc N blk cap lo hi w6 q0):=(by rw [HQ0.out];exact V6:RowsV x0 enc N blk cap lo hi w6 q0);have HC1:Hid (ChgL [blk] w w6):=HC.out.trans C6;clear V6 C6 CS
          by_cases c2:a < i
          · by_cases c2b:i < mid
            · have HK2:Hid (a < i ∧ i < mid):=⟨c2,c2b⟩
              have f2:decide ((a:Int) < (i:Int)) = true:=decide_eq_true (by omega);have g2:decide (a < i) = true:=decide_eq_true (by omega)
              have u2:(a:Int) < (i:Int):=by omega
              have f2b:decide ((i:Int) < (mid:Int)) = true:=decide_eq_true (by omega);have g2b:decide (i < mid) = true:=decide_eq_true (by omega)
              have u2b:(i:Int) < (mid:Int):=by omega
              have CS:=HIH.out q0 w6 a i mid (by have h9:=HO.out;omega) HV1.out HK2.out.1 HK2.out.2 HO.out.2.2.2.1 HT2.out HSa.out HSb.out
              go_wp2_with fail
              refine CS.mono ?_;rintro ee w7 ⟨rfl,q1,Vq,hRe1,hSo1,C7⟩;have HVq:Hid (RowsV x0 enc N blk cap lo hi w7 q1):=Vq;have HRe1:Hid (Sym.Re a mid q0 q1):=hRe1;have HSo1:Hid (Sym.Srt (numL x0) q1 a mid):=hSo1;have HCq:Hid (ChgL [blk] w w7):=HC1.out.trans C7;clear Vq hRe1 hSo1 C7 CS
              by_cases c3:mid < e
              · by_cases c3b:e < b
                · have HK3:Hid (mid < e ∧ e < b):=⟨c3,c3b⟩
                  have f3:decide ((mid:Int) < (e:Int)) = true:=decide_eq_true (by omega);have g3:decide (mid < e) = true:=decide_eq_true (by omega)
                  have u3:(mid:Int) < (e:Int):=by omega
                  have f3b:decide ((e:Int) < (b:Int)) = true:=decide_eq_true (by omega);have g3b:decide (e < b) = true:=decide_eq_true (by omega)
                  have u3b:(e:Int) < (b:Int):=by omega
                  have CS:=HIH.out q1 w7 mid e b (by have h9:=HO.out;omega) HVq.out HK3.out.1 HK3.out.2 HO.out.2.2.1 (HT3 HRe1.out) (HL3 HRe1.out) (HL4 HRe1.out)
                  go_wp2_with fail
                  refine CS.mono ?_;rintro ee w9 ⟨rfl,r,Vr,hRe2,hSo2,C9⟩;have HVr:Hid (RowsV x0 enc N blk cap lo hi w9 r):=Vr;have HRe2:Hid (Sym.Re mid b q1 r):=hRe2;have HSo2:Hid (Sym.Srt (numL x0) r mid b):=hSo2;have HCr:Hid (ChgL [blk] w w9):=HCq.out.trans C9;clear Vr hRe2 hSo2 C9 CS;go_wp2
                  go_end0
                  have hl:=Sym.halves HO.out.1 HO.out.2.1 HX.out HRe1.out HRe2.out HSo1.out HSo2.out;exact ⟨rfl,_,HVr.out,HRe0.out.trans hl.2,hl.1,HCr.out⟩
                · have HK3:Hid (¬ (mid < e ∧ e < b)):=fun h => c3b h.2
                  have f3:decide ((mid:Int) < (e:Int)) = true:=decide_eq_true (by omega);have g3:decide (mid < e) = true:=decide_eq_true (by omega)
                  have u3:(mid:Int) < (e:Int):=by omega
                  have f3b:decide ((e:Int) < (b:Int)) = false:=decide_eq_false (by omega);have g3b:decide (e < b) = false:=decide_eq_false (by omega);have HVr:Hid (RowsV x0 enc N blk cap lo hi w7 q1):=HVq.out;have HRe2:Hid (Sym.Re mid b q1 q1):=Sym.Re.refl _ _ _;have HSo2:Hid (Sym.Srt (numL x0) q1 mid b):=HN3 HRe1.out HK3.out;have HCr:Hid (ChgL [blk] w w7):=HCq.out;go_wp2
                  go_end0
                  have hl:=Sym.halves HO.out.1 HO.out.2.1 HX.out HRe1.out HRe2.out HSo1.out HSo2.out;exact ⟨rfl,_,HVr.out,HRe0.out.trans hl.2,hl.1,HCr.out⟩
              · have HK3:Hid (¬ (mid < e ∧ e < b)):=fun h => c3 h.1
                have f3:decide ((mid:Int) < (e:Int)) = false:=decide_eq_false (by omega);have g3:decide (mid < e) = false:=decide_eq_false (by omega);have HVr:Hid (RowsV x0 enc N blk cap lo hi w7 q1):=HVq.out;have HRe2:Hid (Sym.Re mid b q1 q1):=Sym.Re.refl _ _ _;have HSo2:Hid (Sym.Srt (numL x0) q1 mid b):=HN3 HRe1.out HK3.out;have HCr:Hid (ChgL [blk] w w7):=HCq.out;go_wp2
                go_end0
                have hl:=Sym.halves HO.out.1 HO.out.2.1 HX.out HRe1.out HRe2.out HSo1.out HSo2.out;exact ⟨rfl,_,HVr.out,HRe0.out.trans hl.2,hl.1,HCr.out⟩
            · have HK2:Hid (¬ (a < i ∧ i < mid)):=fun h => c2b h.2
              have f2:decide ((a:Int) < (i:Int)) = true:=decide_eq_true (by omega);have g2:decide (a < i) = true:=decide_eq_true (by omega)
              have u2:(a:Int) < (i:Int):=by omega
              have f2b:decide ((i:Int) < (mid:Int)) = false:=decide_eq_false (by omega);have g2b:decide (i < mid) = false:=decide_eq_false (by omega);obtain ⟨q1,hq1⟩:∃ q1,q1 = q0:=⟨_,rfl⟩;have HVq:Hid (RowsV x0 enc N blk cap lo hi w6 q1):=(by rw [hq1];exact HV1.out:RowsV x0 enc N blk cap lo hi w6 q1);have HRe1:Hid (Sym.Re a mid q0 q1):=(by rw [hq1];exact Sym.Re.refl _ _ _:Sym.Re a mid q0 q1);have HSo1:Hid (Sym.Srt (numL x0) q1 a mid):=(by rw [hq1];exact HN2 HK2.out:Sym.Srt (numL x0) q1 a mid);have HCq:Hid (ChgL [blk] w w6):=HC1.out;clear hq1
              by_cases c3:mid < e
              · by_cases c3b:e < b
                · have HK3:Hid (mid < e ∧ e < b):=⟨c3,c3b⟩
                  have f3:decide ((mid:Int) < (e:Int)) = true:=decide_eq_true (by omega);have g3:decide (mid < e) = true:=decide_eq_true (by omega)
                  have u3:(mid:Int) < (e:Int):=by omega
                  have f3b:decide ((e:Int) < (b:Int)) = true:=decide_eq_true (by omega);have g3b:decide (e < b) = true:=decide_eq_true (by omega)
                  have u3b:(e:Int) < (b:Int):=by omega
                  have CS:=HIH.out q1 w6 mid e b (by have h9:=HO.out;omega) HVq.out HK3.out.1 HK3.out.2 HO.out.2.2.1 (HT3 HRe1.out) (HL3 HRe1.out) (HL4 HRe1.out)
                  go_wp2_with fail
                  refine CS.mono ?_;rintro ee w9 ⟨rfl,r,Vr,hRe2,hSo2,C9⟩;have HVr:Hid (RowsV x0 enc N blk cap lo hi w9 r):=Vr;have HRe2:Hid (Sym.Re mid b q1 r):=hRe2;have HSo2:Hid (Sym.Srt (numL x0) r mid b):=hSo2;have HCr:Hid (ChgL [blk] w w9):=HCq.out.trans C9;clear Vr hRe2 hSo2 C9 CS;go_wp2
                  go_end0
                  have hl:=Sym.halves HO.out.1 HO.out.2.1 HX.out HRe1.out HRe2.out HSo1.out HSo2.out;exact ⟨rfl,_,HVr.out,HRe0.out.trans hl.2,hl.1,HCr.out⟩
                · have HK3:Hid (¬ (mid < e ∧ e < b)):=fun h => c3b h.2
                  have f3:decide ((mid:Int) < (e:Int)) = true:=decide_eq_true (by omega);have g3:decide (mid < e) = true:=decide_eq_true (by omega)
                  have u3:(mid:Int) < (e:Int):=by omega
                  have f3b:decide ((e:Int) < (b:Int)) = false:=decide_eq_false (by omega);have g3b:decide (e < b) = false:=decide_eq_false (by omega);have HVr:Hid (RowsV x0 enc N blk cap lo hi w6 q1):=HVq.out;have HRe2:Hid (Sym.Re mid b q1 q1):=Sym.Re.refl _ _ _;have HSo2:Hid (Sym.Srt (numL x0) q1 mid b):=HN3 HRe1.out HK3.out;have HCr:Hid (ChgL [blk] w w6):=HCq.out;go_wp2
                  go_end0
                  have hl:=Sym.halves HO.out.1 HO.out.2.1 HX.out HRe1.out HRe2.out HSo1.out HSo2.out;exact ⟨rfl,_,HVr.out,HRe0.out.trans hl.2,hl.1,HCr.out⟩
              · have HK3:Hid (¬ (mid < e ∧ e < b)):=fun h => c3 h.1
                have f3:decide ((mid:Int) < (e:Int)) = false:=decide_eq_false (by omega);have g3:decide (mid < e) = false:=decide_eq_false (by omega);have HVr:Hid (RowsV x0 enc N blk cap lo hi w6 q1):=HVq.out;have HRe2:Hid (Sym.Re mid b q1 q1):=Sym.Re.refl _ _ _;have HSo2:Hid (Sym.Srt (numL x0) q1 mid b):=HN3 HRe1.out HK3.out;have HCr:Hid (ChgL [blk] w w6):=HCq.out;go_wp2
                go_end0
                have hl:=Sym.halves HO.out.1 HO.out.2.1 HX.out HRe1.out HRe2.out HSo1.out HSo2.out;exact ⟨rfl,_,HVr.out,HRe0.out.trans hl.2,hl.1,HCr.out⟩
          · have HK2:Hid (¬ (a < i ∧ i < mid)):=fun h => c2 h.1
            have f2:decide ((a:Int) < (i:Int)) = false:=decide_eq_false (by omega);have g2:decide (a < i) = false:=decide_eq_false (by omega);obtain ⟨q1,hq1⟩:∃ q1,q1 = q0:=⟨_,rfl⟩;have HVq:Hid (RowsV x0 enc N blk cap lo hi w6 q1):=(by rw [hq1];exact HV1.out:RowsV x0 enc N blk cap lo hi w6 q1);have HRe1:Hid (Sym.Re a mid q0 q1):=(by rw [hq1];exact Sym.Re.refl _ _ _:Sym.Re a mid q0 q1);have HSo1:Hid (Sym.Srt (numL x0) q1 a mid):=(by rw [hq1];exact HN2 HK2.out:Sym.Srt (numL x0) q1 a mid);have HCq:Hid (ChgL [blk] w w6):=HC1.out;clear hq1
            by_cases c3:mid < e
            · by_cases c3b:e < b
              · have HK3:Hid (mid < e ∧ e < b):=⟨c3,c3b⟩
                have f3:decide ((mid:Int) < (e:Int)) = true:=decide_eq_true (by omega);have g3:decide (mid < e) = true:=decide_eq_true (by omega)
                have u3:(mid:Int) < (e:Int):=by omega
                have f3b:decide ((e:Int) < (b:Int)) = true:=decide_eq_true (by omega);have g3b:decide (e < b) = true:=decide_eq_true (by omega)
                have u3b:(e:Int) < (b:Int):=by omega
                have CS:=HIH.out q1 w6 mid e b (by have h9:=HO.out;omega) HVq.out HK3.out.1 HK3.out.2 HO.out.2.2.1 (HT3 HRe1.out) (HL3 HRe1.out) (HL4 HRe1.out)
                go_wp2_with fail
                refine CS.mono ?_;rintro ee w9 ⟨rfl,r,Vr,hRe2,hSo2,C9⟩;have HVr:Hid (RowsV x0 enc N blk cap lo hi w9 r):=Vr;have HRe2:Hid (Sym.Re mid b q1 r):=hRe2;have HSo2:Hid (Sym.Srt (numL x0) r mid b):=hSo2;have HCr:Hid (ChgL [blk] w w9):=HCq.out.trans C9;clear Vr hRe2 hSo2 C9 CS;go_wp2
                go_end0
                have hl:=Sym.halves HO.out.1 HO.out.2.1 HX.out HRe1.out HRe2.out HSo1.out HSo2.out;exact ⟨rfl,_,HVr.out,HRe0.out.trans hl.2,hl.1,HCr.out⟩
              · have HK3:Hid (¬ (mid < e ∧ e < b)):=fun h => c3b h.2
                have f3:decide ((mid:Int) < (e:Int)) = true:=decide_eq_true (by omega);have g3:decide (mid < e) = true:=decide_eq_true (by omega)
                have u3:(mid:Int) < (e:Int):=by omega
                have f3b:decide ((e:Int) < (b:Int)) = false:=decide_eq_false (by omega);have g3b:decide (e < b) = false:=decide_eq_false (by omega);have HVr:Hid (RowsV x0 enc N blk cap lo hi w6 q1):=HVq.out;have HRe2:Hid (Sym.Re mid b q1 q1):=Sym.Re.refl _ _ _;have HSo2:Hid (Sym.Srt (numL x0) q1 mid b):=HN3 HRe1.out HK3.out;have HCr:Hid (ChgL [blk] w w6):=HCq.out;go_wp2
                go_end0
                have hl:=Sym.halves HO.out.1 HO.out.2.1 HX.out HRe1.out HRe2.out HSo1.out HSo2.out;exact ⟨rfl,_,HVr.out,HRe0.out.trans hl.2,hl.1,HCr.out⟩
            · have HK3:Hid (¬ (mid < e ∧ e < b)):=fun h => c3 h.1
              have f3:decide ((mid:Int) < (e:Int)) = false:=decide_eq_false (by omega);have g3:decide (mid < e) = false:=decide_eq_false (by omega);have HVr:Hid (RowsV x0 enc N blk cap lo hi w6 q1):=HVq.out;have HRe2:Hid (Sym.Re mid b q1 q1):=Sym.Re.refl _ _ _;have HSo2:Hid (Sym.Srt (numL x0) q1 mid b):=HN3 HRe1.out HK3.out;have HCr:Hid (ChgL [blk] w w6):=HCq.out;go_wp2
              go_end0
              have hl:=Sym.halves HO.out.1 HO.out.2.1 HX.out HRe1.out HRe2.out HSo1.out HSo2.out;exact ⟨rfl,_,HVr.out,HRe0.out.trans hl.2,hl.1,HCr.out⟩
        · have HK1:Hid (¬ (i < m ∧ m < e)):=fun h => c1b h.2
          have f1:decide ((i:Int) < (m:Int)) = true:=decide_eq_true (by omega);have g1:decide (i < m) = true:=decide_eq_true (by omega)
          have u1:(i:Int) < (m:Int):=by omega
          have f1b:decide ((m:Int) < (e:Int)) = false:=decide_eq_false (by omega);have g1b:decide (m < e) = false:=decide_eq_false (by omega);have HV1:Hid (RowsV x0 enc N blk cap lo hi wr q0):=(HV.out.same (fun x _ => by rw [HQ0.out];exact (HN1 HK1.out x).symm):RowsV x0 enc N blk cap lo hi wr q0);have HC1:Hid (ChgL [blk] w wr):=HC.out
          by_cases c2:a < i
          · by_cases c2b:i < mid
            · have HK2:Hid (a < i ∧ i < mid):=⟨c2,c2b⟩
              have f2:decide ((a:Int) < (i:Int)) = true:=decide_eq_true (by omega);have g2:decide (a < i) = true:=decide_eq_true (by omega)
              have u2:(a:Int) < (i:Int):=by omega
              have f2b:decide ((i:Int) < (mid:Int)) = true:=decide_eq_true (by omega);have g2b:decide (i < mid) = true:=decide_eq_true (by omega)
              have u2b:(i:Int) < (mid:Int):=by omega
              have CS:=HIH.out q0 wr a i mid (by have h9:=HO.out;omega) HV1.out HK2.out.1 HK2.out.2 HO.out.2.2.2.1 HT2.out HSa.out HSb.out
              go_wp2_with fail
              refine CS.mono ?_;rintro ee w7 ⟨rfl,q1,Vq,hRe1,hSo1,C7⟩;have HVq:Hid (RowsV x0 enc N blk cap lo hi w7 q1):=Vq;have HRe1:Hid (Sym.Re a mid q0 q1):=hRe1;have HSo1:Hid (Sym.Srt (numL x0) q1 a mid):=hSo1;have HCq:Hid (ChgL [blk] w w7):=HC1.out.trans C7;clear Vq hRe1 hSo1 C7 CS
              by_cases c3:mid < e
              · by_cases c3b:e < b
                · have HK3:Hid (mid < e ∧ e < b):=⟨c3,c3b⟩
                  have f3:decide ((mid:Int) < (e:Int)) = true:=decide_eq_true (by omega);have g3:decide (mid < e) = true:=decide_eq_true (by omega)
                  have u3:(mid:Int) < (e:Int):=by omega
                  have f3b:decide ((e:Int) < (b:Int)) = true:=decide_eq_true (by omega);have g3b:decide (e < b) = true:=decide_eq_true (by omega)
                  have u3b:(e:Int) < (b:Int):=by omega
                  have CS:=HIH.out q1 w7 mid e b (by have h9:=HO.out;omega) HVq.out HK3.out.1 HK3.out.2 HO.out.2.2.1 (HT3 HRe1.out) (HL3 HRe1.out) (HL4 HRe1.out)
                  go_wp2_with fail
                  refine CS.mono ?_;rintro ee w9 ⟨rfl,r,Vr,hRe2,hSo2,C9⟩;have HVr:Hid (RowsV x0 enc N blk cap lo hi w9 r):=Vr;have HRe2:Hid (Sym.Re mid b q1 r):=hRe2;have HSo2:Hid (Sym.Srt (numL x0) r mid b):=hSo2;have HCr:Hid (ChgL [blk] w w9):=HCq.out.trans C9;clear Vr hRe2 hSo2 C9 CS;go_wp2
                  go_end0
                  have hl:=Sym.halves HO.out.1 HO.out.2.1 HX.out HRe1.out HRe2.out HSo1.out HSo2.out;exact ⟨rfl,_,HVr.out,HRe0.out.trans hl.2,hl.1,HCr.out⟩
                · have HK3:Hid (¬ (mid < e ∧ e < b)):=fun h => c3b h.2
                  have f3:decide ((mid:Int) < (e:Int)) = true:=decide_eq_true (by omega);have g3:decide (mid < e) = true:=decide_eq_true (by omega)
                  have u3:(mid:Int) < (e:Int):=by omega
                  have f3b:decide ((e:Int) < (b:Int)) = false:=decide_eq_false (by omega);have g3b:decide (e < b) = false:=decide_eq_false (by omega);have HVr:Hid (RowsV x0 enc N blk cap lo hi w7 q1):=HVq.out;have HRe2:Hid (Sym.Re mid b q1 q1):=Sym.Re.refl _ _ _;have HSo2:Hid (Sym.Srt (numL x0) q1 mid b):=HN3 HRe1.out HK3.out;have HCr:Hid (ChgL [blk] w w7):=HCq.out;go_wp2
                  go_end0
                  have hl:=Sym.halves HO.out.1 HO.out.2.1 HX.out HRe1.out HRe2.out HSo1.out HSo2.out;exact ⟨rfl,_,HVr.out,HRe0.out.trans hl.2,hl.1,HCr.out⟩
              · have HK3:Hid (¬ (mid < e ∧ e < b)):=fun h => c3 h.1
                have f3:decide ((mid:Int) < (e:Int)) = false:=decide_eq_false (by omega);have g3:decide (mid < e) = false:=decide_eq_false (by omega);have HVr:Hid (RowsV x0 enc N blk cap lo hi w7 q1):=HVq.out;have HRe2:Hid (Sym.Re mid b q1 q1):=Sym.Re.refl _ _ _;have HSo2:Hid (Sym.Srt (numL x0) q1 mid b):=HN3 HRe1.out HK3.out;have HCr:Hid (ChgL [blk] w w7):=HCq.out;go_wp2
                go_end0
                have hl:=Sym.halves HO.out.1 HO.out.2.1 HX.out HRe1.out HRe2.out HSo1.out HSo2.out;exact ⟨rfl,_,HVr.out,HRe0.out.trans hl.2,hl.1,HCr.out⟩
            · have HK2:Hid (¬ (a < i ∧ i < mid)):=fun h => c2b h.2
              have f2:decide ((a:Int) < (i:Int)) = true:=decide_eq_true (by omega);have g2:decide (a < i) = true:=decide_eq_true (by omega)
              have u2:(a:Int) < (i:Int):=by omega
              have f2b:decide ((i:Int) < (mid:Int)) = false:=decide_eq_false (by omega);have g2b:decide (i < mid) = false:=decide_eq_false (by omega);obtain ⟨q1,hq1⟩:∃ q1,q1 = q0:=⟨_,rfl⟩;have HVq:Hid (RowsV x0 enc N blk cap lo hi wr q1):=(by rw [hq1];exact HV1.out:RowsV x0 enc N blk cap lo hi wr q1);have HRe1:Hid (Sym.Re a mid q0 q1):=(by rw [hq1];exact Sym.Re.refl _ _ _:Sym.Re a mid q0 q1);have HSo1:Hid (Sym.Srt (numL x0) q1 a mid):=(by rw [hq1];exact HN2 HK2.out:Sym.Srt (numL x0) q1 a mid);have HCq:Hid (ChgL [blk] w wr):=HC1.out;clear hq1
              by_cases c3:mid < e
              · by_cases c3b:e < b
                · have HK3:Hid (mid < e ∧ e < b):=⟨c3,c3b⟩
                  have f3:decide ((mid:Int) < (e:Int)) = true:=decide_eq_true (by omega);have g3:decide (mid < e) = true:=decide_eq_true (by omega)
                  have u3:(mid:Int) < (e:Int):=by omega
                  have f3b:decide ((e:Int) < (b:Int)) = true:=decide_eq_true (by omega);have g3b:decide (e < b) = true:=decide_eq_true (by omega)
                  have u3b:(e:Int) < (b:Int):=by omega
                  have CS:=HIH.out q1 wr mid e b (by have h9:=HO.out;omega) HVq.out HK3.out.1 HK3.out.2 HO.out.2.2.1 (HT3 HRe1.out) (HL3 HRe1.out) (HL4 HRe1.out)
                  go_wp2_with fail
                  refine CS.mono ?_;rintro ee w9 ⟨rfl,r,Vr,hRe2,hSo2,C9⟩;have HVr:Hid (RowsV x0 enc N blk cap lo hi w9 r):=Vr;have HRe2:Hid (Sym.Re mid b q1 r):=hRe2;have HSo2:Hid (Sym.Srt (numL x0) r mid b):=hSo2;have HCr:Hid (ChgL [blk] w w9):=HCq.out.trans C9;clear Vr hRe2 hSo2 C9 CS;go_wp2
                  go_end0
                  have hl:=Sym.halves HO.out.1 HO.out.2.1 HX.out HRe1.out HRe2.out HSo1.out HSo2.out;exact ⟨rfl,_,HVr.out,HRe0.out.trans hl.2,hl.1,HCr.out⟩
                · have HK3:Hid (¬ (mid < e ∧ e < b)):=fun h => c3b h.2
                  have f3:decide ((mid:Int) < (e:Int)) = true:=decide_eq_true (by omega);have g3:decide (mid < e) = true:=decide_eq_true (by omega)
                  have u3:(mid:Int) < (e:Int):=by omega
                  have f3b:decide ((e:Int) < (b:Int)) = false:=decide_eq_false (by omega);have g3b:decide (e < b) = false:=decide_eq_false (by omega);have HVr:Hid (RowsV x0 enc N blk cap lo hi wr q1):=HVq.out;have HRe2:Hid (Sym.Re mid b q1 q1):=Sym.Re.refl _ _ _;have HSo2:Hid (Sym.Srt (numL x0) q1 mid b):=HN3 HRe1.out HK3.out;have HCr:Hid (ChgL [blk] w wr):=HCq.out;go_wp2
                  go_end0
                  have hl:=Sym.halves HO.out.1 HO.out.2.1 HX.out HRe1.out HRe2.out HSo1.out HSo2.out;exact ⟨rfl,_,HVr.out,HRe0.out.trans hl.2,hl.1,HCr.out⟩
              · have HK3:Hid (¬ (mid < e ∧ e < b)):=fun h => c3 h.1
                have f3:decide ((mid:Int) < (e:Int)) = false:=decide_eq_false (by omega);have g3:decide (mid < e) = false:=decide_eq_false (by omega);have HVr:Hid (RowsV x0 enc N blk cap lo hi wr q1):=HVq.out;have HRe2:Hid (Sym.Re mid b q1 q1):=Sym.Re.refl _ _ _;have HSo2:Hid (Sym.Srt (numL x0) q1 mid b):=HN3 HRe1.out HK3.out;have HCr:Hid (ChgL [blk] w wr):=HCq.out;go_wp2
                go_end0
                have hl:=Sym.halves HO.out.1 HO.out.2.1 HX.out HRe1.out HRe2.out HSo1.out HSo2.out;exact ⟨rfl,_,HVr.out,HRe0.out.trans hl.2,hl.1,HCr.out⟩
          · have HK2:Hid (¬ (a < i ∧ i < mid)):=fun h => c2 h.1
            have f2:decide ((a:Int) < (i:Int)) = false:=decide_eq_false (by omega);have g2:decide (a < i) = false:=decide_eq_false (by omega);obtain ⟨q1,hq1⟩:∃ q1,q1 = q0:=⟨_,rfl⟩;have HVq:Hid (RowsV x0 enc N blk cap lo hi wr q1):=(by rw [hq1];exact HV1.out:RowsV x0 enc N blk cap lo hi wr q1);have HRe1:Hid (Sym.Re a mid q0 q1):=(by rw [hq1];exact Sym.Re.refl _ _ _:Sym.Re a mid q0 q1);have HSo1:Hid (Sym.Srt (numL x0) q1 a mid):=(by rw [hq1];exact HN2 HK2.out:Sym.Srt (numL x0) q1 a mid);have HCq:Hid (ChgL [blk] w wr):=HC1.out;clear hq1
            by_cases c3:mid < e
            · by_cases c3b:e < b
              · have HK3:Hid (mid < e ∧ e < b):=⟨c3,c3b⟩
                have f3:decide ((mid:Int) < (e:Int)) = true:=decide_eq_true (by omega);have g3:decide (mid < e) = true:=decide_eq_true (by omega)
                have u3:(mid:Int) < (e:Int):=by omega
                have f3b:decide ((e:Int) < (b:Int)) = true:=decide_eq_true (by omega);have g3b:decide (e < b) = true:=decide_eq_true (by omega)
                have u3b:(e:Int) < (b:Int):=by omega
                have CS:=HIH.out q1 wr mid e b (by have h9:=HO.out;omega) HVq.out HK3.out.1 HK3.out.2 HO.out.2.2.1 (HT3 HRe1.out) (HL3 HRe1.out) (HL4 HRe1.out)
                go_wp2_with fail
                refine CS.mono ?_;rintro ee w9 ⟨rfl,r,Vr,hRe2,hSo2,C9⟩;have HVr:Hid (RowsV x0 enc N blk cap lo hi w9 r):=Vr;have HRe2:Hid (Sym.Re mid b q1 r):=hRe2;have HSo2:Hid (Sym.Srt (numL x0) r mid b):=hSo2;have HCr:Hid (ChgL [blk] w w9):=HCq.out.trans C9;clear Vr hRe2 hSo2 C9 CS;go_wp2
                go_end0
                have hl:=Sym.halves HO.out.1 HO.out.2.1 HX.out HRe1.out HRe2.out HSo1.out HSo2.out;exact ⟨rfl,_,HVr.out,HRe0.out.trans hl.2,hl.1,HCr.out⟩
              · have HK3:Hid (¬ (mid < e ∧ e < b)):=fun h => c3b h.2
                have f3:decide ((mid:Int) < (e:Int)) = true:=decide_eq_true (by omega);have g3:decide (mid < e) = true:=decide_eq_true (by omega)
                have u3:(mid:Int) < (e:Int):=by omega
                have f3b:decide ((e:Int) < (b:Int)) = false:=decide_eq_false (by omega);have g3b:decide (e < b) = false:=decide_eq_false (by omega);have HVr:Hid (RowsV x0 enc N blk cap lo hi wr q1):=HVq.out;have HRe2:Hid (Sym.Re mid b q1 q1):=Sym.Re.refl _ _ _;have HSo2:Hid (Sym.Srt (numL x0) q1 mid b):=HN3 HRe1.out HK3.out;have HCr:Hid (ChgL [blk] w wr):=HCq.out;go_wp2
                go_end0
                have hl:=Sym.halves HO.out.1 HO.out.2.1 HX.out HRe1.out HRe2.out HSo1.out HSo2.out;exact ⟨rfl,_,HVr.out,HRe0.out.trans hl.2,hl.1,HCr.out⟩
            · have HK3:Hid (¬ (mid < e ∧ e < b)):=fun h => c3 h.1
              have f3:decide ((mid:Int) < (e:Int)) = false:=decide_eq_false (by omega);have g3:decide (mid < e) = false:=decide_eq_false (by omega);have HVr:Hid (RowsV x0 enc N blk cap lo hi wr q1):=HVq.out;have HRe2:Hid (Sym.Re mid b q1 q1):=Sym.Re.refl _ _ _;have HSo2:Hid (Sym.Srt (numL x0) q1 mid b):=HN3 HRe1.out HK3.out;have HCr:Hid (ChgL [blk] w wr):=HCq.out;go_wp2
              go_end0
              have hl:=Sym.halves HO.out.1 HO.out.2.1 HX.out HRe1.out HRe2.out HSo1.out HSo2.out;exact ⟨rfl,_,HVr.out,HRe0.out.trans hl.2,hl.1,HCr.out⟩
      · have HK1:Hid (¬ (i < m ∧ m < e)):=fun h => c1 h.1
        have f1:decide ((i:Int) < (m:Int)) = false:=decide_eq_false (by omega);have g1:decide (i < m) = false:=decide_eq_false (by omega);have HV1:Hid (RowsV x0 enc N blk cap lo hi wr q0):=(HV.out.same (fun x _ => by rw [HQ0.out];exact (HN1 HK1.out x).symm):RowsV x0 enc N blk cap lo hi wr q0);have HC1:Hid (ChgL [blk] w wr):=HC.out
        by_cases c2:a < i
        · by_cases c2b:i < mid
          · have HK2:Hid (a < i ∧ i < mid):=⟨c2,c2b⟩
            have f2:decide ((a:Int) < (i:Int)) = true:=decide_eq_true (by omega);have g2:decide (a < i) = true:=decide_eq_true (by omega)
            have u2:(a:Int) < (i:Int):=by omega
            have f2b:decide ((i:Int) < (mid:Int)) = true:=decide_eq_true (by omega);have g2b:decide (i < mid) = true:=decide_eq_true (by omega)
            have u2b:(i:Int) < (mid:Int):=by omega
            have CS:=HIH.out q0 wr a i mid (by have h9:=HO.out;omega) HV1.out HK2.out.1 HK2.out.2 HO.out.2.2.2.1 HT2.out HSa.out HSb.out
            go_wp2_with fail
            refine CS.mono ?_;rintro ee w7 ⟨rfl,q1,Vq,hRe1,hSo1,C7⟩;have HVq:Hid (RowsV x0 enc N blk cap lo hi w7 q1):=Vq;have HRe1:Hid (Sym.Re a mid q0 q1):=hRe1;have HSo1:Hid (Sym.Srt (numL x0) q1 a mid):=hSo1;have HCq:Hid (ChgL [blk] w w7):=HC1.out.trans C7;clear Vq hRe1 hSo1 C7 CS
            by_cases c3:mid < e
            · by_cases c3b:e < b
              · have HK3:Hid (mid < e ∧ e < b):=⟨c3,c3b⟩
                have f3:decide ((mid:Int) < (e:Int)) = true:=decide_eq_true (by omega);have g3:decide (mid < e) = true:=decide_eq_true (by omega)
                have u3:(mid:Int) < (e:Int):=by omega
                have f3b:decide ((e:Int) < (b:Int)) = true:=decide_eq_true (by omega);have g3b:decide (e < b) = true:=decide_eq_true (by omega)
                have u3b:(e:Int) < (b:Int):=by omega
                have CS:=HIH.out q1 w7 mid e b (by have h9:=HO.out;omega) HVq.out HK3.out.1 HK3.out.2 HO.out.2.2.1 (HT3 HRe1.out) (HL3 HRe1.out) (HL4 HRe1.out)
                go_wp2_with fail
                refine CS.mono ?_;rintro ee w9 ⟨rfl,r,Vr,hRe2,hSo2,C9⟩;have HVr:Hid (RowsV x0 enc N blk cap lo hi w9 r):=Vr;have HRe2:Hid (Sym.Re mid b q1 r):=hRe2;have HSo2:Hid (Sym.Srt (numL x0) r mid b):=hSo2;have HCr:Hid (ChgL [blk] w w9):=HCq.out.trans C9;clear Vr hRe2 hSo2 C9 CS;go_wp2
                go_end0
                have hl:=Sym.halves HO.out.1 HO.out.2.1 HX.out HRe1.out HRe2.out HSo1.out HSo2.out;exact ⟨rfl,_,HVr.out,HRe0.out.trans hl.2,hl.1,HCr.out⟩
              · have HK3:Hid (¬ (mid < e ∧ e < b)):=fun h => c3b h.2
                have f3:decide ((mid:Int) < (e:Int)) = true:=decide_eq_true (by omega);have g3:decide (mid < e) = true:=decide_eq_true (by omega)
                have u3:(mid:Int) < (e:Int):=by omega
                have f3b:decide ((e:Int) < (b:Int)) = false:=decide_eq_false (by omega);have g3b:decide (e < b) = false:=decide_eq_false (by omega);have HVr:Hid (RowsV x0 enc N blk cap lo hi w7 q1):=HVq.out;have HRe2:Hid (Sym.Re mid b q1 q1):=Sym.Re.refl _ _ _;have HSo2:Hid (Sym.Srt (numL x0) q1 mid b):=HN3 HRe1.out HK3.out;have HCr:Hid (ChgL [blk] w w7):=HCq.out;go_wp2
                go_end0
                have hl:=Sym.halves HO.out.1 HO.out.2.1 HX.out HRe1.out HRe2.out HSo1.out HSo2.out;exact ⟨rfl,_,HVr.out,HRe0.out.trans hl.2,hl.1,HCr.out⟩
            · have HK3:Hid (¬ (mid < e ∧ e < b)):=fun h => c3 h.1
              have f3:decide ((mid:Int) < (e:Int)) = false:=decide_eq_false (by omega);have g3:decide (mid < e) = false:=decide_eq_false (by omega);have HVr:Hid (RowsV x0 enc N blk cap lo hi w7 q1):=HVq.out;have HRe2:Hid (Sym.Re mid b q1 q1):=Sym.Re.refl _ _ _;have HSo2:Hid (Sym.Srt (numL x0) q1 mid b):=HN3 HRe1.out HK3.out;have HCr:Hid (ChgL [blk] w w7):=HCq.out;go_wp2
              go_end0
              have hl:=Sym.halves HO.out.1 HO.out.2.1 HX.out HRe1.out HRe2.out HSo1.out HSo2.out;exact ⟨rfl,_,HVr.out,HRe0.out.trans hl.2,hl.1,HCr.out⟩
          · have HK2:Hid (¬ (a < i ∧ i < mid)):=fun h => c2b h.2
            have f2:decide ((a:Int) < (i:Int)) = true:=decide_eq_true (by omega);have g2:decide (a < i) = true:=decide_eq_true (by omega)
            have u2:(a:Int) < (i:Int):=by omega
            have f2b:decide ((i:Int) < (mid:Int)) = false:=decide_eq_false (by omega);have g2b:decide (i < mid) = false:=decide_eq_false (by omega);obtain ⟨q1,hq1⟩:∃ q1,q1 = q0:=⟨_,rfl⟩;have HVq:Hid (RowsV x0 enc N blk cap lo hi wr q1):=(by rw [hq1];exact HV1.out:RowsV x0 enc N blk cap lo hi wr q1);have HRe1:Hid (Sym.Re a mid q0 q1):=(by rw [hq1];exact Sym.Re.refl _ _ _:Sym.Re a mid q0 q1);have HSo1:Hid (Sym.Srt (numL x0) q1 a mid):=(by rw [hq1];exact HN2 HK2.out:Sym.Srt (numL x0) q1 a mid);have HCq:Hid (ChgL [blk] w wr):=HC1.out;clear hq1
            by_cases c3:mid < e
            · by_cases c3b:e < b
              · have HK3:Hid (mid < e ∧ e < b):=⟨c3,c3b⟩
                have f3:decide ((mid:Int) < (e:Int)) = true:=decide_eq_true (by omega);have g3:decide (mid < e) = true:=decide_eq_true (by omega)
                have u3:(mid:Int) < (e:Int):=by omega
                have f3b:decide ((e:Int) < (b:Int)) = true:=decide_eq_true (by omega);have g3b:decide (e < b) = true:=decide_eq_true (by omega)
                have u3b:(e:Int) < (b:Int):=by omega
                have CS:=HIH.out q1 wr mid e b (by have h9:=HO.out;omega) HVq.out HK3.out.1 HK3.out.2 HO.out.2.2.1 (HT3 HRe1.out) (HL3 HRe1.out) (HL4 HRe1.out)
                go_wp2_with fail
                refine CS.mono ?_;rintro ee w9 ⟨rfl,r,Vr,hRe2,hSo2,C9⟩;have HVr:Hid (RowsV x0 enc N blk cap lo hi w9 r):=Vr;have HRe2:Hid (Sym.Re mid b q1 r):=hRe2;have HSo2:Hid (Sym.Srt (numL x0) r mid b):=hSo2;have HCr:Hid (ChgL [blk] w w9):=HCq.out.trans C9;clear Vr hRe2 hSo2 C9 CS;go_wp2
                go_end0
                have hl:=Sym.halves HO.out.1 HO.out.2.1 HX.out HRe1.out HRe2.out HSo1.out HSo2.out;exact ⟨rfl,_,HVr.out,HRe0.out.trans hl.2,hl.1,HCr.out⟩
              · have HK3:Hid (¬ (mid < e ∧ e < b)):=fun h => c3b h.2
                have f3:decide ((mid:Int) < (e:Int)) = true:=decide_eq_true (by omega);have g3:decide (mid < e) = true:=decide_eq_true (by omega)
                have u3:(mid:Int) < (e:Int):=by omega
                have f3b:decide ((e:Int) < (b:Int)) = false:=decide_eq_false (by omega);have g3b:decide (e < b) = false:=decide_eq_false (by omega);have HVr:Hid (RowsV x0 enc N blk cap lo hi wr q1):=HVq.out;have HRe2:Hid (Sym.Re mid b q1 q1):=Sym.Re.refl _ _ _;have HSo2:Hid (Sym.Srt (numL x0) q1 mid b):=HN3 HRe1.out HK3.out;have HCr:Hid (ChgL [blk] w wr):=HCq.out;go_wp2
                go_end0
                have hl:=Sym.halves HO.out.1 HO.out.2.1 HX.out HRe1.out HRe2.out HSo1.out HSo2.out;exact ⟨rfl,_,HVr.out,HRe0.out.trans hl.2,hl.1,HCr.out⟩
            · have HK3:Hid (¬ (mid < e ∧ e < b)):=fun h => c3 h.1
              have f3:decide ((mid:Int) < (e:Int)) = false:=decide_eq_false (by omega);have g3:decide (mid < e) = false:=decide_eq_false (by omega);have HVr:Hid (RowsV x0 enc N blk cap lo hi wr q1):=HVq.out;have HRe2:Hid (Sym.Re mid b q1 q1):=Sym.Re.refl _ _ _;have HSo2:Hid (Sym.Srt (numL x0) q1 mid b):=HN3 HRe1.out HK3.out;have HCr:Hid (ChgL [blk] w wr):=HCq.out;go_wp2
              go_end0
              have hl:=Sym.halves HO.out.1 HO.out.2.1 HX.out HRe1.out HRe2.out HSo1.out HSo2.out;exact ⟨rfl,_,HVr.out,HRe0.out.trans hl.2,hl.1,HCr.out⟩
        · have HK2:Hid (¬ (a < i ∧ i < mid)):=fun h => c2 h.1
          have f2:decide ((a:Int) < (i:Int)) = false:=decide_eq_false (by omega);have g2:decide (a < i) = false:=decide_eq_false (by omega);obtain ⟨q1,hq1⟩:∃ q1,q1 = q0:=⟨_,rfl⟩;have HVq:Hid (RowsV x0 enc N blk cap lo hi wr q1):=(by rw [hq1];exact HV1.out:RowsV x0 enc N blk cap lo hi wr q1);have HRe1:Hid (Sym.Re a mid q0 q1):=(by rw [hq1];exact Sym.Re.refl _ _ _:Sym.Re a mid q0 q1);have HSo1:Hid (Sym.Srt (numL x0) q1 a mid):=(by rw [hq1];exact HN2 HK2.out:Sym.Srt (numL x0) q1 a mid);have HCq:Hid (ChgL [blk] w wr):=HC1.out;clear hq1
          by_cases c3:mid < e
          · by_cases c3b:e < b
            · have HK3:Hid (mid < e ∧ e < b):=⟨c3,c3b⟩
              have f3:decide ((mid:Int) < (e:Int)) = true:=decide_eq_true (by omega);have g3:decide (mid < e) = true:=decide_eq_true (by omega)
              have u3:(mid:Int) < (e:Int):=by omega
              have f3b:decide ((e:Int) < (b:Int)) = true:=decide_eq_true (by omega);have g3b:decide (e < b) = true:=decide_eq_true (by omega)
              have u3b:(e:Int) < (b:Int):=by omega
              have CS:=HIH.out q1 wr mid e b (by have h9:=HO.out;omega) HVq.out HK3.out.1 HK3.out.2 HO.out.2.2.1 (HT3 HRe1.out) (HL3 HRe1.out) (HL4 HRe1.out)
              go_wp2_with fail
              refine CS.mono ?_;rintro ee w9 ⟨rfl,r,Vr,hRe2,hSo2,C9⟩;have HVr:Hid (RowsV x0 enc N blk cap lo hi w9 r):=Vr;have HRe2:Hid (Sym.Re mid b q1 r):=hRe2;have HSo2:Hid (Sym.Srt (numL x0) r mid b):=hSo2;have HCr:Hid (ChgL [blk] w w9):=HCq.out.trans C9;clear Vr hRe2 hSo2 C9 CS;go_wp2
              go_end0
              have hl:=Sym.halves HO.out.1 HO.out.2.1 HX.out HRe1.out HRe2.out HSo1.out HSo2.out;exact ⟨rfl,_,HVr.out,HRe0.out.trans hl.2,hl.1,HCr.out⟩
            · have HK3:Hid (¬ (mid < e ∧ e < b)):=fun h => c3b h.2
              have f3:decide ((mid:Int) < (e:Int)) = true:=decide_eq_true (by omega);have g3:decide (mid < e) = true:=decide_eq_true (by omega)
              have u3:(mid:Int) < (e:Int):=by omega
              have f3b:decide ((e:Int) < (b:Int)) = false:=decide_eq_false (by omega);have g3b:decide (e < b) = false:=decide_eq_false (by omega);have HVr:Hid (RowsV x0 enc N blk cap lo hi wr q1):=HVq.out;have HRe2:Hid (Sym.Re mid b q1 q1):=Sym.Re.refl _ _ _;have HSo2:Hid (Sym.Srt (numL x0) q1 mid b):=HN3 HRe1.out HK3.out;have HCr:Hid (ChgL [blk] w wr):=HCq.out;go_wp2
              go_end0
              have hl:=Sym.halves HO.out.1 HO.out.2.1 HX.out HRe1.out HRe2.out HSo1.out HSo2.out;exact ⟨rfl,_,HVr.out,HRe0.out.trans hl.2,hl.1,HCr.out⟩
          · have HK3:Hid (¬ (mid < e ∧ e < b)):=fun h => c3 h.1
            have f3:decide ((mid:Int) < (e:Int)) = false:=decide_eq_false (by omega);have g3:decide (mid < e) = false:=decide_eq_false (by omega);have HVr:Hid (RowsV x0 enc N blk cap lo hi wr q1):=HVq.out;have HRe2:Hid (Sym.Re mid b q1 q1):=Sym.Re.refl _ _ _;have HSo2:Hid (Sym.Srt (numL x0) q1 mid b):=HN3 HRe1.out HK3.out;have HCr:Hid (ChgL [blk] w wr):=HCq.out;go_wp2
            go_end0
            have hl:=Sym.halves HO.out.1 HO.out.2.1 HX.out HRe1.out HRe2.out HSo1.out HSo2.out;exact ⟨rfl,_,HVr.out,HRe0.out.trans hl.2,hl.1,HCr.out⟩
set_option maxHeartbeats 16000000 in
set_option maxRecDepth 1000000 in
theorem symMerge_3b (x0:Nat → RecD) (enc:Nat → List Value) (p:Nat → Nat) (N blk cap lo hi:Nat) (w:World) (V:RowsV x0 enc N blk cap lo hi w p) (hlo:hi ≤ lo) (hN:N < 1000000000) (a m b mid:Nat) (ham:a < m) (hmb:m < b) (hb:b ≤ N) (htag:∀ i j,a ≤ i → i < m → m ≤ j → j < b → p i < p j) (hs1:Sym.Srt (numL x0) p a m) (hs2:Sym.Srt (numL x0) p m b) (h0:m ≠ a + 1) (h1:b ≠ m + 1) (hmid:mid = (a + b) / 2) (hx:m ≤ mid) (IH:∀ (p':Nat → Nat) (w':World) (a' m' b':Nat),b' - a' < b - a → RowsV x0 enc N blk cap lo hi w' p' → a' < m' → m' < b' → b' ≤ N → (∀ i j,a' ≤ i → i < m' → m' ≤ j → j < b' → p' i < p' j) → Sym.Srt (numL x0) p' a' m' → Sym.Srt (numL x0) p' m' b' → Calls Tryz.prog 161 #[.slice (some ⟨blk,0,none⟩) N cap,.int .i64 a',.int .i64 m',.int .i64 b',.func (.func 114) #[] #[]] w' (fun e w'' => e = .returned (.tuple #[]) ∧ ∃ q,RowsV x0 enc N blk cap lo hi w'' q ∧ Sym.Re a' b' p' q ∧ Sym.Srt (numL x0) q a' b' ∧ ChgL [blk] w' w'')) :
    Calls Tryz.prog 161 #[.slice (some ⟨blk,0,none⟩) N cap,.int .i64 a,.int .i64 m,.int .i64 b,.func (.func 114) #[] #[]] w (fun e w' => e = .returned (.tuple #[]) ∧ ∃ q,RowsV x0 enc N blk cap lo hi w' q ∧ Sym.Re a b p q ∧ Sym.Srt (numL x0) q a b ∧ ChgL [blk] w w'):=by
  have HV0:Hid (RowsV x0 enc N blk cap lo hi w p):=V;have HT:Hid (∀ i j,a ≤ i → i < m → m ≤ j → j < b → p i < p j):=htag;have HS1:Hid (Sym.Srt (numL x0) p a m):=hs1;have HS2:Hid (Sym.Srt (numL x0) p m b):=hs2;have HIH:Hid (∀ (p':Nat → Nat) (w':World) (a' m' b':Nat),b' - a' < b - a → RowsV x0 enc N blk cap lo hi w' p' → a' < m' → m' < b' → b' ≤ N → (∀ i j,a' ≤ i → i < m' → m' ≤ j → j < b' → p' i < p' j) → Sym.Srt (numL x0) p' a' m' → Sym.Srt (numL x0) p' m' b' → Calls Tryz.prog 161 #[.slice (some ⟨blk,0,none⟩) N cap,.int .i64 a',.int .i64 m',.int .i64 b',.func (.func 114) #[] #[]] w' (fun e w'' => e = .returned (.tuple #[]) ∧ ∃ q,RowsV x0 enc N blk cap lo hi w'' q ∧ Sym.Re a' b' p' q ∧ Sym.Srt (numL x0) q a' b' ∧ ChgL [blk] w' w'')):=IH;have HMID:Hid (mid = (a + b) / 2):=hmid;obtain ⟨D,hD⟩:∃ D,D = m - a:=⟨_,rfl⟩
  have w0:IntKind.i64.wrap ((m:Int) - (a:Int)) = (D:Int):=by rw [IntKind.wrap_i64];omega
  have d0:((D:Int) == 1) = false:=by simp;omega
  obtain ⟨E,hE⟩:∃ E,E = b - m:=⟨_,rfl⟩
  have w9:IntKind.i64.wrap ((b:Int) - (m:Int)) = (E:Int):=by rw [IntKind.wrap_i64];omega
  have d9:((E:Int) == 1) = false:=by simp;omega
  have w1:IntKind.i64.wrap ((a:Int) + (b:Int)) = ((a + b:Nat):Int):=by rw [IntKind.wrap_i64];omega
  have e1:((a:Int) + (b:Int)) / 2 = (mid:Int):=by omega
  obtain ⟨n,hn⟩:∃ n,n = mid + m:=⟨_,rfl⟩
  have w2:IntKind.i64.wrap ((mid:Int) + (m:Int)) = (n:Int):=by rw [IntKind.wrap_i64];omega
  obtain ⟨P,hP⟩:∃ P,n = P + 1:=⟨n - 1,by omega⟩
  have w3:IntKind.i64.wrap ((n:Int) - 1) = (P:Int):=by rw [IntKind.wrap_i64];omega
  obtain ⟨S0,hS0⟩:∃ S0,S0 = a:=⟨_,rfl⟩;obtain ⟨R0,hR0⟩:∃ R0,R0 = m:=⟨_,rfl⟩;have x1:decide ((mid:Int) < (m:Int)) = false:=decide_eq_false (by omega);have x2:decide (mid < m) = false:=decide_eq_false (by omega)
  have F:a ≤ S0 ∧ n ≤ S0 + b ∧ (S0 = a ∨ n = S0 + b) ∧ S0 ≤ R0 ∧ R0 ≤ m ∧ R0 ≤ mid ∧ (R0 = m ∨ R0 = mid):=by omega
  have HF:Hid (a ≤ S0 ∧ n ≤ S0 + b ∧ (S0 = a ∨ n = S0 + b) ∧ S0 ≤ R0 ∧ R0 ≤ m ∧ R0 ≤ mid ∧ (R0 = m ∨ R0 = mid)):=F;have HN:Hid (n = mid + m ∧ n = P + 1):=⟨hn,hP⟩;have HSR:Hid (S0 = a ∧ R0 = m):=⟨hS0,hR0⟩;clear V htag hs1 hs2 h0 h1 hD hE IH hmid hn hP hS0 hR0 F
  go_enter Tryz.func161,Tryz.ntmps161
  go_wp2
  go_loopw [20,21] (fun vi vj wr => ∃ (i j:Nat),S0 ≤ i ∧ i ≤ j ∧ j ≤ R0 ∧ vi = .int .i64 i ∧ vj = .int .i64 j ∧ RowsV x0 enc N blk cap lo hi wr p ∧ (i = S0 ∨ numL x0 (p (i - 1)) (p (n - i))) ∧ (j = R0 ∨ numL x0 (p (P - j)) (p j)) ∧ ChgL [blk] w wr) (fun vi vj _ => (intOf vj).toNat - (intOf vi).toNat)
  case atStart => exact ⟨S0,R0,Nat.le_refl _,HF.out.2.2.2.1,Nat.le_refl _,by have:=HSR.out;go_num,by have:=HSR.out;go_num,HV0.out,.inl rfl,.inl rfl,ChgL.refl _ _⟩
  case round =>
    obtain ⟨i,j,hmi,hij,hjb,rfl,rfl,V,hL,hR,C⟩:=hrel;have HC:Hid (ChgL [blk] w wr):=C;have HL:Hid (i = S0 ∨ numL x0 (p (i - 1)) (p (n - i))):=hL;have HR:Hid (j = R0 ∨ numL x0 (p (P - j)) (p j)):=hR;have HV:Hid (RowsV x0 enc N blk cap lo hi wr p):=V;clear C hL hR w0 w9 d0 d9 w1 e1 w2 w3
    by_cases hlt:i < j
    · have t1:(i:Int) < (j:Int):=by omega
      obtain ⟨B,hB⟩:∃ B,B = (i + j) / 2:=⟨_,rfl⟩
      have w1:IntKind.i64.wrap ((i:Int) + (j:Int)) = ((i + j:Nat):Int):=by rw [IntKind.wrap_i64];have:=HF.out;omega
      have e1:((i:Int) + (j:Int)) / 2 = (B:Int):=by omega
      have hBi:i ≤ B:=by omega
      have hBj:B < j:=by omega
      obtain ⟨A,hA⟩:∃ A,A = P - B:=⟨_,rfl⟩;have hF:=HF.out;have hNN:=HN.out;have hMID:=HMID.out
      have hAm:m ≤ A ∧ A < b:=by omega
      have HAP:Hid (A + B = P):=(by omega:A + B = P)
      have w4:IntKind.i64.wrap ((P:Int) - (B:Int)) = (A:Int):=by rw [IntKind.wrap_i64];omega
      have hAN:A < N:=by omega
      have hBN:B < N:=by omega
      have i1:(A:Int) < (N:Int):=by omega
      have i2:(B:Int) < (N:Int):=by omega
      have i3:(0:Int) ≤ (A:Int):=by omega
      have i4:(0:Int) ≤ (B:Int):=by omega
      have hsz:=(V.row.lt blk rfl);have HTG:Hid (p B < p A):=HT.out B A (by omega) (by omega) (by omega) (by omega);have VD:=View.drew V;have rgA:wr.drew.rangeAt blk (A * 9) (enc (p A)):=VD.range hAN;have rgB:wr.drew.rangeAt blk (B * 9) (enc (p B)):=VD.range hBN;have hsA:(enc (p A)).length = 9:=VD.lens A hAN;have hsB:(enc (p B)).length = 9:=VD.lens B hBN;have rdA:=VD.each A hAN;have rdB:=VD.each B hBN;obtain ⟨cA,hcA⟩:∃ c,c = enc (p A):=⟨_,rfl⟩;obtain ⟨cB,hcB⟩:∃ c,c = enc (p B):=⟨_,rfl⟩;rw [← hcA] at rgA hsA;rw [← hcB] at rgB hsB;have CC0:=byNumbers_is _ _ _ _ hi hi wr.drew rdA rdB;rw [← hcA,← hcB] at CC0;obtain ⟨c,hc⟩:∃ c:Int,c = numC (x0 (p A)) (x0 (p B)):=⟨_,rfl⟩;rw [← hc] at CC0;have HCN:Hid (c = numC (x0 (p A)) (x0 (p B))):=hc
      have CC:Calls Tryz.prog 114 (#[.agg cA.toArray,.agg cB.toArray] ++ #[]) wr.drew fun e w' => e = .returned (.int .i64 c) ∧ Below wr.drew.heap.size wr.drew w':=by rw [Array.append_empty];exact CC0
      have HVD:Hid (RowsV x0 enc N blk cap lo hi wr.drew p):=VD;clear CC0 hc hcA hcB rdA rdB hB hA hF hNN hMID VD V HV
      go_upto_region 35 with fail
      try rw [e1]
      refine wp_region_M 11 (fun w' => w'.rangeAt blk (A * 9) cA ∧ w'.rangeAt blk (B * 9) cB) mixedO ⟨rgA,rgB⟩ (fun hHeld => ?_);refine wpAnyM_pure (i:=0) (oi:=_) (v:=?_) rfl (by kernel_rfl) (fun _ _ _ h => h) (Or.inl ⟨by kernel_rfl,?_⟩) (by assumption) ?_
      rotate_left
      · intro w' hSw;go_simp;try with_reducible rfl
      try simp only [Act.put,SL]
      refine wpAnyM_pure (i:=1) (oi:=_) (v:=?_) rfl (by kernel_rfl) (fun _ _ _ h => h) (Or.inl ⟨by kernel_rfl,?_⟩) (by assumption) ?_
      rotate_left
      · intro w' hSw;go_simp;try with_reducible rfl
      try simp only [Act.put,SL]
      refine wpAnyM_pure (i:=2) (oi:=_) (v:=?_) rfl (by kernel_rfl) (fun _ _ _ h => h) (Or.inl ⟨by kernel_rfl,?_⟩) (by assumption) ?_
      rotate_left
      · intro w' hSw;go_simp;try with_reducible rfl
      try simp only [Act.put,SL]
      refine wpAnyM_pure (i:=3) (oi:=_) (v:=?_) rfl (by kernel_rfl) (fun _ _ _ h => h) (Or.inl ⟨by kernel_rfl,?_⟩) (by assumption) ?_
      rotate_left
      · intro w' hSw;go_simp;try with_reducible rfl
      try simp only [Act.put,SL]
      refine wpAnyM_pure (i:=4) (oi:=_) (v:=?_) rfl (by kernel_rfl) (fun _ _ _ h => h) (Or.inl ⟨by kernel_rfl,?_⟩) (by assumption) ?_
      rotate_left
      · intro w' hSw;go_simp;try with_reducible rfl
      try simp only [Act.put,SL]
      refine wpAnyM_pure (i:=5) (oi:=_) (v:=?_) rfl (by kernel_rfl) (fun _ _ _ h => h) (Or.inl ⟨by kernel_rfl,?_⟩) (by assumption) ?_
      rotate_left
      · intro w' hSw;go_simp;try with_reducible rfl
      try simp only [Act.put,SL]
      refine wpAnyM_take (i:=6) (oi:=_) (v:=.agg cA.toArray) 16 rfl (by kernel_rfl) (fun _ _ _ h => h) (yieldsIf_load_mid (by kernel_rfl) 58 (.tmp 163) rfl blk (A * 9) (by simp [Act.eval,Act.put]) cA _ (fun w h => h.1) Tryz.underlying58 rfl (info_Rec9 hsA)) (by assumption) ?_
      try simp only [Act.put,SL]
      refine wpAnyM_pure (i:=7) (oi:=_) (v:=?_) rfl (by kernel_rfl) (fun _ _ _ h => h) (Or.inl ⟨by kernel_rfl,?_⟩) (by assumption) ?_
      rotate_left
      · intro w' hSw;go_simp;try with_reducible rfl
      try simp only [Act.put,SL]
      refine wpAnyM_pure (i:=8) (oi:=_) (v:=?_) rfl (by kernel_rfl) (fun _ _ _ h => h) (Or.inl ⟨by kernel_rfl,?_⟩) (by assumption) ?_
      rotate_left
      · intro w' hSw;go_simp;try with_reducible rfl
      try simp only [Act.put,SL]
      refine wpAnyM_pure (i:=9) (oi:=_) (v:=?_) rfl (by kernel_rfl) (fun _ _ _ h => h) (Or.inl ⟨by kernel_rfl,?_⟩) (by assumption) ?_
      rotate_left
      · intro w' hSw;go_simp;try with_reducible rfl
      try simp only [Act.put,SL]
      refine wpAnyM_take (i:=10) (oi:=_) (v:=.agg cB.toArray) 16 rfl (by kernel_rfl) (fun _ _ _ h => h) (yieldsIf_load_mid (by kernel_rfl) 58 (.tmp 167) rfl blk (B * 9) (by simp [Act.eval,Act.put]) cB _ (fun w h => h.2) Tryz.underlying58 rfl (info_Rec9 hsB)) (by assumption) ?_
      try simp only [Act.put,SL]
      refine wpAnyM_one (i:=11) (o:=_) rfl (by kernel_rfl) (by kernel_rfl) (fun KC hKC => ?_);refine step_callv (by kernel_rfl) (.tmp 158) 114 #[] _ _ rfl (by simp [Act.eval,Act.put]) #[.agg cA.toArray,.agg cB.toArray] (by simp [Act.eval,Act.put]) Tryz.func114 (by kernel_rfl) (by kernel_rfl) CC ?_;rintro ee w5 ⟨rfl,b5⟩;refine ⟨_,rfl,?_⟩;refine hKC _ _ ?_;clear hKC KC
      try simp only [Act.put,SL]
      refine wpAnyM_pureL (i:=12) (oi:=_) (v:=?_) rfl (by kernel_rfl) (fun _ _ _ h => h) (Or.inl ⟨by kernel_rfl,?_⟩) ?_
      rotate_left
      · intro w' hSw;go_simp;try with_reducible rfl
      try simp only [Act.put,SL]
      obtain ⟨dd,hdd⟩:∃ d:Bool,d = decide (c < 0):=⟨_,rfl⟩;have HDD:Hid (dd = decide (c < 0)):=hdd;rw [← hdd];clear hdd;refine wpAnyM_pureL (i:=13) (oi:=_) (v:=?_) rfl (by kernel_rfl) (fun _ _ _ h => h) (Or.inl ⟨by kernel_rfl,?_⟩) ?_
      rotate_left
      · intro w' hSw;go_simp;try with_reducible rfl
      try simp only [Act.put,SL]
      refine wpAnyM_done (by kernel_rfl) ?_ _;have HV5:Hid (RowsV x0 enc N blk cap lo hi w5 p):=View.below HVD.out b5 (by show hi ≤ wr.heap.size;omega);have HC5:Hid (ChgL [blk] w w5):=HC.out.trans ((ChgL.of_below ⟨rfl,rfl,rfl,Nat.le_refl _,fun _ _ => rfl⟩:ChgL [blk] wr wr.drew).trans (ChgL.of_below b5));clear HVD HC rgA rgB hsA hsB b5 hHeld CC hsz
      cases dd
      · go_wp2
        go_roundw
        case rel =>
          refine ⟨B + 1,j,by omega,by omega,by omega,by go_num,rfl,HV5.out,.inr ?_,HR.out,HC5.out⟩
          have h2:¬ c < 0:=by simpa using HDD.out
          rw [HCN.out] at h2;rw [show B + 1 - 1 = B by omega,show n - (B + 1) = A by have h8:=HN.out;have h9:=HAP.out;omega];exact ask_no HTG.out h2
        case measure => simp [intOf];omega
      · go_wp2
        go_roundw
        case rel =>
          refine ⟨i,B,hmi,hBi,by omega,rfl,by go_num,HV5.out,HL.out,.inr ?_,HC5.out⟩
          have h2:c < 0:=by simpa using HDD.out
          rw [HCN.out] at h2;rw [show P - B = A by have h9:=HAP.out;omega];exact ask_yes h2
        case measure => simp [intOf];omega
    · obtain rfl:i = j:=by omega
      clear V hij;obtain ⟨e,he⟩:∃ e,e = n - i:=⟨_,rfl⟩;have hF:=HF.out;have hNN:=HN.out;have hMID:=HMID.out
      have hie:mid + m = i + e:=by omega
      have hae:a ≤ i ∧ i ≤ m ∧ m ≤ e ∧ e ≤ b ∧ i ≤ mid ∧ mid ≤ e:=by omega
      have w5:IntKind.i64.wrap ((n:Int) - (i:Int)) = (e:Int):=by rw [IntKind.wrap_i64];omega
      have SP:=Sym.split (numL_ord x0) (p:=p) (a:=a) (m:=m) (b:=b) (s:=i) (e:=e) (mid:=mid) HS1.out HS2.out hie hae.1 hae.2.1 hae.2.2.1 hae.2.2.2.1 (fun h3 h4 => by
        rcases HL.out with h5 | h5
        · omega
        · rw [← he] at h5;exact h5) (fun h3 h4 => by
        rcases HR.out with h5 | h5
        · omega
        · rw [show P - i = e - 1 by omega] at h5;exact h5)
      obtain ⟨q0,hq0⟩:∃ q0:Nat → Nat,q0 = fun k => p (Sym.rot i m e k):=⟨_,rfl⟩;have HQ0:Hid (q0 = fun k => p (Sym.rot i m e k)):=hq0;rw [← hq0] at SP;have HSa:Hid (Sym.Srt (numL x0) q0 a i):=SP.1;have HSb:Hid (Sym.Srt (numL x0) q0 i mid):=SP.2.1;have HSc:Hid (Sym.Srt (numL x0) q0 mid e):=SP.2.2.1;have HSd:Hid (Sym.Srt (numL x0) q0 e b):=SP.2.2.2.1;have HX:Hid (∀ x y,a ≤ x → x < mid → mid ≤ y → y < b → numL x0 (q0 x) (q0 y)):=(fun x y h3 h4 h5 h6 => by rw [hq0];exact SP.2.2.2.2 x y h3 h4 h5 h6:∀ x y,a ≤ x → x < mid → mid ≤ y → y < b → numL x0 (q0 x) (q0 y));have HRe0:Hid (Sym.Re a b p q0):=(by rw [hq0];exact (Sym.Re.rots p hae.2.1 hae.2.2.1).mono hae.1 hae.2.2.2.1:Sym.Re a b p q0);have HO:Hid (a ≤ mid ∧ mid ≤ b ∧ b ≤ N ∧ mid ≤ N ∧ a < mid ∧ mid < b ∧ e ≤ N):=⟨by omega,by omega,by omega,by omega,by omega,by omega,by omega⟩
      have HT2:Hid (∀ x y,a ≤ x → x < i → i ≤ y → y < mid → q0 x < q0 y):=(fun x y h3 h4 h5 h6 => by
        have h7:=rot_c (e:=e) hie hae.2.1 hae.2.2.1 h5 h6;rw [hq0]
        show p (Sym.rot i m e x) < p (Sym.rot i m e y)
        rw [rot_a h4]
        exact HT.out x _ h3 (by omega) h7.1 (by omega):∀ x y,a ≤ x → x < i → i ≤ y → y < mid → q0 x < q0 y)
      have HT3':Hid (∀ q1,Sym.Re a mid q0 q1 → ∀ x y,mid ≤ x → x < e → e ≤ y → y < b → q1 x < q1 y):=(fun q1 k x y h3 h4 h5 h6 => by
        have h7:=rot_d (e:=e) hie hae.2.1 hae.2.2.1 h3 h4;rw [k.out (.inr h3),k.out (.inr (by omega)),hq0]
        show p (Sym.rot i m e x) < p (Sym.rot i m e y)
        rw [rot_b h5]
        exact HT.out _ y (by omega) h7.2 (by omega) h6:∀ q1,Sym.Re a mid q0 q1 → ∀ x y,mid ≤ x → x < e → e ≤ y → y < b → q1 x < q1 y)
      have HT3:∀ {q1},Sym.Re a mid q0 q1 → ∀ x y,mid ≤ x → x < e → e ≤ y → y < b → q1 x < q1 y:=fun k => HT3'.out _ k;have HL3:∀ {q1},Sym.Re a mid q0 q1 → Sym.Srt (numL x0) q1 mid e:=fun k => HSc.out.congr (fun x h3 h4 => k.out (.inr h3));have HL4:∀ {q1},Sym.Re a mid q0 q1 → Sym.Srt (numL x0) q1 e b:=fun k => HSd.out.congr (fun x h3 h4 => k.out (.inr (by omega)))
      have HN1:¬ (i < m ∧ m < e) → ∀ x,p (Sym.rot i m e x) = p x:=fun h x => by
        by_cases h3:i = m
        · rw [h3,rot_id1]
        · have h4:e = m:=by omega
          rw [h4,rot_id2]
      have HN2:¬ (a < i ∧ i < mid) → Sym.Srt (numL x0) q0 a mid:=fun h => by
        by_cases h3:a = i
        · rw [h3];exact HSb.out
        · have h4:mid = i:=by omega
          rw [h4];exact HSa.out
      have HN3:∀ {q1},Sym.Re a mid q0 q1 → ¬ (mid < e ∧ e < b) → Sym.Srt (numL x0) q1 mid b:=fun k h => by
        by_cases h3:mid = e
        · rw [h3];rw [h3] at k;exact HSd.out.congr (fun x h3 h4 => k.out (.inr h3))
        · have h4:b = e:=by omega
          rw [h4];exact HL3 k
      clear hF hNN hMID SP hq0 he
      by_cases c1:i < m
      · by_cases c1b:m < e
        · have HK1:Hid (i < m ∧ m < e):=⟨c1,c1b⟩
          have f1:decide ((i:Int) < (m:Int)) = true:=decide_eq_true (by omega);have g1:decide (i < m) = true:=decide_eq_true (by omega)
          have u1:(i:Int) < (m:Int):=by omega
          have f1b:decide ((m:Int) < (e:Int)) = true:=decide_eq_true (by omega);have g1b:decide (m < e) = true:=decide_eq_true (by omega)
          have u1b:(m:Int) < (e:Int):=by omega
          have CS:=rotate_any x0 enc p N blk cap lo hi wr HV.out hlo hN i m e (.func (.func 114) #[] #[]) HK1.out.1 HK1.out.2 (by have h9:=HO.out;omega)
          go_wp2_with fail
          refine CS.mono ?_;rintro ee w6 ⟨rfl,V6,C6⟩;have HV1:Hid (RowsV x0 enc N blk cap lo hi w6 q0):=(by rw [HQ0.out];exact V6:RowsV x0 enc N blk cap lo hi w6 q0);have HC1:Hid (ChgL [blk] w w6):=HC.out.trans C6;clear V6 C6 CS
          by_cases c2:a < i
          · by_cases c2b:i < mid
            · have HK2:Hid (a < i ∧ i < mid):=⟨c2,c2b⟩
              have f2:decide ((a:Int) < (i:Int)) = true:=decide_eq_true (by omega);have g2:decide (a < i) = true:=decide_eq_true (by omega)
              have u2:(a:Int) < (i:Int):=by omega
              have f2b:decide ((i:Int) < (mid:Int)) = true:=decide_eq_true (by omega);have g2b:decide (i < mid) = true:=decide_eq_true (by omega)
              have u2b:(i:Int) < (mid:Int):=by omega
              have CS:=HIH.out q0 w6 a i mid (by have h9:=HO.out;omega) HV1.out HK2.out.1 HK2.out.2 HO.out.2.2.2.1 HT2.out HSa.out HSb.out
              go_wp2_with fail
              refine CS.mono ?_;rintro ee w7 ⟨rfl,q1,Vq,hRe1,hSo1,C7⟩;have HVq:Hid (RowsV x0 enc N blk cap lo hi w7 q1):=Vq;have HRe1:Hid (Sym.Re a mid q0 q1):=hRe1;have HSo1:Hid (Sym.Srt (numL x0) q1 a mid):=hSo1;have HCq:Hid (ChgL [blk] w w7):=HC1.out.trans C7;clear Vq hRe1 hSo1 C7 CS
              by_cases c3:mid < e
              · by_cases c3b:e < b
                · have HK3:Hid (mid < e ∧ e < b):=⟨c3,c3b⟩
                  have f3:decide ((mid:Int) < (e:Int)) = true:=decide_eq_true (by omega);have g3:decide (mid < e) = true:=decide_eq_true (by omega)
                  have u3:(mid:Int) < (e:Int):=by omega
                  have f3b:decide ((e:Int) < (b:Int)) = true:=decide_eq_true (by omega);have g3b:decide (e < b) = true:=decide_eq_true (by omega)
                  have u3b:(e:Int) < (b:Int):=by omega
                  have CS:=HIH.out q1 w7 mid e b (by have h9:=HO.out;omega) HVq.out HK3.out.1 HK3.out.2 HO.out.2.2.1 (HT3 HRe1.out) (HL3 HRe1.out) (HL4 HRe1.out)
                  go_wp2_with fail
                  refine CS.mono ?_;rintro ee w9 ⟨rfl,r,Vr,hRe2,hSo2,C9⟩;have HVr:Hid (RowsV x0 enc N blk cap lo hi w9 r):=Vr;have HRe2:Hid (Sym.Re mid b q1 r):=hRe2;have HSo2:Hid (Sym.Srt (numL x0) r mid b):=hSo2;have HCr:Hid (ChgL [blk] w w9):=HCq.out.trans C9;clear Vr hRe2 hSo2 C9 CS;go_wp2
                  go_end0
                  have hl:=Sym.halves HO.out.1 HO.out.2.1 HX.out HRe1.out HRe2.out HSo1.out HSo2.out;exact ⟨rfl,_,HVr.out,HRe0.out.trans hl.2,hl.1,HCr.out⟩
                · have HK3:Hid (¬ (mid < e ∧ e < b)):=fun h => c3b h.2
                  have f3:decide ((mid:Int) < (e:Int)) = true:=decide_eq_true (by omega);have g3:decide (mid < e) = true:=decide_eq_true (by omega)
                  have u3:(mid:Int) < (e:Int):=by omega
                  have f3b:decide ((e:Int) < (b:Int)) = false:=decide_eq_false (by omega);have g3b:decide (e < b) = false:=decide_eq_false (by omega);have HVr:Hid (RowsV x0 enc N blk cap lo hi w7 q1):=HVq.out;have HRe2:Hid (Sym.Re mid b q1 q1):=Sym.Re.refl _ _ _;have HSo2:Hid (Sym.Srt (numL x0) q1 mid b):=HN3 HRe1.out HK3.out;have HCr:Hid (ChgL [blk] w w7):=HCq.out;go_wp2
                  go_end0
                  have hl:=Sym.halves HO.out.1 HO.out.2.1 HX.out HRe1.out HRe2.out HSo1.out HSo2.out;exact ⟨rfl,_,HVr.out,HRe0.out.trans hl.2,hl.1,HCr.out⟩
              · have HK3:Hid (¬ (mid < e ∧ e < b)):=fun h => c3 h.1
                have f3:decide ((mid:Int) < (e:Int)) = false:=decide_eq_false (by omega);have g3:decide (mid < e) = false:=decide_eq_false (by omega);have HVr:Hid (RowsV x0 enc N blk cap lo hi w7 q1):=HVq.out;have HRe2:Hid (Sym.Re mid b q1 q1):=Sym.Re.refl _ _ _;have HSo2:Hid (Sym.Srt (numL x0) q1 mid b):=HN3 HRe1.out HK3.out;have HCr:Hid (ChgL [blk] w w7):=HCq.out;go_wp2
                go_end0
                have hl:=Sym.halves HO.out.1 HO.out.2.1 HX.out HRe1.out HRe2.out HSo1.out HSo2.out;exact ⟨rfl,_,HVr.out,HRe0.out.trans hl.2,hl.1,HCr.out⟩
            · have HK2:Hid (¬ (a < i ∧ i < mid)):=fun h => c2b h.2
              have f2:decide ((a:Int) < (i:Int)) = true:=decide_eq_true (by omega);have g2:decide (a < i) = true:=decide_eq_true (by omega)
              have u2:(a:Int) < (i:Int):=by omega
              have f2b:decide ((i:Int) < (mid:Int)) = false:=decide_eq_false (by omega);have g2b:decide (i < mid) = false:=decide_eq_false (by omega);obtain ⟨q1,hq1⟩:∃ q1,q1 = q0:=⟨_,rfl⟩;have HVq:Hid (RowsV x0 enc N blk cap lo hi w6 q1):=(by rw [hq1];exact HV1.out:RowsV x0 enc N blk cap lo hi w6 q1);have HRe1:Hid (Sym.Re a mid q0 q1):=(by rw [hq1];exact Sym.Re.refl _ _ _:Sym.Re a mid q0 q1);have HSo1:Hid (Sym.Srt (numL x0) q1 a mid):=(by rw [hq1];exact HN2 HK2.out:Sym.Srt (numL x0) q1 a mid);have HCq:Hid (ChgL [blk] w w6):=HC1.out;clear hq1
              by_cases c3:mid < e
              · by_cases c3b:e < b
                · have HK3:Hid (mid < e ∧ e < b):=⟨c3,c3b⟩
                  have f3:decide ((mid:Int) < (e:Int)) = true:=decide_eq_true (by omega);have g3:decide (mid < e) = true:=decide_eq_true (by omega)
                  have u3:(mid:Int) < (e:Int):=by omega
                  have f3b:decide ((e:Int) < (b:Int)) = true:=decide_eq_true (by omega);have g3b:decide (e < b) = true:=decide_eq_true (by omega)
                  have u3b:(e:Int) < (b:Int):=by omega
                  have CS:=HIH.out q1 w6 mid e b (by have h9:=HO.out;omega) HVq.out HK3.out.1 HK3.out.2 HO.out.2.2.1 (HT3 HRe1.out) (HL3 HRe1.out) (HL4 HRe1.out)
                  go_wp2_with fail
                  refine CS.mono ?_;rintro ee w9 ⟨rfl,r,Vr,hRe2,hSo2,C9⟩;have HVr:Hid (RowsV x0 enc N blk cap lo hi w9 r):=Vr;have HRe2:Hid (Sym.Re mid b q1 r):=hRe2;have HSo2:Hid (Sym.Srt (numL x0) r mid b):=hSo2;have HCr:Hid (ChgL [blk] w w9):=HCq.out.trans C9;clear Vr hRe2 hSo2 C9 CS;go_wp2
                  go_end0
                  have hl:=Sym.halves HO.out.1 HO.out.2.1 HX.out HRe1.out HRe2.out HSo1.out HSo2.out;exact ⟨rfl,_,HVr.out,HRe0.out.trans hl.2,hl.1,HCr.out⟩
                · have HK3:Hid (¬ (mid < e ∧ e < b)):=fun h => c3b h.2
                  have f3:decide ((mid:Int) < (e:Int)) = true:=decide_eq_true (by omega);have g3:decide (mid < e) = true:=decide_eq_true (by omega)
                  have u3:(mid:Int) < (e:Int):=by omega
                  have f3b:decide ((e:Int) < (b:Int)) = false:=decide_eq_false (by omega);have g3b:decide (e < b) = false:=decide_eq_false (by omega);have HVr:Hid (RowsV x0 enc N blk cap lo hi w6 q1):=HVq.out;have HRe2:Hid (Sym.Re mid b q1 q1):=Sym.Re.refl _ _ _;have HSo2:Hid (Sym.Srt (numL x0) q1 mid b):=HN3 HRe1.out HK3.out;have HCr:Hid (ChgL [blk] w w6):=HCq.out;go_wp2
                  go_end0
                  have hl:=Sym.halves HO.out.1 HO.out.2.1 HX.out HRe1.out HRe2.out HSo1.out HSo2.out;exact ⟨rfl,_,HVr.out,HRe0.out.trans hl.2,hl.1,HCr.out⟩
              · have HK3:Hid (¬ (mid < e ∧ e < b)):=fun h => c3 h.1
                have f3:decide ((mid:Int) < (e:Int)) = false:=decide_eq_false (by omega);have g3:decide (mid < e) = false:=decide_eq_false (by omega);have HVr:Hid (RowsV x0 enc N blk cap lo hi w6 q1):=HVq.out;have HRe2:Hid (Sym.Re mid b q1 q1):=Sym.Re.refl _ _ _;have HSo2:Hid (Sym.Srt (numL x0) q1 mid b):=HN3 HRe1.out HK3.out;have HCr:Hid (ChgL [blk] w w6):=HCq.out;go_wp2
                go_end0
                have hl:=Sym.halves HO.out.1 HO.out.2.1 HX.out HRe1.out HRe2.out HSo1.out HSo2.out;exact ⟨rfl,_,HVr.out,HRe0.out.trans hl.2,hl.1,HCr.out⟩
          · have HK2:Hid (¬ (a < i ∧ i < mid)):=fun h => c2 h.1
            have f2:decide ((a:Int) < (i:Int)) = false:=decide_eq_false (by omega);have g2:decide (a < i) = false:=decide_eq_false (by omega);obtain ⟨q1,hq1⟩:∃ q1,q1 = q0:=⟨_,rfl⟩;have HVq:Hid (RowsV x0 enc N blk cap lo hi w6 q1):=(by rw [hq1];exact HV1.out:RowsV x0 enc N blk cap lo hi w6 q1);have HRe1:Hid (Sym.Re a mid q0 q1):=(by rw [hq1];exact Sym.Re.refl _ _ _:Sym.Re a mid q0 q1);have HSo1:Hid (Sym.Srt (numL x0) q1 a mid):=(by rw [hq1];exact HN2 HK2.out:Sym.Srt (numL x0) q1 a mid);have HCq:Hid (ChgL [blk] w w6):=HC1.out;clear hq1
            by_cases c3:mid < e
            · by_cases c3b:e < b
              · have HK3:Hid (mid < e ∧ e < b):=⟨c3,c3b⟩
                have f3:decide ((mid:Int) < (e:Int)) = true:=decide_eq_true (by omega);have g3:decide (mid < e) = true:=decide_eq_true (by omega)
                have u3:(mid:Int) < (e:Int):=by omega
                have f3b:decide ((e:Int) < (b:Int)) = true:=decide_eq_true (by omega);have g3b:decide (e < b) = true:=decide_eq_true (by omega)
                have u3b:(e:Int) < (b:Int):=by omega
                have CS:=HIH.out q1 w6 mid e b (by have h9:=HO.out;omega) HVq.out HK3.out.1 HK3.out.2 HO.out.2.2.1 (HT3 HRe1.out) (HL3 HRe1.out) (HL4 HRe1.out)
                go_wp2_with fail
                refine CS.mono ?_;rintro ee w9 ⟨rfl,r,Vr,hRe2,hSo2,C9⟩;have HVr:Hid (RowsV x0 enc N blk cap lo hi w9 r):=Vr;have HRe2:Hid (Sym.Re mid b q1 r):=hRe2;have HSo2:Hid (Sym.Srt (numL x0) r mid b):=hSo2;have HCr:Hid (ChgL [blk] w w9):=HCq.out.trans C9;clear Vr hRe2 hSo2 C9 CS;go_wp2
                go_end0
                have hl:=Sym.halves HO.out.1 HO.out.2.1 HX.out HRe1.out HRe2.out HSo1.out HSo2.out;exact ⟨rfl,_,HVr.out,HRe0.out.trans hl.2,hl.1,HCr.out⟩
              · have HK3:Hid (¬ (mid < e ∧ e < b)):=fun h => c3b h.2
                have f3:decide ((mid:Int) < (e:Int)) = true:=decide_eq_true (by omega);have g3:decide (mid < e) = true:=decide_eq_true (by omega)
                have u3:(mid:Int) < (e:Int):=by omega
                have f3b:decide ((e:Int) < (b:Int)) = false:=decide_eq_false (by omega);have g3b:decide (e < b) = false:=decide_eq_false (by omega);have HVr:Hid (RowsV x0 enc N blk cap lo hi w6 q1):=HVq.out;have HRe2:Hid (Sym.Re mid b q1 q1):=Sym.Re.refl _ _ _;have HSo2:Hid (Sym.Srt (numL x0) q1 mid b):=HN3 HRe1.out HK3.out;have HCr:Hid (ChgL [blk] w w6):=HCq.out;go_wp2
                go_end0
                have hl:=Sym.halves HO.out.1 HO.out.2.1 HX.out HRe1.out HRe2.out HSo1.out HSo2.out;exact ⟨rfl,_,HVr.out,HRe0.out.trans hl.2,hl.1,HCr.out⟩
            · have HK3:Hid (¬ (mid < e ∧ e < b)):=fun h => c3 h.1
              have f3:decide ((mid:Int) < (e:Int)) = false:=decide_eq_false (by omega);have g3:decide (mid < e) = false:=decide_eq_false (by omega);have HVr:Hid (RowsV x0 enc N blk cap lo hi w6 q1):=HVq.out;have HRe2:Hid (Sym.Re mid b q1 q1):=Sym.Re.refl _ _ _;have HSo2:Hid (Sym.Srt (numL x0) q1 mid b):=HN3 HRe1.out HK3.out;have HCr:Hid (ChgL [blk] w w6):=HCq.out;go_wp2
              go_end0
              have hl:=Sym.halves HO.out.1 HO.out.2.1 HX.out HRe1.out HRe2.out HSo1.out HSo2.out;exact ⟨rfl,_,HVr.out,HRe0.out.trans hl.2,hl.1,HCr.out⟩
        · have HK1:Hid (¬ (i < m ∧ m < e)):=fun h => c1b h.2
          have f1:decide ((i:Int) < (m:Int)) = true:=decide_eq_true (by omega);have g1:decide (i < m) = true:=decide_eq_true (by omega)
          have u1:(i:Int) < (m:Int):=by omega
          have f1b:decide ((m:Int) < (e:Int)) = false:=decide_eq_false (by omega);have g1b:decide (m < e) = false:=decide_eq_false (by omega);have HV1:Hid (RowsV x0 enc N blk cap lo hi wr q0):=(HV.out.same (fun x _ => by rw [HQ0.out];exact (HN1 HK1.out x).symm):RowsV x0 enc N blk cap lo hi wr q0);have HC1:Hid (ChgL [blk] w wr):=HC.out
          by_cases c2:a < i
          · by_cases c2b:i < mid
            · have HK2:Hid (a < i ∧ i < mid):=⟨c2,c2b⟩
              have f2:decide ((a:Int) < (i:Int)) = true:=decide_eq_true (by omega);have g2:decide (a < i) = true:=decide_eq_true (by omega)
              have u2:(a:Int) < (i:Int):=by omega
              have f2b:decide ((i:Int) < (mid:Int)) = true:=decide_eq_true (by omega);have g2b:decide (i < mid) = true:=decide_eq_true (by omega)
              have u2b:(i:Int) < (mid:Int):=by omega
              have CS:=HIH.out q0 wr a i mid (by have h9:=HO.out;omega) HV1.out HK2.out.1 HK2.out.2 HO.out.2.2.2.1 HT2.out HSa.out HSb.out
              go_wp2_with fail
              refine CS.mono ?_;rintro ee w7 ⟨rfl,q1,Vq,hRe1,hSo1,C7⟩;have HVq:Hid (RowsV x0 enc N blk cap lo hi w7 q1):=Vq;have HRe1:Hid (Sym.Re a mid q0 q1):=hRe1;have HSo1:Hid (Sym.Srt (numL x0) q1 a mid):=hSo1;have HCq:Hid (ChgL [blk] w w7):=HC1.out.trans C7;clear Vq hRe1 hSo1 C7 CS
              by_cases c3:mid < e
              · by_cases c3b:e < b
                · have HK3:Hid (mid < e ∧ e < b):=⟨c3,c3b⟩
                  have f3:decide ((mid:Int) < (e:Int)) = true:=decide_eq_true (by omega);have g3:decide (mid < e) = true:=decide_eq_true (by omega)
                  have u3:(mid:Int) < (e:Int):=by omega
                  have f3b:decide ((e:Int) < (b:Int)) = true:=decide_eq_true (by omega);have g3b:decide (e < b) = true:=decide_eq_true (by omega)
                  have u3b:(e:Int) < (b:Int):=by omega
                  have CS:=HIH.out q1 w7 mid e b (by have h9:=HO.out;omega) HVq.out HK3.out.1 HK3.out.2 HO.out.2.2.1 (HT3 HRe1.out) (HL3 HRe1.out) (HL4 HRe1.out)
                  go_wp2_with fail
                  refine CS.mono ?_;rintro ee w9 ⟨rfl,r,Vr,hRe2,hSo2,C9⟩;have HVr:Hid (RowsV x0 enc N blk cap lo hi w9 r):=Vr;have HRe2:Hid (Sym.Re mid b q1 r):=hRe2;have HSo2:Hid (Sym.Srt (numL x0) r mid b):=hSo2;have HCr:Hid (ChgL [blk] w w9):=HCq.out.trans C9;clear Vr hRe2 hSo2 C9 CS;go_wp2
                  go_end0
                  have hl:=Sym.halves HO.out.1 HO.out.2.1 HX.out HRe1.out HRe2.out HSo1.out HSo2.out;exact ⟨rfl,_,HVr.out,HRe0.out.trans hl.2,hl.1,HCr.out⟩
                · have HK3:Hid (¬ (mid < e ∧ e < b)):=fun h => c3b h.2
                  have f3:decide ((mid:Int) < (e:Int)) = true:=decide_eq_true (by omega);have g3:decide (mid < e) = true:=decide_eq_true (by omega)
                  have u3:(mid:Int) < (e:Int):=by omega
                  have f3b:decide ((e:Int) < (b:Int)) = false:=decide_eq_false (by omega);have g3b:decide (e < b) = false:=decide_eq_false (by omega);have HVr:Hid (RowsV x0 enc N blk cap lo hi w7 q1):=HVq.out;have HRe2:Hid (Sym.Re mid b q1 q1):=Sym.Re.refl _ _ _;have HSo2:Hid (Sym.Srt (numL x0) q1 mid b):=HN3 HRe1.out HK3.out;have HCr:Hid (ChgL [blk] w w7):=HCq.out;go_wp2
                  go_end0
                  have hl:=Sym.halves HO.out.1 HO.out.2.1 HX.out HRe1.out HRe2.out HSo1.out HSo2.out;exact ⟨rfl,_,HVr.out,HRe0.out.trans hl.2,hl.1,HCr.out⟩
              · have HK3:Hid (¬ (mid < e ∧ e < b)):=fun h => c3 h.1
                have f3:decide ((mid:Int) < (e:Int)) = false:=decide_eq_false (by omega);have g3:decide (mid < e) = false:=decide_eq_false (by omega);have HVr:Hid (RowsV x0 enc N blk cap lo hi w7 q1):=HVq.out;have HRe2:Hid (Sym.Re mid b q1 q1):=Sym.Re.refl _ _ _;have HSo2:Hid (Sym.Srt (numL x0) q1 mid b):=HN3 HRe1.out HK3.out;have HCr:Hid (ChgL [blk] w w7):=HCq.out;go_wp2
                go_end0
                have hl:=Sym.halves HO.out.1 HO.out.2.1 HX.out HRe1.out HRe2.out HSo1.out HSo2.out;exact ⟨rfl,_,HVr.out,HRe0.out.trans hl.2,hl.1,HCr.out⟩
            · have HK2:Hid (¬ (a < i ∧ i < mid)):=fun h => c2b h.2
              have f2:decide ((a:Int) < (i:Int)) = true:=decide_eq_true (by omega);have g2:decide (a < i) = true:=decide_eq_true (by omega)
              have u2:(a:Int) < (i:Int):=by omega
              have f2b:decide ((i:Int) < (mid:Int)) = false:=decide_eq_false (by omega);have g2b:decide (i < mid) = false:=decide_eq_false (by omega);obtain ⟨q1,hq1⟩:∃ q1,q1 = q0:=⟨_,rfl⟩;have HVq:Hid (RowsV x0 enc N blk cap lo hi wr q1):=(by rw [hq1];exact HV1.out:RowsV x0 enc N blk cap lo hi wr q1);have HRe1:Hid (Sym.Re a mid q0 q1):=(by rw [hq1];exact Sym.Re.refl _ _ _:Sym.Re a mid q0 q1);have HSo1:Hid (Sym.Srt (numL x0) q1 a mid):=(by rw [hq1];exact HN2 HK2.out:Sym.Srt (numL x0) q1 a mid);have HCq:Hid (ChgL [blk] w wr):=HC1.out;clear hq1
              by_cases c3:mid < e
              · by_cases c3b:e < b
                · have HK3:Hid (mid < e ∧ e < b):=⟨c3,c3b⟩
                  have f3:decide ((mid:Int) < (e:Int)) = true:=decide_eq_true (by omega);have g3:decide (mid < e) = true:=decide_eq_true (by omega)
                  have u3:(mid:Int) < (e:Int):=by omega
                  have f3b:decide ((e:Int) < (b:Int)) = true:=decide_eq_true (by omega);have g3b:decide (e < b) = true:=decide_eq_true (by omega)
                  have u3b:(e:Int) < (b:Int):=by omega
                  have CS:=HIH.out q1 wr mid e b (by have h9:=HO.out;omega) HVq.out HK3.out.1 HK3.out.2 HO.out.2.2.1 (HT3 HRe1.out) (HL3 HRe1.out) (HL4 HRe1.out)
                  go_wp2_with fail
                  refine CS.mono ?_;rintro ee w9 ⟨rfl,r,Vr,hRe2,hSo2,C9⟩;have HVr:Hid (RowsV x0 enc N blk cap lo hi w9 r):=Vr;have HRe2:Hid (Sym.Re mid b q1 r):=hRe2;have HSo2:Hid (Sym.Srt (numL x0) r mid b):=hSo2;have HCr:Hid (ChgL [blk] w w9):=HCq.out.trans C9;clear Vr hRe2 hSo2 C9 CS;go_wp2
                  go_end0
                  have hl:=Sym.halves HO.out.1 HO.out.2.1 HX.out HRe1.out HRe2.out HSo1.out HSo2.out;exact ⟨rfl,_,HVr.out,HRe0.out.trans hl.2,hl.1,HCr.out⟩
                · have HK3:Hid (¬ (mid < e ∧ e < b)):=fun h => c3b h.2
                  have f3:decide ((mid:Int) < (e:Int)) = true:=decide_eq_true (by omega);have g3:decide (mid < e) = true:=decide_eq_true (by omega)
                  have u3:(mid:Int) < (e:Int):=by omega
                  have f3b:decide ((e:Int) < (b:Int)) = false:=decide_eq_false (by omega);have g3b:decide (e < b) = false:=decide_eq_false (by omega);have HVr:Hid (RowsV x0 enc N blk cap lo hi wr q1):=HVq.out;have HRe2:Hid (Sym.Re mid b q1 q1):=Sym.Re.refl _ _ _;have HSo2:Hid (Sym.Srt (numL x0) q1 mid b):=HN3 HRe1.out HK3.out;have HCr:Hid (ChgL [blk] w wr):=HCq.out;go_wp2
                  go_end0
                  have hl:=Sym.halves HO.out.1 HO.out.2.1 HX.out HRe1.out HRe2.out HSo1.out HSo2.out;exact ⟨rfl,_,HVr.out,HRe0.out.trans hl.2,hl.1,HCr.out⟩
              · have HK3:Hid (¬ (mid < e ∧ e < b)):=fun h => c3 h.1
                have f3:decide ((mid:Int) < (e:Int)) = false:=decide_eq_false (by omega);have g3:decide (mid < e) = false:=decide_eq_false (by omega);have HVr:Hid (RowsV x0 enc N blk cap lo hi wr q1):=HVq.out;have HRe2:Hid (Sym.Re mid b q1 q1):=Sym.Re.refl _ _ _;have HSo2:Hid (Sym.Srt (numL x0) q1 mid b):=HN3 HRe1.out HK3.out;have HCr:Hid (ChgL [blk] w wr):=HCq.out;go_wp2
                go_end0
                have hl:=Sym.halves HO.out.1 HO.out.2.1 HX.out HRe1.out HRe2.out HSo1.out HSo2.out;exact ⟨rfl,_,HVr.out,HRe0.out.trans hl.2,hl.1,HCr.out⟩
          · have HK2:Hid (¬ (a < i ∧ i < mid)):=fun h => c2 h.1
            have f2:decide ((a:Int) < (i:Int)) = false:=decide_eq_false (by omega);have g2:decide (a < i) = false:=decide_eq_false (by omega);obtain ⟨q1,hq1⟩:∃ q1,q1 = q0:=⟨_,rfl⟩;have HVq:Hid (RowsV x0 enc N blk cap lo hi wr q1):=(by rw [hq1];exact HV1.out:RowsV x0 enc N blk cap lo hi wr q1);have HRe1:Hid (Sym.Re a mid q0 q1):=(by rw [hq1];exact Sym.Re.refl _ _ _:Sym.Re a mid q0 q1);have HSo1:Hid (Sym.Srt (numL x0) q1 a mid):=(by rw [hq1];exact HN2 HK2.out:Sym.Srt (numL x0) q1 a mid);have HCq:Hid (ChgL [blk] w wr):=HC1.out;clear hq1
            by_cases c3:mid < e
            · by_cases c3b:e < b
              · have HK3:Hid (mid < e ∧ e < b):=⟨c3,c3b⟩
                have f3:decide ((mid:Int) < (e:Int)) = true:=decide_eq_true (by omega);have g3:decide (mid < e) = true:=decide_eq_true (by omega)
                have u3:(mid:Int) < (e:Int):=by omega
                have f3b:decide ((e:Int) < (b:Int)) = true:=decide_eq_true (by omega);have g3b:decide (e < b) = true:=decide_eq_true (by omega)
                have u3b:(e:Int) < (b:Int):=by omega
                have CS:=HIH.out q1 wr mid e b (by have h9:=HO.out;omega) HVq.out HK3.out.1 HK3.out.2 HO.out.2.2.1 (HT3 HRe1.out) (HL3 HRe1.out) (HL4 HRe1.out)
                go_wp2_with fail
                refine CS.mono ?_;rintro ee w9 ⟨rfl,r,Vr,hRe2,hSo2,C9⟩;have HVr:Hid (RowsV x0 enc N blk cap lo hi w9 r):=Vr;have HRe2:Hid (Sym.Re mid b q1 r):=hRe2;have HSo2:Hid (Sym.Srt (numL x0) r mid b):=hSo2;have HCr:Hid (ChgL [blk] w w9):=HCq.out.trans C9;clear Vr hRe2 hSo2 C9 CS;go_wp2
                go_end0
                have hl:=Sym.halves HO.out.1 HO.out.2.1 HX.out HRe1.out HRe2.out HSo1.out HSo2.out;exact ⟨rfl,_,HVr.out,HRe0.out.trans hl.2,hl.1,HCr.out⟩
              · have HK3:Hid (¬ (mid < e ∧ e < b)):=fun h => c3b h.2
                have f3:decide ((mid:Int) < (e:Int)) = true:=decide_eq_true (by omega);have g3:decide (mid < e) = true:=decide_eq_true (by omega)
                have u3:(mid:Int) < (e:Int):=by omega
                have f3b:decide ((e:Int) < (b:Int)) = false:=decide_eq_false (by omega);have g3b:decide (e < b) = false:=decide_eq_false (by omega);have HVr:Hid (RowsV x0 enc N blk cap lo hi wr q1):=HVq.out;have HRe2:Hid (Sym.Re mid b q1 q1):=Sym.Re.refl _ _ _;have HSo2:Hid (Sym.Srt (numL x0) q1 mid b):=HN3 HRe1.out HK3.out;have HCr:Hid (ChgL [blk] w wr):=HCq.out;go_wp2
                go_end0
                have hl:=Sym.halves HO.out.1 HO.out.2.1 HX.out HRe1.out HRe2.out HSo1.out HSo2.out;exact ⟨rfl,_,HVr.out,HRe0.out.trans hl.2,hl.1,HCr.out⟩
            · have HK3:Hid (¬ (mid < e ∧ e < b)):=fun h => c3 h.1
              have f3:decide ((mid:Int) < (e:Int)) = false:=decide_eq_false (by omega);have g3:decide (mid < e) = false:=decide_eq_false (by omega);have HVr:Hid (RowsV x0 enc N blk cap lo hi wr q1):=HVq.out;have HRe2:Hid (Sym.Re mid b q1 q1):=Sym.Re.refl _ _ _;have HSo2:Hid (Sym.Srt (numL x0) q1 mid b):=HN3 HRe1.out HK3.out;have HCr:Hid (ChgL [blk] w wr):=HCq.out;go_wp2
              go_end0
              have hl:=Sym.halves HO.out.1 HO.out.2.1 HX.out HRe1.out HRe2.out HSo1.out HSo2.out;exact ⟨rfl,_,HVr.out,HRe0.out.trans hl.2,hl.1,HCr.out⟩
      · have HK1:Hid (¬ (i < m ∧ m < e)):=fun h => c1 h.1
        have f1:decide ((i:Int) < (m:Int)) = false:=decide_eq_false (by omega);have g1:decide (i < m) = false:=decide_eq_false (by omega);have HV1:Hid (RowsV x0 enc N blk cap lo hi wr q0):=(HV.out.same (fun x _ => by rw [HQ0.out];exact (HN1 HK1.out x).symm):RowsV x0 enc N blk cap lo hi wr q0);have HC1:Hid (ChgL [blk] w wr):=HC.out
        by_cases c2:a < i
        · by_cases c2b:i < mid
          · have HK2:Hid (a < i ∧ i < mid):=⟨c2,c2b⟩
            have f2:decide ((a:Int) < (i:Int)) = true:=decide_eq_true (by omega);have g2:decide (a < i) = true:=decide_eq_true (by omega)
            have u2:(a:Int) < (i:Int):=by omega
            have f2b:decide ((i:Int) < (mid:Int)) = true:=decide_eq_true (by omega);have g2b:decide (i < mid) = true:=decide_eq_true (by omega)
            have u2b:(i:Int) < (mid:Int):=by omega
            have CS:=HIH.out q0 wr a i mid (by have h9:=HO.out;omega) HV1.out HK2.out.1 HK2.out.2 HO.out.2.2.2.1 HT2.out HSa.out HSb.out
            go_wp2_with fail
            refine CS.mono ?_;rintro ee w7 ⟨rfl,q1,Vq,hRe1,hSo1,C7⟩;have HVq:Hid (RowsV x0 enc N blk cap lo hi w7 q1):=Vq;have HRe1:Hid (Sym.Re a mid q0 q1):=hRe1;have HSo1:Hid (Sym.Srt (numL x0) q1 a mid):=hSo1;have HCq:Hid (ChgL [blk] w w7):=HC1.out.trans C7;clear Vq hRe1 hSo1 C7 CS
            by_cases c3:mid < e
            · by_cases c3b:e < b
              · have HK3:Hid (mid < e ∧ e < b):=⟨c3,c3b⟩
                have f3:decide ((mid:Int) < (e:Int)) = true:=decide_eq_true (by omega);have g3:decide (mid < e) = true:=decide_eq_true (by omega)
                have u3:(mid:Int) < (e:Int):=by omega
                have f3b:decide ((e:Int) < (b:Int)) = true:=decide_eq_true (by omega);have g3b:decide (e < b) = true:=decide_eq_true (by omega)
                have u3b:(e:Int) < (b:Int):=by omega
                have CS:=HIH.out q1 w7 mid e b (by have h9:=HO.out;omega) HVq.out HK3.out.1 HK3.out.2 HO.out.2.2.1 (HT3 HRe1.out) (HL3 HRe1.out) (HL4 HRe1.out)
                go_wp2_with fail
                refine CS.mono ?_;rintro ee w9 ⟨rfl,r,Vr,hRe2,hSo2,C9⟩;have HVr:Hid (RowsV x0 enc N blk cap lo hi w9 r):=Vr;have HRe2:Hid (Sym.Re mid b q1 r):=hRe2;have HSo2:Hid (Sym.Srt (numL x0) r mid b):=hSo2;have HCr:Hid (ChgL [blk] w w9):=HCq.out.trans C9;clear Vr hRe2 hSo2 C9 CS;go_wp2
                go_end0
                have hl:=Sym.halves HO.out.1 HO.out.2.1 HX.out HRe1.out HRe2.out HSo1.out HSo2.out;exact ⟨rfl,_,HVr.out,HRe0.out.trans hl.2,hl.1,HCr.out⟩
              · have HK3:Hid (¬ (mid < e ∧ e < b)):=fun h => c3b h.2
                have f3:decide ((mid:Int) < (e:Int)) = true:=decide_eq_true (by omega);have g3:decide (mid < e) = true:=decide_eq_true (by omega)
                have u3:(mid:Int) < (e:Int):=by omega
                have f3b:decide ((e:Int) < (b:Int)) = false:=decide_eq_false (by omega);have g3b:decide (e < b) = false:=decide_eq_false (by omega);have HVr:Hid (RowsV x0 enc N blk cap lo hi w7 q1):=HVq.out;have HRe2:Hid (Sym.Re mid b q1 q1):=Sym.Re.refl _ _ _;have HSo2:Hid (Sym.Srt (numL x0) q1 mid b):=HN3 HRe1.out HK3.out;have HCr:Hid (ChgL [blk] w w7):=HCq.out;go_wp2
                go_end0
                have hl:=Sym.halves HO.out.1 HO.out.2.1 HX.out HRe1.out HRe2.out HSo1.out HSo2.out;exact ⟨rfl,_,HVr.out,HRe0.out.trans hl.2,hl.1,HCr.out⟩
            · have HK3:Hid (¬ (mid < e ∧ e < b)):=fun h => c3 h.1
              have f3:decide ((mid:Int) < (e:Int)) = false:=decide_eq_false (by omega);have g3:decide (mid < e) = false:=decide_eq_false (by omega);have HVr:Hid (RowsV x0 enc N blk cap lo hi w7 q1):=HVq.out;have HRe2:Hid (Sym.Re mid b q1 q1):=Sym.Re.refl _ _ _;have HSo2:Hid (Sym.Srt (numL x0) q1 mid b):=HN3 HRe1.out HK3.out;have HCr:Hid (ChgL [blk] w w7):=HCq.out;go_wp2
              go_end0
              have hl:=Sym.halves HO.out.1 HO.out.2.1 HX.out HRe1.out HRe2.out HSo1.out HSo2.out;exact ⟨rfl,_,HVr.out,HRe0.out.trans hl.2,hl.1,HCr.out⟩
          · have HK2:Hid (¬ (a < i ∧ i < mid)):=fun h => c2b h.2
            have f2:decide ((a:Int) < (i:Int)) = true:=decide_eq_true (by omega);have g2:decide (a < i) = true:=decide_eq_true (by omega)
            have u2:(a:Int) < (i:Int):=by omega
            have f2b:decide ((i:Int) < (mid:Int)) = false:=decide_eq_false (by omega);have g2b:decide (i < mid) = false:=decide_eq_false (by omega);obtain ⟨q1,hq1⟩:∃ q1,q1 = q0:=⟨_,rfl⟩;have HVq:Hid (RowsV x0 enc N blk cap lo hi wr q1):=(by rw [hq1];exact HV1.out:RowsV x0 enc N blk cap lo hi wr q1);have HRe1:Hid (Sym.Re a mid q0 q1):=(by rw [hq1];exact Sym.Re.refl _ _ _:Sym.Re a mid q0 q1);have HSo1:Hid (Sym.Srt (numL x0) q1 a mid):=(by rw [hq1];exact HN2 HK2.out:Sym.Srt (numL x0) q1 a mid);have HCq:Hid (ChgL [blk] w wr):=HC1.out;clear hq1
            by_cases c3:mid < e
            · by_cases c3b:e < b
              · have HK3:Hid (mid < e ∧ e < b):=⟨c3,c3b⟩
                have f3:decide ((mid:Int) < (e:Int)) = true:=decide_eq_true (by omega);have g3:decide (mid < e) = true:=decide_eq_true (by omega)
                have u3:(mid:Int) < (e:Int):=by omega
                have f3b:decide ((e:Int) < (b:Int)) = true:=decide_eq_true (by omega);have g3b:decide (e < b) = true:=decide_eq_true (by omega)
                have u3b:(e:Int) < (b:Int):=by omega
                have CS:=HIH.out q1 wr mid e b (by have h9:=HO.out;omega) HVq.out HK3.out.1 HK3.out.2 HO.out.2.2.1 (HT3 HRe1.out) (HL3 HRe1.out) (HL4 HRe1.out)
                go_wp2_with fail
                refine CS.mono ?_;rintro ee w9 ⟨rfl,r,Vr,hRe2,hSo2,C9⟩;have HVr:Hid (RowsV x0 enc N blk cap lo hi w9 r):=Vr;have HRe2:Hid (Sym.Re mid b q1 r):=hRe2;have HSo2:Hid (Sym.Srt (numL x0) r mid b):=hSo2;have HCr:Hid (ChgL [blk] w w9):=HCq.out.trans C9;clear Vr hRe2 hSo2 C9 CS;go_wp2
                go_end0
                have hl:=Sym.halves HO.out.1 HO.out.2.1 HX.out HRe1.out HRe2.out HSo1.out HSo2.out;exact ⟨rfl,_,HVr.out,HRe0.out.trans hl.2,hl.1,HCr.out⟩
              · have HK3:Hid (¬ (mid < e ∧ e < b)):=fun h => c3b h.2
                have f3:decide ((mid:Int) < (e:Int)) = true:=decide_eq_true (by omega);have g3:decide (mid < e) = true:=decide_eq_true (by omega)
                have u3:(mid:Int) < (e:Int):=by omega
                have f3b:decide ((e:Int) < (b:Int)) = false:=decide_eq_false (by omega);have g3b:decide (e < b) = false:=decide_eq_false (by omega);have HVr:Hid (RowsV x0 enc N blk cap lo hi wr q1):=HVq.out;have HRe2:Hid (Sym.Re mid b q1 q1):=Sym.Re.refl _ _ _;have HSo2:Hid (Sym.Srt (numL x0) q1 mid b):=HN3 HRe1.out HK3.out;have HCr:Hid (ChgL [blk] w wr):=HCq.out;go_wp2
                go_end0
                have hl:=Sym.halves HO.out.1 HO.out.2.1 HX.out HRe1.out HRe2.out HSo1.out HSo2.out;exact ⟨rfl,_,HVr.out,HRe0.out.trans hl.2,hl.1,HCr.out⟩
            · have HK3:Hid (¬ (mid < e ∧ e < b)):=fun h => c3 h.1
              have f3:decide ((mid:Int) < (e:Int)) = false:=decide_eq_false (by omega);have g3:decide (mid < e) = false:=decide_eq_false (by omega);have HVr:Hid (RowsV x0 enc N blk cap lo hi wr q1):=HVq.out;have HRe2:Hid (Sym.Re mid b q1 q1):=Sym.Re.refl _ _ _;have HSo2:Hid (Sym.Srt (numL x0) q1 mid b):=HN3 HRe1.out HK3.out;have HCr:Hid (ChgL [blk] w wr):=HCq.out;go_wp2
              go_end0
              have hl:=Sym.halves HO.out.1 HO.out.2.1 HX.out HRe1.out HRe2.out HSo1.out HSo2.out;exact ⟨rfl,_,HVr.out,HRe0.out.trans hl.2,hl.1,HCr.out⟩
        · have HK2:Hid (¬ (a < i ∧ i < mid)):=fun h => c2 h.1
          have f2:decide ((a:Int) < (i:Int)) = false:=decide_eq_false (by omega);have g2:decide (a < i) = false:=decide_eq_false (by omega);obtain ⟨q1,hq1⟩:∃ q1,q1 = q0:=⟨_,rfl⟩;have HVq:Hid (RowsV x0 enc N blk cap lo hi wr q1):=(by rw [hq1];exact HV1.out:RowsV x0 enc N blk cap lo hi wr q1);have HRe1:Hid (Sym.Re a mid q0 q1):=(by rw [hq1];exact Sym.Re.refl _ _ _:Sym.Re a mid q0 q1);have HSo1:Hid (Sym.Srt (numL x0) q1 a mid):=(by rw [hq1];exact HN2 HK2.out:Sym.Srt (numL x0) q1 a mid);have HCq:Hid (ChgL [blk] w wr):=HC1.out;clear hq1
          by_cases c3:mid < e
          · by_cases c3b:e < b
            · have HK3:Hid (mid < e ∧ e < b):=⟨c3,c3b⟩
              have f3:decide ((mid:Int) < (e:Int)) = true:=decide_eq_true (by omega);have g3:decide (mid < e) = true:=decide_eq_true (by omega)
              have u3:(mid:Int) < (e:Int):=by omega
              have f3b:decide ((e:Int) < (b:Int)) = true:=decide_eq_true (by omega);have g3b:decide (e < b) = true:=decide_eq_true (by omega)
              have u3b:(e:Int) < (b:Int):=by omega
              have CS:=HIH.out q1 wr mid e b (by have h9:=HO.out;omega) HVq.out HK3.out.1 HK3.out.2 HO.out.2.2.1 (HT3 HRe1.out) (HL3 HRe1.out) (HL4 HRe1.out)
              go_wp2_with fail
              refine CS.mono ?_;rintro ee w9 ⟨rfl,r,Vr,hRe2,hSo2,C9⟩;have HVr:Hid (RowsV x0 enc N blk cap lo hi w9 r):=Vr;have HRe2:Hid (Sym.Re mid b q1 r):=hRe2;have HSo2:Hid (Sym.Srt (numL x0) r mid b):=hSo2;have HCr:Hid (ChgL [blk] w w9):=HCq.out.trans C9;clear Vr hRe2 hSo2 C9 CS;go_wp2
              go_end0
              have hl:=Sym.halves HO.out.1 HO.out.2.1 HX.out HRe1.out HRe2.out HSo1.out HSo2.out;exact ⟨rfl,_,HVr.out,HRe0.out.trans hl.2,hl.1,HCr.out⟩
            · have HK3:Hid (¬ (mid < e ∧ e < b)):=fun h => c3b h.2
              have f3:decide ((mid:Int) < (e:Int)) = true:=decide_eq_true (by omega);have g3:decide (mid < e) = true:=decide_eq_true (by omega)
              have u3:(mid:Int) < (e:Int):=by omega
              have f3b:decide ((e:Int) < (b:Int)) = false:=decide_eq_false (by omega);have g3b:decide (e < b) = false:=decide_eq_false (by omega);have HVr:Hid (RowsV x0 enc N blk cap lo hi wr q1):=HVq.out;have HRe2:Hid (Sym.Re mid b q1 q1):=Sym.Re.refl _ _ _;have HSo2:Hid (Sym.Srt (numL x0) q1 mid b):=HN3 HRe1.out HK3.out;have HCr:Hid (ChgL [blk] w wr):=HCq.out;go_wp2
              go_end0
              have hl:=Sym.halves HO.out.1 HO.out.2.1 HX.out HRe1.out HRe2.out HSo1.out HSo2.out;exact ⟨rfl,_,HVr.out,HRe0.out.trans hl.2,hl.1,HCr.out⟩
          · have HK3:Hid (¬ (mid < e ∧ e < b)):=fun h => c3 h.1
            have f3:decide ((mid:Int) < (e:Int)) = false:=decide_eq_false (by omega);have g3:decide (mid < e) = false:=decide_eq_false (by omega);have HVr:Hid (RowsV x0 enc N blk cap lo hi wr q1):=HVq.out;have HRe2:Hid (Sym.Re mid b q1 q1):=Sym.Re.refl _ _ _;have HSo2:Hid (Sym.Srt (numL x0) q1 mid b):=HN3 HRe1.out HK3.out;have HCr:Hid (ChgL [blk] w wr):=HCq.out;go_wp2
            go_end0
            have hl:=Sym.halves HO.out.1 HO.out.2.1 HX.out HRe1.out HRe2.out HSo1.out HSo2.out;exact ⟨rfl,_,HVr.out,HRe0.out.trans hl.2,hl.1,HCr.out⟩
end Go.Proofs.YtodedamnclhbnaaGreat
namespace Go.Proofs.YtodedamnclhbnaaGreat
open Go.RowKit F256
theorem symMerge_n (x0:Nat → RecD) (enc:Nat → List Value) (N blk cap lo hi:Nat) (hlo:hi ≤ lo) (hN:N < 1000000000):∀ (n:Nat) (p:Nat → Nat) (w:World) (a m b:Nat),b - a ≤ n → RowsV x0 enc N blk cap lo hi w p → a < m → m < b → b ≤ N → (∀ i j,a ≤ i → i < m → m ≤ j → j < b → p i < p j) → Sym.Srt (numL x0) p a m → Sym.Srt (numL x0) p m b → Calls Tryz.prog 161 #[.slice (some ⟨blk,0,none⟩) N cap,.int .i64 a,.int .i64 m,.int .i64 b,.func (.func 114) #[] #[]] w (fun e w' => e = .returned (.tuple #[]) ∧ ∃ q,RowsV x0 enc N blk cap lo hi w' q ∧ Sym.Re a b p q ∧ Sym.Srt (numL x0) q a b ∧ ChgL [blk] w w')
  | 0,p,w,a,m,b,h,V,ham,hmb,hb,ht,h1,h2 => by omega
  | n + 1,p,w,a,m,b,h,V,ham,hmb,hb,ht,h1,h2 => by
    have IH:∀ (p':Nat → Nat) (w':World) (a' m' b':Nat),b' - a' < b - a → RowsV x0 enc N blk cap lo hi w' p' → a' < m' → m' < b' → b' ≤ N → (∀ i j,a' ≤ i → i < m' → m' ≤ j → j < b' → p' i < p' j) → Sym.Srt (numL x0) p' a' m' → Sym.Srt (numL x0) p' m' b' → Calls Tryz.prog 161 #[.slice (some ⟨blk,0,none⟩) N cap,.int .i64 a',.int .i64 m',.int .i64 b',.func (.func 114) #[] #[]] w' (fun e w'' => e = .returned (.tuple #[]) ∧ ∃ q,RowsV x0 enc N blk cap lo hi w'' q ∧ Sym.Re a' b' p' q ∧ Sym.Srt (numL x0) q a' b' ∧ ChgL [blk] w' w''):=fun p' w' a' m' b' h' V' => symMerge_n x0 enc N blk cap lo hi hlo hN n p' w' a' m' b' (by omega) V'
    by_cases c1:m = a + 1
    · exact symMerge_1 x0 enc p N blk cap lo hi w V hlo hN a m b ham hmb hb ht h1 h2 c1
    · by_cases c2:b = m + 1
      · exact symMerge_2 x0 enc p N blk cap lo hi w V hlo hN a m b ham hmb hb ht h1 h2 c1 c2
      · by_cases c3:(a + b) / 2 < m
        · exact symMerge_3a x0 enc p N blk cap lo hi w V hlo hN a m b _ ham hmb hb ht h1 h2 c1 c2 rfl c3 IH
        · exact symMerge_3b x0 enc p N blk cap lo hi w V hlo hN a m b _ ham hmb hb ht h1 h2 c1 c2 rfl (by omega) IH
theorem symMerge_any (x0:Nat → RecD) (enc:Nat → List Value) (p:Nat → Nat) (N blk cap lo hi:Nat) (w:World) (V:RowsV x0 enc N blk cap lo hi w p) (hlo:hi ≤ lo) (hN:N < 1000000000) (a m b:Nat) (ham:a < m) (hmb:m < b) (hb:b ≤ N) (htag:∀ i j,a ≤ i → i < m → m ≤ j → j < b → p i < p j) (hs1:Sym.Srt (numL x0) p a m) (hs2:Sym.Srt (numL x0) p m b):Calls Tryz.prog 161 #[.slice (some ⟨blk,0,none⟩) N cap,.int .i64 a,.int .i64 m,.int .i64 b,.func (.func 114) #[] #[]] w (fun e w' => e = .returned (.tuple #[]) ∧ ∃ q,RowsV x0 enc N blk cap lo hi w' q ∧ Sym.Re a b p q ∧ Sym.Srt (numL x0) q a b ∧ ChgL [blk] w w'):=symMerge_n x0 enc N blk cap lo hi hlo hN (b - a) p w a m b (Nat.le_refl _) V ham hmb hb htag hs1 hs2
end Go.Proofs.YtodedamnclhbnaaGreat