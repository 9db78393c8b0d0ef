/- Walk of slices.insertionSortCmpFunc over records. -/
import Derived.Test.YtbjkjcfodljamaaGreatZPitemsah
import Derived.Deep.DeepCutAuto
set_option linter.unusedVariables false
set_option linter.unusedSimpArgs false
namespace Go.Proofs.YtbjkjcfodljamaaGreat
open Go.RowKit F256
theorem if_no {c:Bool} {X Y:Prop} (h:c = false) (y:Y):if c = true then X else Y:=by rw [h,if_neg (by decide)];exact y
set_option maxHeartbeats 8000000 in
set_option maxRecDepth 1000000 in
theorem insertion_any (x0:Nat → RecD) (enc:Nat → List Value) (p:Nat → Nat) (N blk cap lo hi:Nat) (w:World) (V:RowsV x0 enc N blk cap lo hi w p) (hlo:hi ≤ lo) (hN:N < 1000000000) (a b:Nat) (hab:a ≤ b) (hb:b ≤ N) (hinc:∀ i j,a ≤ i → i < j → j < b → p i < p j) :
    Calls Tryz.prog 162 #[.slice (some ⟨blk,0,none⟩) N cap,.int .i64 a,.int .i64 b,.func (.func 117) #[] #[]] w fun e w' => e = .returned (.tuple #[]) ∧ ∃ q,RowsV x0 enc N blk cap lo hi w' q ∧ Sym.Re a b p q ∧ Sym.Srt (numL x0) q a b ∧ ChgL [blk] w w':=by
  have HV0:Hid (RowsV x0 enc N blk cap lo hi w p):=V;have HI:Hid (∀ i j,a ≤ i → i < j → j < b → p i < p j):=hinc;have hbl:=(V.row.lt blk rfl);clear V hinc
  have w1:IntKind.i64.wrap ((a:Int) + 1) = ((a + 1:Nat):Int):=by rw [IntKind.wrap_i64];omega
  go_enter Tryz.func162,Tryz.ntmps162
  go_wp2
  go_loopw [8] (fun vi wr => ∃ (i:Nat) (q:Nat → Nat),a + 1 ≤ i ∧ (i ≤ b ∨ (i = a + 1 ∧ q = p)) ∧ vi = .int .i64 i ∧ RowsV x0 enc N blk cap lo hi wr q ∧ Sym.Re a i p q ∧ Sym.Srt (numL x0) q a i ∧ ChgL [blk] w wr) (fun vi _ => b - (intOf vi).toNat)
  case atStart => exact ⟨a + 1,p,Nat.le_refl _,.inr ⟨rfl,rfl⟩,by go_num,HV0.out,Sym.Re.refl _ _ _,fun i j h1 h2 h3 => by omega,ChgL.refl _ _⟩
  case round =>
    obtain ⟨i,q,hai,hib,rfl,V,hRe,hSrt,C⟩:=hrel;have HV:Hid (RowsV x0 enc N blk cap lo hi wr q):=V;have HC:Hid (ChgL [blk] w wr):=C;have HRe:Hid (Sym.Re a i p q):=hRe;have HSrt:Hid (Sym.Srt (numL x0) q a i):=hSrt;clear V C hRe hSrt w1
    by_cases hlt:i < b
    · have t1:(i:Int) < (b:Int):=by omega
      go_wp2
      go_loopw [9] (fun vj wr => ∃ (j:Nat) (q1:Nat → Nat),a ≤ j ∧ j ≤ i ∧ vj = .int .i64 j ∧ RowsV x0 enc N blk cap lo hi wr q1 ∧ Sym.Re a (i + 1) p q1 ∧ Ins (numL x0) q1 a i j (p i) ∧ (∀ k,a ≤ k → k ≤ i → k ≠ j → q1 k < p i) ∧ ChgL [blk] w wr) (fun vj _ => (intOf vj).toNat)
      case atStart => exact ⟨i,q,by omega,Nat.le_refl _,rfl,HV.out,HRe.out.mono (Nat.le_refl _) (by omega),by
        have:=Ins.start HSrt.out;rw [HRe.out.out (.inr (Nat.le_refl _))] at this
        exact this,fun k h1 h2 h3 => by
        obtain ⟨k',hk',e⟩:=HRe.out.from (i:=k) ⟨h1,by omega⟩
        rw [e]
        exact HI.out k' i hk'.1 hk'.2 hlt,HC.out⟩
      case round =>
        obtain ⟨j,q1,haj,hji,rfl,V,hRe,hIns,hTag,C⟩:=hrel;have HV1:Hid (RowsV x0 enc N blk cap lo hi wr q1):=V;have HC1:Hid (ChgL [blk] w wr):=C;have HRe1:Hid (Sym.Re a (i + 1) p q1):=hRe;have HIns:Hid (Ins (numL x0) q1 a i j (p i)):=hIns;have HTag:Hid (∀ k,a ≤ k → k ≤ i → k ≠ j → q1 k < p i):=hTag;clear C hRe hIns hTag HV HC HRe HSrt
        by_cases hja:j = a
        · have d1:decide (a < j) = false:=decide_eq_false (by omega)
          have HJA:Hid (j = a):=hja;have HW:Hid (RowsV x0 enc N blk cap lo hi wr.drew q1):=View.drew V;clear V
          go_upto_region 4 with fail
          refine wp_region_M 14 (fun w' => True) mixedO trivial (fun hHeld => ?_);refine wpAnyM_pure (i:=0) (oi:=_) (v:=?_) rfl (by kernel_rfl) (fun _ _ _ h => h) (Or.inl ⟨by kernel_rfl,?_⟩) (by assumption) ?_
          rotate_left
          · intro w' hSw;go_simp;try with_reducible rfl
          try simp only [Act.put,SL]
          refine wpAnyM_pure (i:=1) (oi:=_) (v:=?_) rfl (by kernel_rfl) (fun _ _ _ h => h) (Or.inl ⟨by kernel_rfl,?_⟩) (by assumption) ?_
          rotate_left
          · intro w' hSw;go_simp;try with_reducible rfl
          try simp only [Act.put,SL]
          refine wpAnyM_pure (i:=2) (oi:=_) (v:=?_) rfl (by kernel_rfl) (fun _ _ _ h => h) (Or.inl ⟨by kernel_rfl,?_⟩) (by assumption) ?_
          rotate_left
          · intro w' hSw;go_simp;try with_reducible rfl
          try simp only [Act.put,SL]
          try rw [d1]
          refine wpAnyM_pure (i:=3) (oi:=_) (v:=?_) rfl (by kernel_rfl) (fun _ _ _ h => h) (Or.inl ⟨by kernel_rfl,?_⟩) (by assumption) ?_
          rotate_left
          · intro w' hSw;go_simp;try with_reducible rfl
          try simp only [Act.put,SL]
          refine wpAnyM_pure (i:=4) (oi:=_) (v:=undef) rfl (by kernel_rfl) (fun _ _ _ h => h) (Or.inr ⟨by kernel_rfl,rfl⟩) (by assumption) ?_
          try simp only [Act.put,SL]
          refine wpAnyM_pure (i:=5) (oi:=_) (v:=undef) rfl (by kernel_rfl) (fun _ _ _ h => h) (Or.inr ⟨by kernel_rfl,rfl⟩) (by assumption) ?_
          try simp only [Act.put,SL]
          refine wpAnyM_pure (i:=6) (oi:=_) (v:=undef) rfl (by kernel_rfl) (fun _ _ _ h => h) (Or.inr ⟨by kernel_rfl,rfl⟩) (by assumption) ?_
          try simp only [Act.put,SL]
          refine wpAnyM_pure (i:=7) (oi:=_) (v:=undef) rfl (by kernel_rfl) (fun _ _ _ h => h) (Or.inr ⟨by kernel_rfl,rfl⟩) (by assumption) ?_
          try simp only [Act.put,SL]
          refine wpAnyM_pure (i:=8) (oi:=_) (v:=undef) rfl (by kernel_rfl) (fun _ _ _ h => h) (Or.inr ⟨by kernel_rfl,rfl⟩) (by assumption) ?_
          try simp only [Act.put,SL]
          refine wpAnyM_pure (i:=9) (oi:=_) (v:=undef) rfl (by kernel_rfl) (fun _ _ _ h => h) (Or.inr ⟨by kernel_rfl,rfl⟩) (by assumption) ?_
          try simp only [Act.put,SL]
          refine wpAnyM_pure (i:=10) (oi:=_) (v:=undef) rfl (by kernel_rfl) (fun _ _ _ h => h) (Or.inr ⟨by kernel_rfl,rfl⟩) (by assumption) ?_
          try simp only [Act.put,SL]
          refine wpAnyM_pure (i:=11) (oi:=_) (v:=undef) rfl (by kernel_rfl) (fun _ _ _ h => h) (Or.inr ⟨by kernel_rfl,rfl⟩) (by assumption) ?_
          try simp only [Act.put,SL]
          refine wpAnyM_pure (i:=12) (oi:=_) (v:=undef) rfl (by kernel_rfl) (fun _ _ _ h => h) (Or.inr ⟨by kernel_rfl,rfl⟩) (by assumption) ?_
          try simp only [Act.put,SL]
          refine wpAnyM_pure (i:=13) (oi:=_) (v:=undef) rfl (by kernel_rfl) (fun _ _ _ h => h) (Or.inr ⟨by kernel_rfl,rfl⟩) (by assumption) ?_
          try simp only [Act.put,SL]
          refine wpAnyM_one (i:=14) (o:=_) rfl (by kernel_rfl) (by kernel_rfl) (fun KC hKC => ?_);refine if_no (by kernel_rfl) (hKC _ _ ?_);clear hKC KC
          try simp only [Act.put,SL]
          refine wpAnyM_pureL (i:=15) (oi:=_) (v:=undef) rfl (by kernel_rfl) (fun _ _ _ h => h) (Or.inr ⟨by kernel_rfl,rfl⟩) ?_
          try simp only [Act.put,SL]
          refine wpAnyM_pureL (i:=16) (oi:=_) (v:=?_) rfl (by kernel_rfl) (fun _ _ _ h => h) (Or.inl ⟨by kernel_rfl,?_⟩) ?_
          rotate_left
          · intro w' hSw;go_simp;try with_reducible rfl
          try simp only [Act.put,SL]
          refine wpAnyM_done (by kernel_rfl) ?_ _;go_wp2
          go_roundw
          case rel => exact ⟨i + 1,q1,by omega,.inl (by omega),by go_num,HW.out,HRe1.out,HIns.out.stop (numL_ord x0) haj hji (.inl HJA.out),HC1.out.trans (ChgL.of_below ⟨rfl,rfl,rfl,Nat.le_refl _,fun _ _ => rfl⟩)⟩
          case measure => simp [intOf];omega
        · obtain ⟨A,hA⟩:∃ A,A = j:=⟨_,rfl⟩
          subst hA;obtain ⟨B,hB⟩:∃ B,A = B + 1:=⟨A - 1,by omega⟩;have HAB:Hid (A = B + 1):=hB;have d1:decide (a < A) = true:=decide_eq_true (by omega)
          have w2:IntKind.i64.wrap ((A:Int) - 1) = (B:Int):=by rw [IntKind.wrap_i64];omega
          have hAN:A < N:=by omega
          have hBN:B < N:=by omega
          have i1:(A:Int) < (N:Int):=by omega
          have i2:(B:Int) < (N:Int):=by omega
          have i3:(0:Int) ≤ (A:Int):=by omega
          have i4:(0:Int) ≤ (B:Int):=by omega
          have hsz:=(V.row.lt blk rfl);have VD:=View.drew V;have rgA:wr.drew.rangeAt blk (A * 9) (enc (q1 A)):=VD.range hAN;have rgB:wr.drew.rangeAt blk (B * 9) (enc (q1 B)):=VD.range hBN;have hsA:(enc (q1 A)).length = 9:=VD.lens A hAN;have hsB:(enc (q1 B)).length = 9:=VD.lens B hBN;have rdA:=VD.each A hAN;have rdB:=VD.each B hBN;obtain ⟨cA,hcA⟩:∃ c,c = enc (q1 A):=⟨_,rfl⟩;obtain ⟨cB,hcB⟩:∃ c,c = enc (q1 B):=⟨_,rfl⟩;rw [← hcA] at rgA hsA;rw [← hcB] at rgB hsB;have CC0:=byNumbers_is _ _ _ _ hi hi wr.drew rdA rdB;rw [← hcA,← hcB] at CC0;obtain ⟨c,hc⟩:∃ c:Int,c = numC (x0 (q1 A)) (x0 (q1 B)):=⟨_,rfl⟩;rw [← hc] at CC0;have HCN:Hid (c = numC (x0 (q1 A)) (x0 (q1 B))):=hc
          have CC:Calls Tryz.prog 117 (#[.agg cA.toArray,.agg cB.toArray] ++ #[]) wr.drew fun e w' => e = .returned (.int .i64 c) ∧ Below wr.drew.heap.size wr.drew w':=by rw [Array.append_empty];exact CC0
          clear CC0 hc hcA hcB rdA rdB hB;have HVD:Hid (RowsV x0 enc N blk cap lo hi wr.drew q1):=VD;clear VD V
          go_upto_region 4 with fail
          refine wp_region_M 14 (fun w' => w'.rangeAt blk (A * 9) cA ∧ w'.rangeAt blk (B * 9) cB) mixedO ⟨rgA,rgB⟩ (fun hHeld => ?_);refine wpAnyM_pure (i:=0) (oi:=_) (v:=?_) rfl (by kernel_rfl) (fun _ _ _ h => h) (Or.inl ⟨by kernel_rfl,?_⟩) (by assumption) ?_
          rotate_left
          · intro w' hSw;go_simp;try with_reducible rfl
          try simp only [Act.put,SL]
          refine wpAnyM_pure (i:=1) (oi:=_) (v:=?_) rfl (by kernel_rfl) (fun _ _ _ h => h) (Or.inl ⟨by kernel_rfl,?_⟩) (by assumption) ?_
          rotate_left
          · intro w' hSw;go_simp;try with_reducible rfl
          try simp only [Act.put,SL]
          refine wpAnyM_pure (i:=2) (oi:=_) (v:=?_) rfl (by kernel_rfl) (fun _ _ _ h => h) (Or.inl ⟨by kernel_rfl,?_⟩) (by assumption) ?_
          rotate_left
          · intro w' hSw;go_simp;try with_reducible rfl
          try simp only [Act.put,SL]
          try rw [d1]
          refine wpAnyM_pure (i:=3) (oi:=_) (v:=?_) rfl (by kernel_rfl) (fun _ _ _ h => h) (Or.inl ⟨by kernel_rfl,?_⟩) (by assumption) ?_
          rotate_left
          · intro w' hSw;go_simp;try with_reducible rfl
          try simp only [Act.put,SL]
          refine wpAnyM_pure (i:=4) (oi:=_) (v:=?_) rfl (by kernel_rfl) (fun _ _ _ h => h) (Or.inl ⟨by kernel_rfl,?_⟩) (by assumption) ?_
          rotate_left
          · intro w' hSw;go_simp;try with_reducible rfl
          try simp only [Act.put,SL]
          refine wpAnyM_pure (i:=5) (oi:=_) (v:=?_) rfl (by kernel_rfl) (fun _ _ _ h => h) (Or.inl ⟨by kernel_rfl,?_⟩) (by assumption) ?_
          rotate_left
          · intro w' hSw;go_simp;try with_reducible rfl
          try simp only [Act.put,SL]
          refine wpAnyM_pure (i:=6) (oi:=_) (v:=?_) rfl (by kernel_rfl) (fun _ _ _ h => h) (Or.inl ⟨by kernel_rfl,?_⟩) (by assumption) ?_
          rotate_left
          · intro w' hSw;go_simp;try with_reducible rfl
          try simp only [Act.put,SL]
          refine wpAnyM_pure (i:=7) (oi:=_) (v:=?_) rfl (by kernel_rfl) (fun _ _ _ h => h) (Or.inl ⟨by kernel_rfl,?_⟩) (by assumption) ?_
          rotate_left
          · intro w' hSw;go_simp;try with_reducible rfl
          try simp only [Act.put,SL]
          refine wpAnyM_take (i:=8) (oi:=_) (v:=.agg cA.toArray) 16 rfl (by kernel_rfl) (fun _ _ _ h => h) (yieldsIf_load_mid (by kernel_rfl) 81 (.tmp 25) rfl blk (A * 9) (by simp [Act.eval,Act.put]) cA _ (fun w h => h.1) Tryz.underlying81 rfl (info_Rec9 hsA)) (by assumption) ?_
          try simp only [Act.put,SL]
          refine wpAnyM_pure (i:=9) (oi:=_) (v:=?_) rfl (by kernel_rfl) (fun _ _ _ h => h) (Or.inl ⟨by kernel_rfl,?_⟩) (by assumption) ?_
          rotate_left
          · intro w' hSw;go_simp;try with_reducible rfl
          try simp only [Act.put,SL]
          refine wpAnyM_pure (i:=10) (oi:=_) (v:=?_) rfl (by kernel_rfl) (fun _ _ _ h => h) (Or.inl ⟨by kernel_rfl,?_⟩) (by assumption) ?_
          rotate_left
          · intro w' hSw;go_simp;try with_reducible rfl
          try simp only [Act.put,SL]
          refine wpAnyM_pure (i:=11) (oi:=_) (v:=?_) rfl (by kernel_rfl) (fun _ _ _ h => h) (Or.inl ⟨by kernel_rfl,?_⟩) (by assumption) ?_
          rotate_left
          · intro w' hSw;go_simp;try with_reducible rfl
          try simp only [Act.put,SL]
          refine wpAnyM_pure (i:=12) (oi:=_) (v:=?_) rfl (by kernel_rfl) (fun _ _ _ h => h) (Or.inl ⟨by kernel_rfl,?_⟩) (by assumption) ?_
          rotate_left
          · intro w' hSw;go_simp;try with_reducible rfl
          try simp only [Act.put,SL]
          refine wpAnyM_take (i:=13) (oi:=_) (v:=.agg cB.toArray) 16 rfl (by kernel_rfl) (fun _ _ _ h => h) (yieldsIf_load_mid (by kernel_rfl) 81 (.tmp 30) rfl blk (B * 9) (by simp [Act.eval,Act.put]) cB _ (fun w h => h.2) Tryz.underlying81 rfl (info_Rec9 hsB)) (by assumption) ?_
          try simp only [Act.put,SL]
          refine wpAnyM_one (i:=14) (o:=_) rfl (by kernel_rfl) (by kernel_rfl) (fun KC hKC => ?_);refine step_callv (by kernel_rfl) (.tmp 22) 117 #[] _ _ rfl (by simp [Act.eval,Act.put]) #[.agg cA.toArray,.agg cB.toArray] (by simp [Act.eval,Act.put]) Tryz.func117 (by kernel_rfl) (by kernel_rfl) CC ?_;rintro ee w5 ⟨rfl,b5⟩;refine ⟨_,rfl,?_⟩;refine hKC _ _ ?_;clear hKC KC
          try simp only [Act.put,SL]
          refine wpAnyM_pureL (i:=15) (oi:=_) (v:=?_) rfl (by kernel_rfl) (fun _ _ _ h => h) (Or.inl ⟨by kernel_rfl,?_⟩) ?_
          rotate_left
          · intro w' hSw;go_simp;try with_reducible rfl
          try simp only [Act.put,SL]
          refine wpAnyM_pureL (i:=16) (oi:=_) (v:=?_) rfl (by kernel_rfl) (fun _ _ _ h => h) (Or.inl ⟨by kernel_rfl,?_⟩) ?_
          rotate_left
          · intro w' hSw;go_simp;try with_reducible rfl
          try simp only [Act.put,SL]
          refine wpAnyM_done (by kernel_rfl) ?_ _;have HV5:Hid (RowsV x0 enc N blk cap lo hi w5 q1):=View.below HVD.out b5 (by show hi ≤ wr.heap.size;omega);have HC5:Hid (ChgL [blk] w w5):=HC1.out.trans ((ChgL.of_below ⟨rfl,rfl,rfl,Nat.le_refl _,fun _ _ => rfl⟩:ChgL [blk] wr wr.drew).trans (ChgL.of_below b5));clear HVD HC1 HV1 rgA rgB hsA hsB b5 hHeld CC hsz;obtain ⟨dd,hdd⟩:∃ d:Bool,d = decide (c < 0):=⟨_,rfl⟩;have HDD:Hid (dd = decide (c < 0)):=hdd
          try rw [← hdd]
          clear hdd
          cases dd
          · go_wp2
            go_roundw
            case rel => exact ⟨i + 1,q1,by omega,.inl (by omega),by go_num,HV5.out,HRe1.out,HIns.out.stop (numL_ord x0) haj hji (.inr (by
              have h1:=HDD.out
              have h2:¬ c < 0:=by simpa using h1
              rw [HCN.out] at h2;have h3:=HTag.out B (by have:=HAB.out;omega) (by have:=HAB.out;omega) (by have:=HAB.out;omega);have h4:=HIns.out.at_;rw [show A - 1 = B by have:=HAB.out;omega,← h4]
              exact ask_no (by rw [h4];exact h3) h2)),HC5.out⟩
            case measure => simp [intOf];omega
          · have V5:=HV5.out
            have VD:=View.drew V5;have rgA:w5.drew.rangeAt blk (A * 9) (enc (q1 A)):=VD.range hAN;have rgB:w5.drew.rangeAt blk (B * 9) (enc (q1 B)):=VD.range hBN;have hsA:(enc (q1 A)).length = 9:=VD.lens A hAN;have hsB:(enc (q1 B)).length = 9:=VD.lens B hBN
            have th1:w5.drew.there blk (A * 9) (enc (q1 B)).length:=by rw [hsB];exact VD.there hAN
            have th2:(w5.drew.setCells blk (A * 9) (enc (q1 B))).there blk (B * 9) (enc (q1 A)).length:=by rw [hsA];exact (VD.put (by decide) hlo hAN (VD.each B hBN)).there hBN
            have oneA:=rdOne_rec _ _ _ _ (VD.each A hAN);have oneB:=rdOne_rec _ _ _ _ (VD.each B hBN);have SW:=view_swap VD hlo hAN hBN;have HSW:Hid (RowsV x0 enc N blk cap lo hi ((w5.drew.setCells blk (A * 9) (enc (q1 B))).setCells blk (B * 9) (enc (q1 A))) (fun k => q1 (Sym.swp A B k))):=SW.1;have HSC:Hid (ChgL [blk] w5 ((w5.drew.setCells blk (A * 9) (enc (q1 B))).setCells blk (B * 9) (enc (q1 A)))):=(ChgL.of_below ⟨rfl,rfl,rfl,Nat.le_refl _,fun _ _ => rfl⟩:ChgL [blk] w5 w5.drew).trans SW.2;obtain ⟨cA,hcA⟩:∃ c,c = enc (q1 A):=⟨_,rfl⟩;obtain ⟨cB,hcB⟩:∃ c,c = enc (q1 B):=⟨_,rfl⟩;rw [← hcA] at rgA th2 hsA oneA HSW HSC;rw [← hcB] at rgB th1 th2 hsB oneB HSW HSC;clear hcA hcB VD SW;clear V5
            go_upto_region 6 with fail
            refine wp_region_M 15 (fun w' => w'.rangeAt blk (A * 9) cA ∧ w'.rangeAt blk (B * 9) cB) mixedO ⟨rgA,rgB⟩ (fun hHeld => ?_);refine wpAnyM_pure (i:=0) (oi:=_) (v:=?_) rfl (by kernel_rfl) (fun _ _ _ h => h) (Or.inl ⟨by rfl,?_⟩) (by assumption) ?_
            rotate_left
            · intro w' hSw;go_simp;try with_reducible rfl
            try simp only [Act.put,SL]
            refine wpAnyM_pure (i:=1) (oi:=_) (v:=?_) rfl (by kernel_rfl) (fun _ _ _ h => h) (Or.inl ⟨by rfl,?_⟩) (by assumption) ?_
            rotate_left
            · intro w' hSw;go_simp;try with_reducible rfl
            try simp only [Act.put,SL]
            refine wpAnyM_pure (i:=2) (oi:=_) (v:=?_) rfl (by kernel_rfl) (fun _ _ _ h => h) (Or.inl ⟨by rfl,?_⟩) (by assumption) ?_
            rotate_left
            · intro w' hSw;go_simp;try with_reducible rfl
            try simp only [Act.put,SL]
            refine wpAnyM_pure (i:=3) (oi:=_) (v:=?_) rfl (by kernel_rfl) (fun _ _ _ h => h) (Or.inl ⟨by rfl,?_⟩) (by assumption) ?_
            rotate_left
            · intro w' hSw;go_simp;try with_reducible rfl
            try simp only [Act.put,SL]
            refine wpAnyM_pure (i:=4) (oi:=_) (v:=?_) rfl (by kernel_rfl) (fun _ _ _ h => h) (Or.inl ⟨by rfl,?_⟩) (by assumption) ?_
            rotate_left
            · intro w' hSw;go_simp;try with_reducible rfl
            try simp only [Act.put,SL]
            refine wpAnyM_pure (i:=5) (oi:=_) (v:=?_) rfl (by kernel_rfl) (fun _ _ _ h => h) (Or.inl ⟨by rfl,?_⟩) (by assumption) ?_
            rotate_left
            · intro w' hSw;go_simp;try with_reducible rfl
            try simp only [Act.put,SL]
            refine wpAnyM_pure (i:=6) (oi:=_) (v:=?_) rfl (by kernel_rfl) (fun _ _ _ h => h) (Or.inl ⟨by rfl,?_⟩) (by assumption) ?_
            rotate_left
            · intro w' hSw;go_simp;try with_reducible rfl
            try simp only [Act.put,SL]
            refine wpAnyM_pure (i:=7) (oi:=_) (v:=?_) rfl (by kernel_rfl) (fun _ _ _ h => h) (Or.inl ⟨by rfl,?_⟩) (by assumption) ?_
            rotate_left
            · intro w' hSw;go_simp;try with_reducible rfl
            try simp only [Act.put,SL]
            refine wpAnyM_pure (i:=8) (oi:=_) (v:=?_) rfl (by kernel_rfl) (fun _ _ _ h => h) (Or.inl ⟨by rfl,?_⟩) (by assumption) ?_
            rotate_left
            · intro w' hSw;go_simp;try with_reducible rfl
            try simp only [Act.put,SL]
            refine wpAnyM_take (i:=9) (oi:=_) (v:=.agg cB.toArray) 16 rfl (by kernel_rfl) (fun _ _ _ h => h) (yieldsIf_load_mid (by rfl) 81 (.tmp 45) rfl blk (B * 9) (by simp [Act.eval,Act.put]) cB _ (fun w h => h.2) Tryz.underlying81 rfl (info_Rec9 hsB)) (by assumption) ?_
            try simp only [Act.put,SL]
            refine wpAnyM_pure (i:=10) (oi:=_) (v:=?_) rfl (by kernel_rfl) (fun _ _ _ h => h) (Or.inl ⟨by rfl,?_⟩) (by assumption) ?_
            rotate_left
            · intro w' hSw;go_simp;try with_reducible rfl
            try simp only [Act.put,SL]
            refine wpAnyM_pure (i:=11) (oi:=_) (v:=?_) rfl (by kernel_rfl) (fun _ _ _ h => h) (Or.inl ⟨by rfl,?_⟩) (by assumption) ?_
            rotate_left
            · intro w' hSw;go_simp;try with_reducible rfl
            try simp only [Act.put,SL]
            refine wpAnyM_pure (i:=12) (oi:=_) (v:=?_) rfl (by kernel_rfl) (fun _ _ _ h => h) (Or.inl ⟨by rfl,?_⟩) (by assumption) ?_
            rotate_left
            · intro w' hSw;go_simp;try with_reducible rfl
            try simp only [Act.put,SL]
            refine wpAnyM_take (i:=13) (oi:=_) (v:=.agg cA.toArray) 16 rfl (by kernel_rfl) (fun _ _ _ h => h) (yieldsIf_load_mid (by rfl) 81 (.tmp 49) rfl blk (A * 9) (by simp [Act.eval,Act.put]) cA _ (fun w h => h.1) Tryz.underlying81 rfl (info_Rec9 hsA)) (by assumption) ?_
            try simp only [Act.put,SL]
            refine wpAnyM_pure (i:=14) (oi:=_) (v:=?_) rfl (by kernel_rfl) (fun _ _ _ h => h) (Or.inl ⟨by rfl,?_⟩) (by assumption) ?_
            rotate_left
            · intro w' hSw;go_simp;try with_reducible rfl
            try simp only [Act.put,SL]
            refine wpAnyM_store (i:=15) rfl (by kernel_rfl) (by kernel_rfl) rfl rfl 81 (.tmp 51) (.tmp 46) rfl blk (A * 9) cB (by simp [Act.eval]) (by simp [Act.eval]) th1 (info_Rec9 hsB) oneB ?_;refine wpAnyM_pureL (i:=16) (oi:=_) (v:=?_) rfl (by kernel_rfl) (fun _ _ _ h => h) (Or.inl ⟨by rfl,?_⟩) ?_
            rotate_left
            · intro w' hSw;go_simp;try with_reducible rfl
            try simp only [Act.put,SL]
            refine wpAnyM_store (i:=17) rfl (by kernel_rfl) (by kernel_rfl) rfl rfl 81 (.tmp 52) (.tmp 50) rfl blk (B * 9) cA (by simp [Act.eval]) (by simp [Act.eval]) th2 (info_Rec9 hsA) oneA ?_;refine wpAnyM_done (by kernel_rfl) ?_ _;go_wp2
            go_roundw
            case rel => 
              have hAB:=HAB.out;refine ⟨B,(fun k => q1 (Sym.swp A B k)),by omega,by omega,by go_num,HSW.out,HRe1.out.trans (Sym.Re.swaps q1 ⟨by omega,by omega⟩ ⟨by omega,by omega⟩),?_,?_,HC5.out.trans HSC.out⟩
              · have h1:=HDD.out
                have h2:c < 0:=by simpa using h1
                rw [HCN.out] at h2;have h4:=HIns.out;have h5:=ask_yes h2;rw [h4.at_] at h5;rw [hAB] at h4 ⊢;exact h4.step (by omega) (by omega) h5
              · intro k k1 k2 k3
                show q1 (Sym.swp A B k) < p i
                unfold Sym.swp
                by_cases c1:k = A
                · rw [if_pos c1]
                  exact HTag.out B (by omega) (by omega) (by omega)
                · rw [if_neg c1,if_neg k3]
                  exact HTag.out k k1 k2 c1
            case measure => have hAB:=HAB.out;simp [intOf];omega
    · have HNL:Hid (¬ i < b):=hlt
      have d0:decide ((i:Int) < (b:Int)) = false:=decide_eq_false (by omega);clear hlt;go_wp2
      go_end0
      refine ⟨rfl,q,HV.out,?_,?_,HC.out⟩
      · rcases hib with h | h
        · exact HRe.out.mono (Nat.le_refl _) (by have:=HNL.out;omega)
        · obtain ⟨h1,rfl⟩:=h
          exact Sym.Re.refl _ _ _
      · exact HSrt.out.sub (Nat.le_refl _) (by have:=HNL.out;omega)
end Go.Proofs.YtbjkjcfodljamaaGreat
namespace Go.Proofs.YtbjkjcfodljamaaGreat
open Go.RowKit F256
theorem rot1_step (a k x:Nat) (h:a ≤ k):Sym.rot a (a + 1) (k + 1) (Sym.swp k (k + 1) x) = Sym.rot a (a + 1) (k + 2) x:=by
  unfold Sym.rot Sym.swp
  repeat' split
  all_goals omega
theorem rot1_zero (a x:Nat):Sym.rot a (a + 1) (a + 1) x = x:=by
  unfold Sym.rot
  repeat' split
  all_goals omega
theorem merge1 {lt:Nat → Nat → Prop} (O:Sym.Ord lt) {p:Nat → Nat} {a b i:Nat} (hai:a + 1 ≤ i) (hib:i ≤ b) (h2:Sym.Srt lt p (a + 1) b) (hl:∀ k,a + 1 ≤ k → k < i → lt (p k) (p a)) (hr:∀ k,i ≤ k → k < b → lt (p a) (p k)) :
    Sym.Srt lt (fun k => p (Sym.rot a (a + 1) i k)) a b ∧ Sym.Re a b p (fun k => p (Sym.rot a (a + 1) i k)):=by
  have r1 : ∀ k, a ≤ k → k < i - 1 → Sym.rot a (a + 1) i k = k + 1 := fun k h3 h4 => by unfold Sym.rot;repeat' split
                                                                                        all_goals omega
  have r2 : Sym.rot a (a + 1) i (i - 1) = a := by unfold Sym.rot;repeat' split
                                                  all_goals omega
  have r3 : ∀ k, i ≤ k → Sym.rot a (a + 1) i k = k := fun k h3 => by unfold Sym.rot;repeat' split
                                                                     all_goals omega
  refine ⟨fun x y h3 h4 h5 => ?_,(Sym.Re.rots p (by omega) hai).mono (Nat.le_refl _) hib⟩
  show lt (p (Sym.rot a (a + 1) i x)) (p (Sym.rot a (a + 1) i y))
  by_cases c1:x < i - 1
  · rw [r1 x h3 c1]
    by_cases c2:y < i - 1
    · rw [r1 y (by omega) c2];exact h2 _ _ (by omega) (by omega) (by omega)
    · by_cases c3:y = i - 1
      · rw [c3,r2];exact hl _ (by omega) (by omega)
      · rw [r3 y (by omega)];exact h2 _ _ (by omega) (by omega) (by omega)
  · by_cases c3:x = i - 1
    · rw [c3,r2,r3 y (by omega)];exact hr _ (by omega) h5
    · rw [r3 x (by omega),r3 y (by omega)];exact h2 _ _ (by omega) h4 h5
end Go.Proofs.YtbjkjcfodljamaaGreat
namespace Go.Proofs.YtbjkjcfodljamaaGreat
open Go.RowKit F256
set_option maxHeartbeats 8000000 in
set_option maxRecDepth 1000000 in
theorem symMerge_1 (x0:Nat → RecD) (enc:Nat → List Value) (p:Nat → Nat) (N blk cap lo hi:Nat) (w:World) (V:RowsV x0 enc N blk cap lo hi w p) (hlo:hi ≤ lo) (hN:N < 1000000000) (a m b:Nat) (ham:a < m) (hmb:m < b) (hb:b ≤ N) (htag:∀ i j,a ≤ i → i < m → m ≤ j → j < b → p i < p j) (hs1:Sym.Srt (numL x0) p a m) (hs2:Sym.Srt (numL x0) p m b) (h1:m = a + 1) :
    Calls Tryz.prog 163 #[.slice (some ⟨blk,0,none⟩) N cap,.int .i64 a,.int .i64 m,.int .i64 b,.func (.func 117) #[] #[]] w (fun e w' => e = .returned (.tuple #[]) ∧ ∃ q,RowsV x0 enc N blk cap lo hi w' q ∧ Sym.Re a b p q ∧ Sym.Srt (numL x0) q a b ∧ ChgL [blk] w w'):=by
  have HV0:Hid (RowsV x0 enc N blk cap lo hi w p):=V;have HT:Hid (∀ i j,a ≤ i → i < m → m ≤ j → j < b → p i < p j):=htag;have HS2:Hid (Sym.Srt (numL x0) p m b):=hs2;have HM:Hid (m = a + 1):=h1
  have w0:IntKind.i64.wrap ((m:Int) - (a:Int)) = 1:=by rw [IntKind.wrap_i64];omega
  clear V htag hs1 hs2
  go_enter Tryz.func163,Tryz.ntmps163
  go_wp2;clear h1
  go_loopw [10,11] (fun vi vj wr => ∃ (i j:Nat),m ≤ i ∧ i ≤ j ∧ j ≤ b ∧ vi = .int .i64 i ∧ vj = .int .i64 j ∧ RowsV x0 enc N blk cap lo hi wr p ∧ (∀ k,m ≤ k → k < i → numL x0 (p k) (p a)) ∧ (∀ k,j ≤ k → k < b → numL x0 (p a) (p k)) ∧ ChgL [blk] w wr) (fun vi vj _ => (intOf vj).toNat - (intOf vi).toNat)
  case atStart => exact ⟨m,b,Nat.le_refl _,by omega,Nat.le_refl _,by go_num,by go_num,HV0.out,fun k h1 h2 => by omega,fun k h1 h2 => by omega,ChgL.refl _ _⟩
  case round =>
    obtain ⟨i,j,hmi,hij,hjb,rfl,rfl,V,hL,hR,C⟩:=hrel;have HC:Hid (ChgL [blk] w wr):=C;have HL:Hid (∀ k,m ≤ k → k < i → numL x0 (p k) (p a)):=hL;have HR:Hid (∀ k,j ≤ k → k < b → numL x0 (p a) (p k)):=hR;have HV:Hid (RowsV x0 enc N blk cap lo hi wr p):=V;clear C hL hR w0
    by_cases hlt:i < j
    · have t1:(i:Int) < (j:Int):=by omega
      obtain ⟨A,hA⟩:∃ A,A = (i + j) / 2:=⟨_,rfl⟩
      have w1:IntKind.i64.wrap ((i:Int) + (j:Int)) = ((i + j:Nat):Int):=by rw [IntKind.wrap_i64];omega
      have e1:((i:Int) + (j:Int)) / 2 = (A:Int):=by omega
      have hAi:i ≤ A:=by omega
      have hAj:A < j:=by omega
      have hAN:A < N:=by omega
      have hBN:a < N:=by omega
      have i1:(A:Int) < (N:Int):=by omega
      have i2:(a:Int) < (N:Int):=by omega
      have i3:(0:Int) ≤ (A:Int):=by omega
      have i4:(0:Int) ≤ (a:Int):=by omega
      have hsz:=(V.row.lt blk rfl);have VD:=View.drew V;have rgA:wr.drew.rangeAt blk (A * 9) (enc (p A)):=VD.range hAN;have rgB:wr.drew.rangeAt blk (a * 9) (enc (p a)):=VD.range hBN;have hsA:(enc (p A)).length = 9:=VD.lens A hAN;have hsB:(enc (p a)).length = 9:=VD.lens a hBN;have rdA:=VD.each A hAN;have rdB:=VD.each a hBN;obtain ⟨cA,hcA⟩:∃ c,c = enc (p A):=⟨_,rfl⟩;obtain ⟨cB,hcB⟩:∃ c,c = enc (p a):=⟨_,rfl⟩;rw [← hcA] at rgA hsA;rw [← hcB] at rgB hsB;have CC0:=byNumbers_is _ _ _ _ hi hi wr.drew rdA rdB;rw [← hcA,← hcB] at CC0;obtain ⟨c,hc⟩:∃ c:Int,c = numC (x0 (p A)) (x0 (p a)):=⟨_,rfl⟩;rw [← hc] at CC0;have HCN:Hid (c = numC (x0 (p A)) (x0 (p a))):=hc
      have CC:Calls Tryz.prog 117 (#[.agg cA.toArray,.agg cB.toArray] ++ #[]) wr.drew fun e w' => e = .returned (.int .i64 c) ∧ Below wr.drew.heap.size wr.drew w':=by rw [Array.append_empty];exact CC0
      have HVD:Hid (RowsV x0 enc N blk cap lo hi wr.drew p):=VD;clear CC0 hc hcA hcB rdA rdB hA VD V HV
      go_upto_region 5 with fail
      try rw [e1]
      refine wp_region_M 9 (fun w' => w'.rangeAt blk (A * 9) cA ∧ w'.rangeAt blk (a * 9) cB) mixedO ⟨rgA,rgB⟩ (fun hHeld => ?_);refine wpAnyM_pure (i:=0) (oi:=_) (v:=?_) rfl (by kernel_rfl) (fun _ _ _ h => h) (Or.inl ⟨by kernel_rfl,?_⟩) (by assumption) ?_
      rotate_left
      · intro w' hSw;go_simp;try with_reducible rfl
      try simp only [Act.put,SL]
      refine wpAnyM_pure (i:=1) (oi:=_) (v:=?_) rfl (by kernel_rfl) (fun _ _ _ h => h) (Or.inl ⟨by kernel_rfl,?_⟩) (by assumption) ?_
      rotate_left
      · intro w' hSw;go_simp;try with_reducible rfl
      try simp only [Act.put,SL]
      refine wpAnyM_pure (i:=2) (oi:=_) (v:=?_) rfl (by kernel_rfl) (fun _ _ _ h => h) (Or.inl ⟨by kernel_rfl,?_⟩) (by assumption) ?_
      rotate_left
      · intro w' hSw;go_simp;try with_reducible rfl
      try simp only [Act.put,SL]
      refine wpAnyM_pure (i:=3) (oi:=_) (v:=?_) rfl (by kernel_rfl) (fun _ _ _ h => h) (Or.inl ⟨by kernel_rfl,?_⟩) (by assumption) ?_
      rotate_left
      · intro w' hSw;go_simp;try with_reducible rfl
      try simp only [Act.put,SL]
      refine wpAnyM_take (i:=4) (oi:=_) (v:=.agg cA.toArray) 16 rfl (by kernel_rfl) (fun _ _ _ h => h) (yieldsIf_load_mid (by kernel_rfl) 81 (.tmp 43) rfl blk (A * 9) (by simp [Act.eval,Act.put]) cA _ (fun w h => h.1) Tryz.underlying81 rfl (info_Rec9 hsA)) (by assumption) ?_
      try simp only [Act.put,SL]
      refine wpAnyM_pure (i:=5) (oi:=_) (v:=?_) rfl (by kernel_rfl) (fun _ _ _ h => h) (Or.inl ⟨by kernel_rfl,?_⟩) (by assumption) ?_
      rotate_left
      · intro w' hSw;go_simp;try with_reducible rfl
      try simp only [Act.put,SL]
      refine wpAnyM_pure (i:=6) (oi:=_) (v:=?_) rfl (by kernel_rfl) (fun _ _ _ h => h) (Or.inl ⟨by kernel_rfl,?_⟩) (by assumption) ?_
      rotate_left
      · intro w' hSw;go_simp;try with_reducible rfl
      try simp only [Act.put,SL]
      refine wpAnyM_pure (i:=7) (oi:=_) (v:=?_) rfl (by kernel_rfl) (fun _ _ _ h => h) (Or.inl ⟨by kernel_rfl,?_⟩) (by assumption) ?_
      rotate_left
      · intro w' hSw;go_simp;try with_reducible rfl
      try simp only [Act.put,SL]
      refine wpAnyM_take (i:=8) (oi:=_) (v:=.agg cB.toArray) 16 rfl (by kernel_rfl) (fun _ _ _ h => h) (yieldsIf_load_mid (by kernel_rfl) 81 (.tmp 47) rfl blk (a * 9) (by simp [Act.eval,Act.put]) cB _ (fun w h => h.2) Tryz.underlying81 rfl (info_Rec9 hsB)) (by assumption) ?_
      try simp only [Act.put,SL]
      refine wpAnyM_one (i:=9) (o:=_) rfl (by kernel_rfl) (by kernel_rfl) (fun KC hKC => ?_);refine step_callv (by kernel_rfl) (.tmp 40) 117 #[] _ _ rfl (by simp [Act.eval,Act.put]) #[.agg cA.toArray,.agg cB.toArray] (by simp [Act.eval,Act.put]) Tryz.func117 (by kernel_rfl) (by kernel_rfl) CC ?_;rintro ee w5 ⟨rfl,b5⟩;refine ⟨_,rfl,?_⟩;refine hKC _ _ ?_;clear hKC KC
      try simp only [Act.put,SL]
      refine wpAnyM_pureL (i:=10) (oi:=_) (v:=?_) rfl (by kernel_rfl) (fun _ _ _ h => h) (Or.inl ⟨by kernel_rfl,?_⟩) ?_
      rotate_left
      · intro w' hSw;go_simp;try with_reducible rfl
      try simp only [Act.put,SL]
      refine wpAnyM_done (by kernel_rfl) ?_ _;have HV5:Hid (RowsV x0 enc N blk cap lo hi w5 p):=View.below HVD.out b5 (by show hi ≤ wr.heap.size;omega);have HC5:Hid (ChgL [blk] w w5):=HC.out.trans ((ChgL.of_below ⟨rfl,rfl,rfl,Nat.le_refl _,fun _ _ => rfl⟩:ChgL [blk] wr wr.drew).trans (ChgL.of_below b5));clear HVD HC rgA rgB hsA hsB b5 hHeld CC hsz;obtain ⟨dd,hdd⟩:∃ d:Bool,d = decide (c < 0):=⟨_,rfl⟩;have HDD:Hid (dd = decide (c < 0)):=hdd
      try rw [← hdd]
      clear hdd
      cases dd
      · go_wp2
        go_roundw
        case rel => 
          refine ⟨i,A,hmi,hAi,by omega,rfl,by go_num,HV5.out,HL.out,fun k k1 k2 => ?_,HC5.out⟩
          have h2:¬ c < 0:=by simpa using HDD.out
          rw [HCN.out] at h2;have h3:=ask_no (HT.out a A (Nat.le_refl _) (by have:=HM.out;omega) (by omega) (by omega)) h2
          by_cases ck:k = A
          · rw [ck];exact h3
          · exact (numL_ord x0).trans h3 (HS2.out A k (by omega) (by omega) k2)
        case measure => simp [intOf];omega
      · go_wp2
        go_roundw
        case rel =>
          refine ⟨A + 1,j,by omega,by omega,by omega,by go_num,rfl,HV5.out,fun k k1 k2 => ?_,HR.out,HC5.out⟩
          have h2:c < 0:=by simpa using HDD.out
          rw [HCN.out] at h2;have h3:=ask_yes h2
          by_cases ck:k = A
          · rw [ck];exact h3
          · exact (numL_ord x0).trans (HS2.out k A k1 (by omega) (by omega)) h3
        case measure => simp [intOf];omega
    · obtain rfl:i = j:=by omega
      obtain ⟨e,he⟩:∃ e,i = e + 1:=⟨i - 1,by omega⟩;have HE:Hid (i = e + 1):=he
      have w3:IntKind.i64.wrap ((i:Int) - 1) = (e:Int):=by rw [IntKind.wrap_i64];omega
      clear V he hij;go_wp2
      go_loopw [13] (fun vk wr => ∃ k:Nat,a ≤ k ∧ k ≤ e ∧ vk = .int .i64 k ∧ RowsV x0 enc N blk cap lo hi wr (fun x => p (Sym.rot a (a + 1) (k + 1) x)) ∧ ChgL [blk] w wr) (fun vk _ => e - (intOf vk).toNat)
      case atStart => exact ⟨a,Nat.le_refl _,by have h1:=HE.out;have h2:=HM.out;omega,by go_num,HV.out.same (fun x _ => by rw [rot1_zero]),HC.out⟩
      case round =>
        obtain ⟨A,haA,hAe,rfl,V,C⟩:=hrel;have HCr:Hid (ChgL [blk] w wr):=C;clear C
        by_cases hlt:A < e
        · have t2:(A:Int) < (e:Int):=by omega
          obtain ⟨q,hq⟩:∃ q:Nat → Nat,q = fun x => p (Sym.rot a (a + 1) (A + 1) x):=⟨_,rfl⟩;have HQ:Hid (q = fun x => p (Sym.rot a (a + 1) (A + 1) x)):=hq
          have VQ:RowsV x0 enc N blk cap lo hi wr q:=by rw [hq];exact V
          obtain ⟨B,hB⟩:∃ B,B = A + 1:=⟨_,rfl⟩;have HAB:Hid (B = A + 1):=hB
          have hAN:A < N:=by have:=HE.out;omega
          have hBN:B < N:=by have:=HE.out;omega
          have w4:IntKind.i64.wrap ((A:Int) + 1) = (B:Int):=by rw [IntKind.wrap_i64];omega
          have i1:(A:Int) < (N:Int):=by omega
          have i2:(B:Int) < (N:Int):=by omega
          have i3:(0:Int) ≤ (A:Int):=by omega
          have i4:(0:Int) ≤ (B:Int):=by omega
          have VD:=View.drew VQ;have rgA:wr.drew.rangeAt blk (A * 9) (enc (q A)):=VD.range hAN;have rgB:wr.drew.rangeAt blk (B * 9) (enc (q B)):=VD.range hBN;have hsA:(enc (q A)).length = 9:=VD.lens A hAN;have hsB:(enc (q B)).length = 9:=VD.lens B hBN
          have th1:wr.drew.there blk (A * 9) (enc (q B)).length:=by rw [hsB];exact VD.there hAN
          have th2:(wr.drew.setCells blk (A * 9) (enc (q B))).there blk (B * 9) (enc (q A)).length:=by rw [hsA];exact (VD.put (by decide) hlo hAN (VD.each B hBN)).there hBN
          have oneA:=rdOne_rec _ _ _ _ (VD.each A hAN);have oneB:=rdOne_rec _ _ _ _ (VD.each B hBN);have SW:=view_swap VD hlo hAN hBN;have HSW:Hid (RowsV x0 enc N blk cap lo hi ((wr.drew.setCells blk (A * 9) (enc (q B))).setCells blk (B * 9) (enc (q A))) (fun k => q (Sym.swp A B k))):=SW.1;have HSC:Hid (ChgL [blk] wr ((wr.drew.setCells blk (A * 9) (enc (q B))).setCells blk (B * 9) (enc (q A)))):=(ChgL.of_below ⟨rfl,rfl,rfl,Nat.le_refl _,fun _ _ => rfl⟩:ChgL [blk] wr wr.drew).trans SW.2;obtain ⟨cA,hcA⟩:∃ c,c = enc (q A):=⟨_,rfl⟩;obtain ⟨cB,hcB⟩:∃ c,c = enc (q B):=⟨_,rfl⟩;rw [← hcA] at rgA th2 hsA oneA HSW HSC;rw [← hcB] at rgB th1 th2 hsB oneB HSW HSC;clear hcA hcB VD SW;clear hq hB V VQ
          go_upto_region 11 with fail
          refine wp_region_M 15 (fun w' => w'.rangeAt blk (A * 9) cA ∧ w'.rangeAt blk (B * 9) cB) mixedO ⟨rgA,rgB⟩ (fun hHeld => ?_);refine wpAnyM_pure (i:=0) (oi:=_) (v:=?_) rfl (by kernel_rfl) (fun _ _ _ h => h) (Or.inl ⟨by rfl,?_⟩) (by assumption) ?_
          rotate_left
          · intro w' hSw;go_simp;try with_reducible rfl
          try simp only [Act.put,SL]
          refine wpAnyM_pure (i:=1) (oi:=_) (v:=?_) rfl (by kernel_rfl) (fun _ _ _ h => h) (Or.inl ⟨by rfl,?_⟩) (by assumption) ?_
          rotate_left
          · intro w' hSw;go_simp;try with_reducible rfl
          try simp only [Act.put,SL]
          refine wpAnyM_pure (i:=2) (oi:=_) (v:=?_) rfl (by kernel_rfl) (fun _ _ _ h => h) (Or.inl ⟨by rfl,?_⟩) (by assumption) ?_
          rotate_left
          · intro w' hSw;go_simp;try with_reducible rfl
          try simp only [Act.put,SL]
          refine wpAnyM_pure (i:=3) (oi:=_) (v:=?_) rfl (by kernel_rfl) (fun _ _ _ h => h) (Or.inl ⟨by rfl,?_⟩) (by assumption) ?_
          rotate_left
          · intro w' hSw;go_simp;try with_reducible rfl
          try simp only [Act.put,SL]
          refine wpAnyM_pure (i:=4) (oi:=_) (v:=?_) rfl (by kernel_rfl) (fun _ _ _ h => h) (Or.inl ⟨by rfl,?_⟩) (by assumption) ?_
          rotate_left
          · intro w' hSw;go_simp;try with_reducible rfl
          try simp only [Act.put,SL]
          refine wpAnyM_pure (i:=5) (oi:=_) (v:=?_) rfl (by kernel_rfl) (fun _ _ _ h => h) (Or.inl ⟨by rfl,?_⟩) (by assumption) ?_
          rotate_left
          · intro w' hSw;go_simp;try with_reducible rfl
          try simp only [Act.put,SL]
          refine wpAnyM_pure (i:=6) (oi:=_) (v:=?_) rfl (by kernel_rfl) (fun _ _ _ h => h) (Or.inl ⟨by rfl,?_⟩) (by assumption) ?_
          rotate_left
          · intro w' hSw;go_simp;try with_reducible rfl
          try simp only [Act.put,SL]
          refine wpAnyM_pure (i:=7) (oi:=_) (v:=?_) rfl (by kernel_rfl) (fun _ _ _ h => h) (Or.inl ⟨by rfl,?_⟩) (by assumption) ?_
          rotate_left
          · intro w' hSw;go_simp;try with_reducible rfl
          try simp only [Act.put,SL]
          refine wpAnyM_pure (i:=8) (oi:=_) (v:=?_) rfl (by kernel_rfl) (fun _ _ _ h => h) (Or.inl ⟨by rfl,?_⟩) (by assumption) ?_
          rotate_left
          · intro w' hSw;go_simp;try with_reducible rfl
          try simp only [Act.put,SL]
          refine wpAnyM_take (i:=9) (oi:=_) (v:=.agg cB.toArray) 16 rfl (by kernel_rfl) (fun _ _ _ h => h) (yieldsIf_load_mid (by rfl) 81 (.tmp 69) rfl blk (B * 9) (by simp [Act.eval,Act.put]) cB _ (fun w h => h.2) Tryz.underlying81 rfl (info_Rec9 hsB)) (by assumption) ?_
          try simp only [Act.put,SL]
          refine wpAnyM_pure (i:=10) (oi:=_) (v:=?_) rfl (by kernel_rfl) (fun _ _ _ h => h) (Or.inl ⟨by rfl,?_⟩) (by assumption) ?_
          rotate_left
          · intro w' hSw;go_simp;try with_reducible rfl
          try simp only [Act.put,SL]
          refine wpAnyM_pure (i:=11) (oi:=_) (v:=?_) rfl (by kernel_rfl) (fun _ _ _ h => h) (Or.inl ⟨by rfl,?_⟩) (by assumption) ?_
          rotate_left
          · intro w' hSw;go_simp;try with_reducible rfl
          try simp only [Act.put,SL]
          refine wpAnyM_pure (i:=12) (oi:=_) (v:=?_) rfl (by kernel_rfl) (fun _ _ _ h => h) (Or.inl ⟨by rfl,?_⟩) (by assumption) ?_
          rotate_left
          · intro w' hSw;go_simp;try with_reducible rfl
          try simp only [Act.put,SL]
          refine wpAnyM_take (i:=13) (oi:=_) (v:=.agg cA.toArray) 16 rfl (by kernel_rfl) (fun _ _ _ h => h) (yieldsIf_load_mid (by rfl) 81 (.tmp 73) rfl blk (A * 9) (by simp [Act.eval,Act.put]) cA _ (fun w h => h.1) Tryz.underlying81 rfl (info_Rec9 hsA)) (by assumption) ?_
          try simp only [Act.put,SL]
          refine wpAnyM_pure (i:=14) (oi:=_) (v:=?_) rfl (by kernel_rfl) (fun _ _ _ h => h) (Or.inl ⟨by rfl,?_⟩) (by assumption) ?_
          rotate_left
          · intro w' hSw;go_simp;try with_reducible rfl
          try simp only [Act.put,SL]
          refine wpAnyM_store (i:=15) rfl (by kernel_rfl) (by kernel_rfl) rfl rfl 81 (.tmp 75) (.tmp 70) rfl blk (A * 9) cB (by simp [Act.eval]) (by simp [Act.eval]) th1 (info_Rec9 hsB) oneB ?_;refine wpAnyM_pureL (i:=16) (oi:=_) (v:=?_) rfl (by kernel_rfl) (fun _ _ _ h => h) (Or.inl ⟨by rfl,?_⟩) ?_
          rotate_left
          · intro w' hSw;go_simp;try with_reducible rfl
          try simp only [Act.put,SL]
          refine wpAnyM_store (i:=17) rfl (by kernel_rfl) (by kernel_rfl) rfl rfl 81 (.tmp 76) (.tmp 74) rfl blk (B * 9) cA (by simp [Act.eval]) (by simp [Act.eval]) th2 (info_Rec9 hsA) oneA ?_;refine wpAnyM_done (by kernel_rfl) ?_ _;go_wp2
          go_roundw
          case rel =>
            have hAB:=HAB.out
            have e9:∀ x,q (Sym.swp A B x) = p (Sym.rot a (a + 1) (B + 1) x):=fun x => by
              rw [HQ.out,hAB]
              show p (Sym.rot a (a + 1) (A + 1) (Sym.swp A (A + 1) x)) = _
              rw [rot1_step a A x haA]
            exact ⟨B,by omega,by omega,by go_num,HSW.out.same (fun x _ => e9 x),HCr.out.trans HSC.out⟩
          case measure => have hAB:=HAB.out;simp [intOf];omega
        · obtain rfl:A = e:=by omega
          have HVA:Hid (RowsV x0 enc N blk cap lo hi wr (fun x => p (Sym.rot a (a + 1) (A + 1) x))):=V;clear V;go_wp2;refine bodyPost_ret (results_none rfl _ _ _) rfl ?_;have hm:=HM.out;have he:=HE.out;have h2:=HS2.out;rw [hm] at h2;have M:=merge1 (numL_ord x0) (p:=p) (a:=a) (b:=b) (i:=A + 1) (by omega) (by omega) h2 (fun k h3 h4 => HL.out k (by omega) (by omega)) (fun k h3 h4 => HR.out k (by omega) h4);exact ⟨rfl,_,HVA.out,M.2,M.1,HCr.out⟩
end Go.Proofs.YtbjkjcfodljamaaGreat
namespace Go.Proofs.YtbjkjcfodljamaaGreat
open Go.RowKit F256
theorem rot2_step (m k x:Nat) (h:k + 1 ≤ m):Sym.rot (k + 1) m (m + 1) (Sym.swp (k + 1) k x) = Sym.rot k m (m + 1) x:=by
  unfold Sym.rot Sym.swp
  repeat' split
  all_goals omega
theorem rot2_zero (m x:Nat):Sym.rot m m (m + 1) x = x:=by
  unfold Sym.rot
  repeat' split
  all_goals omega
theorem merge2 {lt:Nat → Nat → Prop} {p:Nat → Nat} {a m i:Nat} (hai:a ≤ i) (him:i ≤ m) (h1:Sym.Srt lt p a m) (hl:∀ k,a ≤ k → k < i → lt (p k) (p m)) (hr:∀ k,i ≤ k → k < m → lt (p m) (p k)) :
    Sym.Srt lt (fun k => p (Sym.rot i m (m + 1) k)) a (m + 1) ∧ Sym.Re a (m + 1) p (fun k => p (Sym.rot i m (m + 1) k)):=by
  have r1 : ∀ k, i < k → k ≤ m → Sym.rot i m (m + 1) k = k - 1 := fun k h3 h4 => by unfold Sym.rot;repeat' split
                                                                                    all_goals omega
  have r2 : Sym.rot i m (m + 1) i = m := by unfold Sym.rot;repeat' split
                                            all_goals omega
  have r3 : ∀ k, k < i → Sym.rot i m (m + 1) k = k := fun k h3 => by unfold Sym.rot;repeat' split
                                                                     all_goals omega
  refine ⟨fun x y h3 h4 h5 => ?_,(Sym.Re.rots p him (by omega)).mono hai (Nat.le_refl _)⟩
  show lt (p (Sym.rot i m (m + 1) x)) (p (Sym.rot i m (m + 1) y))
  by_cases c1:x < i
  · rw [r3 x c1]
    by_cases c2:y < i
    · rw [r3 y c2];exact h1 _ _ (by omega) (by omega) (by omega)
    · by_cases c3:y = i
      · rw [c3,r2];exact hl _ h3 c1
      · rw [r1 y (by omega) (by omega)];exact h1 _ _ (by omega) (by omega) (by omega)
  · by_cases c3:x = i
    · rw [c3,r2,r1 y (by omega) (by omega)];exact hr _ (by omega) (by omega)
    · rw [r1 x (by omega) (by omega),r1 y (by omega) (by omega)];exact h1 _ _ (by omega) (by omega) (by omega)
set_option maxHeartbeats 8000000 in
set_option maxRecDepth 1000000 in
theorem symMerge_2 (x0:Nat → RecD) (enc:Nat → List Value) (p:Nat → Nat) (N blk cap lo hi:Nat) (w:World) (V:RowsV x0 enc N blk cap lo hi w p) (hlo:hi ≤ lo) (hN:N < 1000000000) (a m b:Nat) (ham:a < m) (hmb:m < b) (hb:b ≤ N) (htag:∀ i j,a ≤ i → i < m → m ≤ j → j < b → p i < p j) (hs1:Sym.Srt (numL x0) p a m) (hs2:Sym.Srt (numL x0) p m b) (h0:m ≠ a + 1) (h1:b = m + 1) :
    Calls Tryz.prog 163 #[.slice (some ⟨blk,0,none⟩) N cap,.int .i64 a,.int .i64 m,.int .i64 b,.func (.func 117) #[] #[]] w (fun e w' => e = .returned (.tuple #[]) ∧ ∃ q,RowsV x0 enc N blk cap lo hi w' q ∧ Sym.Re a b p q ∧ Sym.Srt (numL x0) q a b ∧ ChgL [blk] w w'):=by
  have HV0:Hid (RowsV x0 enc N blk cap lo hi w p):=V;have HT:Hid (∀ i j,a ≤ i → i < m → m ≤ j → j < b → p i < p j):=htag;have HS1:Hid (Sym.Srt (numL x0) p a m):=hs1;have HM:Hid (b = m + 1):=h1;obtain ⟨D,hD⟩:∃ D,D = m - a:=⟨_,rfl⟩
  have w0:IntKind.i64.wrap ((m:Int) - (a:Int)) = (D:Int):=by rw [IntKind.wrap_i64];omega
  have d0:((D:Int) == 1) = false:=by simp;omega
  have w9:IntKind.i64.wrap ((b:Int) - (m:Int)) = 1:=by rw [IntKind.wrap_i64];omega
  clear V htag hs1 hs2 h0 h1 hD
  go_enter Tryz.func163,Tryz.ntmps163
  go_wp2
  go_loopw [14,15] (fun vi vj wr => ∃ (i j:Nat),a ≤ i ∧ i ≤ j ∧ j ≤ m ∧ vi = .int .i64 i ∧ vj = .int .i64 j ∧ RowsV x0 enc N blk cap lo hi wr p ∧ (∀ k,a ≤ k → k < i → numL x0 (p k) (p m)) ∧ (∀ k,j ≤ k → k < m → numL x0 (p m) (p k)) ∧ ChgL [blk] w wr) (fun vi vj _ => (intOf vj).toNat - (intOf vi).toNat)
  case atStart => exact ⟨a,m,Nat.le_refl _,by omega,Nat.le_refl _,by go_num,by go_num,HV0.out,fun k h1 h2 => by omega,fun k h1 h2 => by omega,ChgL.refl _ _⟩
  case round =>
    obtain ⟨i,j,hmi,hij,hjb,rfl,rfl,V,hL,hR,C⟩:=hrel;have HC:Hid (ChgL [blk] w wr):=C;have HL:Hid (∀ k,a ≤ k → k < i → numL x0 (p k) (p m)):=hL;have HR:Hid (∀ k,j ≤ k → k < m → numL x0 (p m) (p k)):=hR;have HV:Hid (RowsV x0 enc N blk cap lo hi wr p):=V;clear C hL hR w0 w9 d0
    by_cases hlt:i < j
    · have t1:(i:Int) < (j:Int):=by omega
      obtain ⟨B,hB⟩:∃ B,B = (i + j) / 2:=⟨_,rfl⟩
      have w1:IntKind.i64.wrap ((i:Int) + (j:Int)) = ((i + j:Nat):Int):=by rw [IntKind.wrap_i64];omega
      have e1:((i:Int) + (j:Int)) / 2 = (B:Int):=by omega
      have hBi:i ≤ B:=by omega
      have hBj:B < j:=by omega
      have hAN:m < N:=by omega
      have hBN:B < N:=by omega
      have i1:(m:Int) < (N:Int):=by omega
      have i2:(B:Int) < (N:Int):=by omega
      have i3:(0:Int) ≤ (m:Int):=by omega
      have i4:(0:Int) ≤ (B:Int):=by omega
      have hsz:=(V.row.lt blk rfl);have VD:=View.drew V;have rgA:wr.drew.rangeAt blk (m * 9) (enc (p m)):=VD.range hAN;have rgB:wr.drew.rangeAt blk (B * 9) (enc (p B)):=VD.range hBN;have hsA:(enc (p m)).length = 9:=VD.lens m hAN;have hsB:(enc (p B)).length = 9:=VD.lens B hBN;have rdA:=VD.each m hAN;have rdB:=VD.each B hBN;obtain ⟨cA,hcA⟩:∃ c,c = enc (p m):=⟨_,rfl⟩;obtain ⟨cB,hcB⟩:∃ c,c = enc (p B):=⟨_,rfl⟩;rw [← hcA] at rgA hsA;rw [← hcB] at rgB hsB;have CC0:=byNumbers_is _ _ _ _ hi hi wr.drew rdA rdB;rw [← hcA,← hcB] at CC0;obtain ⟨c,hc⟩:∃ c:Int,c = numC (x0 (p m)) (x0 (p B)):=⟨_,rfl⟩;rw [← hc] at CC0;have HCN:Hid (c = numC (x0 (p m)) (x0 (p B))):=hc
      have CC:Calls Tryz.prog 117 (#[.agg cA.toArray,.agg cB.toArray] ++ #[]) wr.drew fun e w' => e = .returned (.int .i64 c) ∧ Below wr.drew.heap.size wr.drew w':=by rw [Array.append_empty];exact CC0
      have HVD:Hid (RowsV x0 enc N blk cap lo hi wr.drew p):=VD;clear CC0 hc hcA hcB rdA rdB hB VD V HV
      go_upto_region 17 with fail
      try rw [e1]
      refine wp_region_M 9 (fun w' => w'.rangeAt blk (m * 9) cA ∧ w'.rangeAt blk (B * 9) cB) mixedO ⟨rgA,rgB⟩ (fun hHeld => ?_);refine wpAnyM_pure (i:=0) (oi:=_) (v:=?_) rfl (by kernel_rfl) (fun _ _ _ h => h) (Or.inl ⟨by kernel_rfl,?_⟩) (by assumption) ?_
      rotate_left
      · intro w' hSw;go_simp;try with_reducible rfl
      try simp only [Act.put,SL]
      refine wpAnyM_pure (i:=1) (oi:=_) (v:=?_) rfl (by kernel_rfl) (fun _ _ _ h => h) (Or.inl ⟨by kernel_rfl,?_⟩) (by assumption) ?_
      rotate_left
      · intro w' hSw;go_simp;try with_reducible rfl
      try simp only [Act.put,SL]
      refine wpAnyM_pure (i:=2) (oi:=_) (v:=?_) rfl (by kernel_rfl) (fun _ _ _ h => h) (Or.inl ⟨by kernel_rfl,?_⟩) (by assumption) ?_
      rotate_left
      · intro w' hSw;go_simp;try with_reducible rfl
      try simp only [Act.put,SL]
      refine wpAnyM_pure (i:=3) (oi:=_) (v:=?_) rfl (by kernel_rfl) (fun _ _ _ h => h) (Or.inl ⟨by kernel_rfl,?_⟩) (by assumption) ?_
      rotate_left
      · intro w' hSw;go_simp;try with_reducible rfl
      try simp only [Act.put,SL]
      refine wpAnyM_take (i:=4) (oi:=_) (v:=.agg cA.toArray) 16 rfl (by kernel_rfl) (fun _ _ _ h => h) (yieldsIf_load_mid (by kernel_rfl) 81 (.tmp 95) rfl blk (m * 9) (by simp [Act.eval,Act.put]) cA _ (fun w h => h.1) Tryz.underlying81 rfl (info_Rec9 hsA)) (by assumption) ?_
      try simp only [Act.put,SL]
      refine wpAnyM_pure (i:=5) (oi:=_) (v:=?_) rfl (by kernel_rfl) (fun _ _ _ h => h) (Or.inl ⟨by kernel_rfl,?_⟩) (by assumption) ?_
      rotate_left
      · intro w' hSw;go_simp;try with_reducible rfl
      try simp only [Act.put,SL]
      refine wpAnyM_pure (i:=6) (oi:=_) (v:=?_) rfl (by kernel_rfl) (fun _ _ _ h => h) (Or.inl ⟨by kernel_rfl,?_⟩) (by assumption) ?_
      rotate_left
      · intro w' hSw;go_simp;try with_reducible rfl
      try simp only [Act.put,SL]
      refine wpAnyM_pure (i:=7) (oi:=_) (v:=?_) rfl (by kernel_rfl) (fun _ _ _ h => h) (Or.inl ⟨by kernel_rfl,?_⟩) (by assumption) ?_
      rotate_left
      · intro w' hSw;go_simp;try with_reducible rfl
      try simp only [Act.put,SL]
      refine wpAnyM_take (i:=8) (oi:=_) (v:=.agg cB.toArray) 16 rfl (by kernel_rfl) (fun _ _ _ h => h) (yieldsIf_load_mid (by kernel_rfl) 81 (.tmp 99) rfl blk (B * 9) (by simp [Act.eval,Act.put]) cB _ (fun w h => h.2) Tryz.underlying81 rfl (info_Rec9 hsB)) (by assumption) ?_
      try simp only [Act.put,SL]
      refine wpAnyM_one (i:=9) (o:=_) rfl (by kernel_rfl) (by kernel_rfl) (fun KC hKC => ?_);refine step_callv (by kernel_rfl) (.tmp 92) 117 #[] _ _ rfl (by simp [Act.eval,Act.put]) #[.agg cA.toArray,.agg cB.toArray] (by simp [Act.eval,Act.put]) Tryz.func117 (by kernel_rfl) (by kernel_rfl) CC ?_;rintro ee w5 ⟨rfl,b5⟩;refine ⟨_,rfl,?_⟩;refine hKC _ _ ?_;clear hKC KC
      try simp only [Act.put,SL]
      refine wpAnyM_pureL (i:=10) (oi:=_) (v:=?_) rfl (by kernel_rfl) (fun _ _ _ h => h) (Or.inl ⟨by kernel_rfl,?_⟩) ?_
      rotate_left
      · intro w' hSw;go_simp;try with_reducible rfl
      try simp only [Act.put,SL]
      obtain ⟨dd,hdd⟩:∃ d:Bool,d = decide (c < 0):=⟨_,rfl⟩;have HDD:Hid (dd = decide (c < 0)):=hdd;rw [← hdd];clear hdd;refine wpAnyM_pureL (i:=11) (oi:=_) (v:=?_) rfl (by kernel_rfl) (fun _ _ _ h => h) (Or.inl ⟨by kernel_rfl,?_⟩) ?_
      rotate_left
      · intro w' hSw;go_simp;try with_reducible rfl
      try simp only [Act.put,SL]
      refine wpAnyM_done (by kernel_rfl) ?_ _;have HV5:Hid (RowsV x0 enc N blk cap lo hi w5 p):=View.below HVD.out b5 (by show hi ≤ wr.heap.size;omega);have HC5:Hid (ChgL [blk] w w5):=HC.out.trans ((ChgL.of_below ⟨rfl,rfl,rfl,Nat.le_refl _,fun _ _ => rfl⟩:ChgL [blk] wr wr.drew).trans (ChgL.of_below b5));clear HVD HC rgA rgB hsA hsB b5 hHeld CC hsz
      cases dd
      · go_wp2
        go_roundw
        case rel =>
          refine ⟨B + 1,j,by omega,by omega,by omega,by go_num,rfl,HV5.out,fun k k1 k2 => ?_,HR.out,HC5.out⟩
          have h2:¬ c < 0:=by simpa using HDD.out
          rw [HCN.out] at h2;have h3:=ask_no (HT.out B m (by omega) (by omega) (Nat.le_refl _) (by omega)) h2
          by_cases ck:k = B
          · rw [ck];exact h3
          · exact (numL_ord x0).trans (HS1.out k B k1 (by omega) (by omega)) h3
        case measure => simp [intOf];omega
      · go_wp2
        go_roundw
        case rel =>
          refine ⟨i,B,hmi,hBi,by omega,rfl,by go_num,HV5.out,HL.out,fun k k1 k2 => ?_,HC5.out⟩
          have h2:c < 0:=by simpa using HDD.out
          rw [HCN.out] at h2;have h3:=ask_yes h2
          by_cases ck:k = B
          · rw [ck];exact h3
          · exact (numL_ord x0).trans h3 (HS1.out B k (by omega) (by omega) k2)
        case measure => simp [intOf];omega
    · obtain rfl:i = j:=by omega
      clear V hij;go_wp2
      go_loopw [17] (fun vk wr => ∃ k:Nat,i ≤ k ∧ k ≤ m ∧ vk = .int .i64 k ∧ RowsV x0 enc N blk cap lo hi wr (fun x => p (Sym.rot k m (m + 1) x)) ∧ ChgL [blk] w wr) (fun vk _ => (intOf vk).toNat)
      case atStart => exact ⟨m,hjb,Nat.le_refl _,by go_num,HV.out.same (fun x _ => by rw [rot2_zero]),HC.out⟩
      case round =>
        obtain ⟨A,haA,hAe,rfl,V,C⟩:=hrel;have HCr:Hid (ChgL [blk] w wr):=C;clear C
        by_cases hlt:i < A
        · have t2:(i:Int) < (A:Int):=by omega
          obtain ⟨q,hq⟩:∃ q:Nat → Nat,q = fun x => p (Sym.rot A m (m + 1) x):=⟨_,rfl⟩;have HQ:Hid (q = fun x => p (Sym.rot A m (m + 1) x)):=hq
          have VQ:RowsV x0 enc N blk cap lo hi wr q:=by rw [hq];exact V
          obtain ⟨B,hB⟩:∃ B,A = B + 1:=⟨A - 1,by omega⟩;have HAB:Hid (A = B + 1):=hB
          have hAN:A < N:=by omega
          have hBN:B < N:=by omega
          have w4:IntKind.i64.wrap ((A:Int) - 1) = (B:Int):=by rw [IntKind.wrap_i64];omega
          have i1:(A:Int) < (N:Int):=by omega
          have i2:(B:Int) < (N:Int):=by omega
          have i3:(0:Int) ≤ (A:Int):=by omega
          have i4:(0:Int) ≤ (B:Int):=by omega
          have VD:=View.drew VQ;have rgA:wr.drew.rangeAt blk (A * 9) (enc (q A)):=VD.range hAN;have rgB:wr.drew.rangeAt blk (B * 9) (enc (q B)):=VD.range hBN;have hsA:(enc (q A)).length = 9:=VD.lens A hAN;have hsB:(enc (q B)).length = 9:=VD.lens B hBN
          have th1:wr.drew.there blk (A * 9) (enc (q B)).length:=by rw [hsB];exact VD.there hAN
          have th2:(wr.drew.setCells blk (A * 9) (enc (q B))).there blk (B * 9) (enc (q A)).length:=by rw [hsA];exact (VD.put (by decide) hlo hAN (VD.each B hBN)).there hBN
          have oneA:=rdOne_rec _ _ _ _ (VD.each A hAN);have oneB:=rdOne_rec _ _ _ _ (VD.each B hBN);have SW:=view_swap VD hlo hAN hBN;have HSW:Hid (RowsV x0 enc N blk cap lo hi ((wr.drew.setCells blk (A * 9) (enc (q B))).setCells blk (B * 9) (enc (q A))) (fun k => q (Sym.swp A B k))):=SW.1;have HSC:Hid (ChgL [blk] wr ((wr.drew.setCells blk (A * 9) (enc (q B))).setCells blk (B * 9) (enc (q A)))):=(ChgL.of_below ⟨rfl,rfl,rfl,Nat.le_refl _,fun _ _ => rfl⟩:ChgL [blk] wr wr.drew).trans SW.2;obtain ⟨cA,hcA⟩:∃ c,c = enc (q A):=⟨_,rfl⟩;obtain ⟨cB,hcB⟩:∃ c,c = enc (q B):=⟨_,rfl⟩;rw [← hcA] at rgA th2 hsA oneA HSW HSC;rw [← hcB] at rgB th1 th2 hsB oneB HSW HSC;clear hcA hcB VD SW;clear hq hB V VQ
          go_upto_region 23 with fail
          refine wp_region_M 15 (fun w' => w'.rangeAt blk (A * 9) cA ∧ w'.rangeAt blk (B * 9) cB) mixedO ⟨rgA,rgB⟩ (fun hHeld => ?_);refine wpAnyM_pure (i:=0) (oi:=_) (v:=?_) rfl (by kernel_rfl) (fun _ _ _ h => h) (Or.inl ⟨by rfl,?_⟩) (by assumption) ?_
          rotate_left
          · intro w' hSw;go_simp;try with_reducible rfl
          try simp only [Act.put,SL]
          refine wpAnyM_pure (i:=1) (oi:=_) (v:=?_) rfl (by kernel_rfl) (fun _ _ _ h => h) (Or.inl ⟨by rfl,?_⟩) (by assumption) ?_
          rotate_left
          · intro w' hSw;go_simp;try with_reducible rfl
          try simp only [Act.put,SL]
          refine wpAnyM_pure (i:=2) (oi:=_) (v:=?_) rfl (by kernel_rfl) (fun _ _ _ h => h) (Or.inl ⟨by rfl,?_⟩) (by assumption) ?_
          rotate_left
          · intro w' hSw;go_simp;try with_reducible rfl
          try simp only [Act.put,SL]
          refine wpAnyM_pure (i:=3) (oi:=_) (v:=?_) rfl (by kernel_rfl) (fun _ _ _ h => h) (Or.inl ⟨by rfl,?_⟩) (by assumption) ?_
          rotate_left
          · intro w' hSw;go_simp;try with_reducible rfl
          try simp only [Act.put,SL]
          refine wpAnyM_pure (i:=4) (oi:=_) (v:=?_) rfl (by kernel_rfl) (fun _ _ _ h => h) (Or.inl ⟨by rfl,?_⟩) (by assumption) ?_
          rotate_left
          · intro w' hSw;go_simp;try with_reducible rfl
          try simp only [Act.put,SL]
          refine wpAnyM_pure (i:=5) (oi:=_) (v:=?_) rfl (by kernel_rfl) (fun _ _ _ h => h) (Or.inl ⟨by rfl,?_⟩) (by assumption) ?_
          rotate_left
          · intro w' hSw;go_simp;try with_reducible rfl
          try simp only [Act.put,SL]
          refine wpAnyM_pure (i:=6) (oi:=_) (v:=?_) rfl (by kernel_rfl) (fun _ _ _ h => h) (Or.inl ⟨by rfl,?_⟩) (by assumption) ?_
          rotate_left
          · intro w' hSw;go_simp;try with_reducible rfl
          try simp only [Act.put,SL]
          refine wpAnyM_pure (i:=7) (oi:=_) (v:=?_) rfl (by kernel_rfl) (fun _ _ _ h => h) (Or.inl ⟨by rfl,?_⟩) (by assumption) ?_
          rotate_left
          · intro w' hSw;go_simp;try with_reducible rfl
          try simp only [Act.put,SL]
          refine wpAnyM_pure (i:=8) (oi:=_) (v:=?_) rfl (by kernel_rfl) (fun _ _ _ h => h) (Or.inl ⟨by rfl,?_⟩) (by assumption) ?_
          rotate_left
          · intro w' hSw;go_simp;try with_reducible rfl
          try simp only [Act.put,SL]
          refine wpAnyM_take (i:=9) (oi:=_) (v:=.agg cB.toArray) 16 rfl (by kernel_rfl) (fun _ _ _ h => h) (yieldsIf_load_mid (by rfl) 81 (.tmp 121) rfl blk (B * 9) (by simp [Act.eval,Act.put]) cB _ (fun w h => h.2) Tryz.underlying81 rfl (info_Rec9 hsB)) (by assumption) ?_
          try simp only [Act.put,SL]
          refine wpAnyM_pure (i:=10) (oi:=_) (v:=?_) rfl (by kernel_rfl) (fun _ _ _ h => h) (Or.inl ⟨by rfl,?_⟩) (by assumption) ?_
          rotate_left
          · intro w' hSw;go_simp;try with_reducible rfl
          try simp only [Act.put,SL]
          refine wpAnyM_pure (i:=11) (oi:=_) (v:=?_) rfl (by kernel_rfl) (fun _ _ _ h => h) (Or.inl ⟨by rfl,?_⟩) (by assumption) ?_
          rotate_left
          · intro w' hSw;go_simp;try with_reducible rfl
          try simp only [Act.put,SL]
          refine wpAnyM_pure (i:=12) (oi:=_) (v:=?_) rfl (by kernel_rfl) (fun _ _ _ h => h) (Or.inl ⟨by rfl,?_⟩) (by assumption) ?_
          rotate_left
          · intro w' hSw;go_simp;try with_reducible rfl
          try simp only [Act.put,SL]
          refine wpAnyM_take (i:=13) (oi:=_) (v:=.agg cA.toArray) 16 rfl (by kernel_rfl) (fun _ _ _ h => h) (yieldsIf_load_mid (by rfl) 81 (.tmp 125) rfl blk (A * 9) (by simp [Act.eval,Act.put]) cA _ (fun w h => h.1) Tryz.underlying81 rfl (info_Rec9 hsA)) (by assumption) ?_
          try simp only [Act.put,SL]
          refine wpAnyM_pure (i:=14) (oi:=_) (v:=?_) rfl (by kernel_rfl) (fun _ _ _ h => h) (Or.inl ⟨by rfl,?_⟩) (by assumption) ?_
          rotate_left
          · intro w' hSw;go_simp;try with_reducible rfl
          try simp only [Act.put,SL]
          refine wpAnyM_store (i:=15) rfl (by kernel_rfl) (by kernel_rfl) rfl rfl 81 (.tmp 127) (.tmp 122) rfl blk (A * 9) cB (by simp [Act.eval]) (by simp [Act.eval]) th1 (info_Rec9 hsB) oneB ?_;refine wpAnyM_pureL (i:=16) (oi:=_) (v:=?_) rfl (by kernel_rfl) (fun _ _ _ h => h) (Or.inl ⟨by rfl,?_⟩) ?_
          rotate_left
          · intro w' hSw;go_simp;try with_reducible rfl
          try simp only [Act.put,SL]
          refine wpAnyM_store (i:=17) rfl (by kernel_rfl) (by kernel_rfl) rfl rfl 81 (.tmp 128) (.tmp 126) rfl blk (B * 9) cA (by simp [Act.eval]) (by simp [Act.eval]) th2 (info_Rec9 hsA) oneA ?_;refine wpAnyM_done (by kernel_rfl) ?_ _;go_wp2
          go_roundw
          case rel =>
            have hAB:=HAB.out
            have e9:∀ x,q (Sym.swp A B x) = p (Sym.rot B m (m + 1) x):=fun x => by
              rw [HQ.out,hAB]
              show p (Sym.rot (B + 1) m (m + 1) (Sym.swp (B + 1) B x)) = _
              rw [rot2_step m B x (by omega)]
            exact ⟨B,by omega,by omega,by go_num,HSW.out.same (fun x _ => e9 x),HCr.out.trans HSC.out⟩
          case measure => have hAB:=HAB.out;simp [intOf];omega
        · obtain rfl:A = i:=by omega
          have HVA:Hid (RowsV x0 enc N blk cap lo hi wr (fun x => p (Sym.rot A m (m + 1) x))):=V;clear V;go_wp2;refine bodyPost_ret (results_none rfl _ _ _) rfl ?_;have M:=merge2 (p:=p) (a:=a) (m:=m) (i:=A) hmi (by omega) HS1.out (fun k h3 h4 => HL.out k h3 h4) (fun k h3 h4 => HR.out k h3 h4);rw [← HM.out] at M;exact ⟨rfl,_,by rw [← HM.out] at HVA;exact HVA.out,M.2,M.1,HCr.out⟩
end Go.Proofs.YtbjkjcfodljamaaGreat