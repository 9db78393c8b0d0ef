/- slices.symMergeCmpFunc over records. -/
import Derived.Test.YtfoidpcoiankoaaGreatZPwaitiae
import Derived.Test.YtfoidpcoiankoaaGreatZPwaitiad
import Derived.Test.YtfoidpcoiankoaaGreatZPwaitiac
import Derived.Deep.DeepCutAuto
import Derived.Test.YtfoidpcoiankoaaGreatZPwaitiaa
import Derived.Test.YtfoidpcoiankoaaGreatZPwaitiab
import Derived.BigQuiet
import Derived.Deep.QuietTactic
import Derived.StillTailTactics
import Derived.Lib.MinMax
import Derived.Laws.StructEq
set_option linter.unusedVariables false
set_option linter.unusedSimpArgs false
namespace Go.Proofs.YtfoidpcoiankoaaGreat
open Go.RowKit F256
theorem symMerge_n (x0:Nat → RecD) (enc:Nat → List Value) (N blk cap lo hi:Nat) (hlo:hi ≤ lo) (hN:N < 1000000000):∀ (n:Nat) (p:Nat → Nat) (w:World) (a m b:Nat),b - a ≤ n → RowsV x0 enc N blk cap lo hi w p → a < m → m < b → b ≤ N → (∀ i j,a ≤ i → i < m → m ≤ j → j < b → p i < p j) → Sym.Srt (numL x0) p a m → Sym.Srt (numL x0) p m b → Calls Tryz.prog 147 #[.slice (some ⟨blk,0,none⟩) N cap,.int .i64 a,.int .i64 m,.int .i64 b,.func (.func 98) #[] #[]] w (fun e w' => e = .returned (.tuple #[]) ∧ ∃ q,RowsV x0 enc N blk cap lo hi w' q ∧ Sym.Re a b p q ∧ Sym.Srt (numL x0) q a b ∧ ChgL [blk] w w')
  | 0,p,w,a,m,b,h,V,ham,hmb,hb,ht,h1,h2 => by omega
  | n + 1,p,w,a,m,b,h,V,ham,hmb,hb,ht,h1,h2 => by
    have IH:∀ (p':Nat → Nat) (w':World) (a' m' b':Nat),b' - a' < b - a → RowsV x0 enc N blk cap lo hi w' p' → a' < m' → m' < b' → b' ≤ N → (∀ i j,a' ≤ i → i < m' → m' ≤ j → j < b' → p' i < p' j) → Sym.Srt (numL x0) p' a' m' → Sym.Srt (numL x0) p' m' b' → Calls Tryz.prog 147 #[.slice (some ⟨blk,0,none⟩) N cap,.int .i64 a',.int .i64 m',.int .i64 b',.func (.func 98) #[] #[]] w' (fun e w'' => e = .returned (.tuple #[]) ∧ ∃ q,RowsV x0 enc N blk cap lo hi w'' q ∧ Sym.Re a' b' p' q ∧ Sym.Srt (numL x0) q a' b' ∧ ChgL [blk] w' w''):=fun p' w' a' m' b' h' V' => symMerge_n x0 enc N blk cap lo hi hlo hN n p' w' a' m' b' (by omega) V'
    by_cases c1:m = a + 1
    · exact symMerge_1 x0 enc p N blk cap lo hi w V hlo hN a m b ham hmb hb ht h1 h2 c1
    · by_cases c2:b = m + 1
      · exact symMerge_2 x0 enc p N blk cap lo hi w V hlo hN a m b ham hmb hb ht h1 h2 c1 c2
      · by_cases c3:(a + b) / 2 < m
        · exact symMerge_3a x0 enc p N blk cap lo hi w V hlo hN a m b _ ham hmb hb ht h1 h2 c1 c2 rfl c3 IH
        · exact symMerge_3b x0 enc p N blk cap lo hi w V hlo hN a m b _ ham hmb hb ht h1 h2 c1 c2 rfl (by omega) IH
theorem symMerge_any (x0:Nat → RecD) (enc:Nat → List Value) (p:Nat → Nat) (N blk cap lo hi:Nat) (w:World) (V:RowsV x0 enc N blk cap lo hi w p) (hlo:hi ≤ lo) (hN:N < 1000000000) (a m b:Nat) (ham:a < m) (hmb:m < b) (hb:b ≤ N) (htag:∀ i j,a ≤ i → i < m → m ≤ j → j < b → p i < p j) (hs1:Sym.Srt (numL x0) p a m) (hs2:Sym.Srt (numL x0) p m b):Calls Tryz.prog 147 #[.slice (some ⟨blk,0,none⟩) N cap,.int .i64 a,.int .i64 m,.int .i64 b,.func (.func 98) #[] #[]] w (fun e w' => e = .returned (.tuple #[]) ∧ ∃ q,RowsV x0 enc N blk cap lo hi w' q ∧ Sym.Re a b p q ∧ Sym.Srt (numL x0) q a b ∧ ChgL [blk] w w'):=symMerge_n x0 enc N blk cap lo hi hlo hN (b - a) p w a m b (Nat.le_refl _) V ham hmb hb htag hs1 hs2
end Go.Proofs.YtfoidpcoiankoaaGreat
namespace Go.Proofs.YtfoidpcoiankoaaGreat
open Go.RowKit F256
structure Good (lt:Nat → Nat → Prop) (q:Nat → Nat) (a b:Nat):Prop where
  srt:Sym.Srt lt q a b
  own:∀ i,a ≤ i → i < b → a ≤ q i ∧ q i < b
theorem Good.congr {lt:Nat → Nat → Prop} {q q':Nat → Nat} {a b:Nat} (h:Good lt q a b) (e:∀ i,a ≤ i → i < b → q' i = q i):Good lt q' a b:=⟨h.srt.congr e,fun i h1 h2 => by rw [e i h1 h2];exact h.own i h1 h2⟩
inductive Blks (lt:Nat → Nat → Prop) (q:Nat → Nat) (s N:Nat):Nat → Prop
  | nil {a:Nat} (h:N ≤ a):Blks lt q s N a
  | cons {a:Nat} (h:a < N) (g:Good lt q a (min (a + s) N)) (r:Blks lt q s N (a + s)):Blks lt q s N a
theorem Blks.congr {lt:Nat → Nat → Prop} {q q':Nat → Nat} {s N a:Nat} (h:Blks lt q s N a) (e:∀ i,a ≤ i → q' i = q i):Blks lt q' s N a:=by
  induction h with
  | nil h => exact .nil h
  | cons h g r ih => exact .cons h (g.congr fun i h1 _ => e i h1) (ih fun i h1 => e i (by omega))
inductive Done (lt:Nat → Nat → Prop) (q:Nat → Nat) (s:Nat):Nat → Prop
  | zero:Done lt q s 0
  | snoc {a:Nat} (r:Done lt q s a) (g:Good lt q a (a + s)):Done lt q s (a + s)
theorem Done.congr {lt:Nat → Nat → Prop} {q q':Nat → Nat} {s a:Nat} (h:Done lt q s a) (e:∀ i,i < a → q' i = q i):Done lt q' s a:=by
  induction h with
  | zero => exact .zero
  | snoc r g ih => exact .snoc (ih fun i h1 => e i (by omega)) (g.congr fun i _ h2 => e i h2)
theorem Done.app {lt:Nat → Nat → Prop} {q:Nat → Nat} {s N a:Nat} (hs:0 < s) (h:Done lt q s a) (hN:a ≤ N) (b:Blks lt q s N a):Blks lt q s N 0:=by
  induction h with
  | zero => exact b
  | snoc r g ih => exact ih (by omega) (.cons (by omega) (by rw [Nat.min_eq_left hN];exact g) b)
theorem Blks.last {lt:Nat → Nat → Prop} {q:Nat → Nat} {s N a:Nat} (g:Good lt q a N) (h:N ≤ a + s):Blks lt q s N a:=by
  by_cases c:a < N
  · exact .cons c (by rw [Nat.min_eq_right h];exact g) (.nil h)
  · exact .nil (by omega)
theorem Blks.all {lt:Nat → Nat → Prop} {q:Nat → Nat} {s N:Nat} (h:Blks lt q s N 0) (hs:N ≤ s):Sym.Srt lt q 0 N:=by
  cases h with
  | nil h => exact fun i j _ _ h3 => by omega
  | cons h g r =>
    have:=g.srt;rw [Nat.min_eq_right (by omega)] at this;exact this
theorem Blks.open {lt:Nat → Nat → Prop} {q:Nat → Nat} {s N a:Nat} (h:Blks lt q s N a) (ha:a < N):Good lt q a (min (a + s) N) ∧ Blks lt q s N (a + s):=by
  cases h with
  | nil h => omega
  | cons h g r => exact ⟨g,r⟩
theorem Good.merged {lt:Nat → Nat → Prop} {q q':Nat → Nat} {a m b:Nat} (g1:Good lt q a m) (g2:Good lt q m b) (am:a ≤ m) (mb:m ≤ b) (k:Sym.Re a b q q') (s:Sym.Srt lt q' a b):Good lt q' a b:=⟨s,fun i h1 h2 => by
  obtain ⟨j,hj,e⟩:=k.from ⟨h1,h2⟩
  rw [e]
  by_cases c:j < m
  · have:=g1.own j hj.1 c
    omega
  · have:=g2.own j (by omega) hj.2
    omega⟩
theorem Good.tags {lt:Nat → Nat → Prop} {q:Nat → Nat} {a m b:Nat} (g1:Good lt q a m) (g2:Good lt q m b):∀ i j,a ≤ i → i < m → m ≤ j → j < b → q i < q j:=fun i j h1 h2 h3 h4 => by
  have:=g1.own i h1 h2;have:=g2.own j h3 h4;omega
theorem Good.fresh {lt:Nat → Nat → Prop} {q q':Nat → Nat} {a b:Nat} (e:∀ i,a ≤ i → q i = i) (k:Sym.Re a b q q') (s:Sym.Srt lt q' a b):Good lt q' a b:=⟨s,fun i h1 h2 => by
  obtain ⟨j,hj,e1⟩:=k.from ⟨h1,h2⟩
  rw [e1,e j hj.1]
  exact hj⟩
end Go.Proofs.YtfoidpcoiankoaaGreat
namespace Go.Proofs.YtfoidpcoiankoaaGreat
open Go.RowKit F256
set_option maxHeartbeats 16000000 in
set_option maxRecDepth 1000000 in
theorem stable_any (x0:Nat → RecD) (enc:Nat → List Value) (N blk cap lo hi:Nat) (w:World) (V:RowsV x0 enc N blk cap lo hi w (fun i => i)) (hlo:hi ≤ lo) (hN:N < 1000000000) :
    Calls Tryz.prog 124 #[.slice (some ⟨blk,0,none⟩) N cap,.int .i64 N,.func (.func 98) #[] #[]] w (fun e w' => e = .returned (.tuple #[]) ∧ ∃ q,RowsV x0 enc N blk cap lo hi w' q ∧ Sym.Re 0 N (fun i => i) q ∧ Sym.Srt (numL x0) q 0 N ∧ ChgL [blk] w w'):=by
  have HV0:Hid (RowsV x0 enc N blk cap lo hi w (fun i => i)):=V;clear V
  go_enter Tryz.func124,Tryz.ntmps124
  go_wp2
  go_loopw [7,8] (fun va vb wr => ∃ (a B:Nat) (q:Nat → Nat),B = a + 20 ∧ a ≤ N ∧ va = .int .i64 a ∧ vb = .int .i64 B ∧ RowsV x0 enc N blk cap lo hi wr q ∧ Done (numL x0) q 20 a ∧ (∀ i,a ≤ i → q i = i) ∧ Sym.Re 0 N (fun i => i) q ∧ ChgL [blk] w wr) (fun va _ _ => N - (intOf va).toNat)
  case atStart => exact ⟨0,20,(fun i => i),rfl,Nat.zero_le _,by go_num,by go_num,HV0.out,.zero,fun i _ => rfl,Sym.Re.refl _ _ _,ChgL.refl _ _⟩
  case round =>
    obtain ⟨a,B,q,hB,haN,rfl,rfl,V,hD,hid,hRe,C⟩:=hrel;have HC:Hid (ChgL [blk] w wr):=C;have HD:Hid (Done (numL x0) q 20 a):=hD;have HI:Hid (∀ i,a ≤ i → q i = i):=hid;have HRe:Hid (Sym.Re 0 N (fun i => i) q):=hRe;have HB:Hid (B = a + 20):=hB;clear C hD hid hRe
    have w1:IntKind.i64.wrap ((B:Int) + 20) = ((B + 20:Nat):Int):=by rw [IntKind.wrap_i64];omega
    by_cases hlt:B ≤ N
    · have t1:(B:Int) ≤ (N:Int):=by omega
      have CS:=insertion_any x0 enc q N blk cap lo hi wr V hlo hN a B (by omega) hlt (fun i j h1 h2 h3 => by rw [HI.out i h1,HI.out j (by omega)];exact h2);clear V hB
      go_wp2_with fail
      refine CS.mono ?_;rintro ee w2 ⟨rfl,q2,V2,hRe2,hS2,C2⟩;have HV2:Hid (RowsV x0 enc N blk cap lo hi w2 q2):=V2;have HRe2:Hid (Sym.Re a B q q2):=hRe2;have HS2:Hid (Sym.Srt (numL x0) q2 a B):=hS2;have HC2:Hid (ChgL [blk] w w2):=HC.out.trans C2;clear V2 hRe2 hS2 C2 CS;go_wp2
      go_roundw
      case rel =>
        have hB:=HB.out;have hk:=HRe2.out;exact ⟨B,B + 20,q2,rfl,hlt,rfl,by go_num,HV2.out,by rw [hB] at hk ⊢;exact .snoc (HD.out.congr fun i h1 => hk.out (.inl h1)) (Good.fresh HI.out hk (by rw [← hB];exact HS2.out)),fun i h1 => by rw [hk.out (.inr h1)];exact HI.out i (by omega),HRe.out.trans (hk.mono (Nat.zero_le _) hlt),HC2.out⟩
      case measure => have hB:=HB.out;simp [intOf];omega
    · have HNL:Hid (¬ B ≤ N):=hlt
      have f1:decide ((B:Int) ≤ (N:Int)) = false:=decide_eq_false (by omega);have g1:decide (B ≤ N) = false:=decide_eq_false hlt;have CS:=insertion_any x0 enc q N blk cap lo hi wr V hlo hN a N haN (Nat.le_refl _) (fun i j h1 h2 h3 => by rw [HI.out i h1,HI.out j (by omega)];exact h2);clear V hB w1 hlt
      go_wp2_with fail
      refine CS.mono ?_;rintro ee w2 ⟨rfl,q2,V2,hRe2,hS2,C2⟩;have HV2:Hid (RowsV x0 enc N blk cap lo hi w2 q2):=V2;have HRe2:Hid (Sym.Re a N q q2):=hRe2;have HS2:Hid (Sym.Srt (numL x0) q2 a N):=hS2;have HC2:Hid (ChgL [blk] w w2):=HC.out.trans C2;clear V2 hRe2 hS2 C2 CS;have HBl:Hid (Blks (numL x0) q2 20 N 0):=Done.app (by decide) (HD.out.congr fun i h1 => HRe2.out.out (.inl h1)) haN (Blks.last (Good.fresh HI.out HRe2.out HS2.out) (by have h1:=HB.out;have h2:=HNL.out;omega));have HReN:Hid (Sym.Re 0 N (fun i => i) q2):=HRe.out.trans (HRe2.out.mono (Nat.zero_le _) (Nat.le_refl _));clear HD HI HRe HRe2 HS2 HC HNL HB f1 g1;go_wp2
      go_loopw [6] (fun vs wr => ∃ (s:Nat) (q:Nat → Nat),20 ≤ s ∧ s < 2000000000 ∧ vs = .int .i64 s ∧ RowsV x0 enc N blk cap lo hi wr q ∧ Blks (numL x0) q s N 0 ∧ Sym.Re 0 N (fun i => i) q ∧ ChgL [blk] w wr) (fun vs _ => N - (intOf vs).toNat)
      case atStart => exact ⟨20,q2,Nat.le_refl _,by decide,by go_num,HV2.out,HBl.out,HReN.out,HC2.out⟩
      case round =>
        obtain ⟨s,q3,hs20,hs2,rfl,V,hBl,hRe,C⟩:=hrel;have HVs:Hid (RowsV x0 enc N blk cap lo hi wr q3):=V;have HCs:Hid (ChgL [blk] w wr):=C;have HBs:Hid (Blks (numL x0) q3 s N 0):=hBl;have HRes:Hid (Sym.Re 0 N (fun i => i) q3):=hRe;clear C hBl hRe V HV2 HBl HReN HC2
        by_cases hlt:s < N
        · have t2:(s:Int) < (N:Int):=by omega
          obtain ⟨T,hT⟩:∃ T,T = 2 * s:=⟨_,rfl⟩;have HT:Hid (T = 2 * s):=hT
          have w2:IntKind.i64.wrap (2 * (s:Int)) = (T:Int):=by rw [IntKind.wrap_i64];omega
          have w3:IntKind.i64.wrap ((s:Int) * 2) = (T:Int):=by rw [IntKind.wrap_i64];omega
          clear hT;go_wp2
          go_loopw [7,8] (fun va vb wr => ∃ (a B:Nat) (q:Nat → Nat),B = a + T ∧ a ≤ N ∧ va = .int .i64 a ∧ vb = .int .i64 B ∧ RowsV x0 enc N blk cap lo hi wr q ∧ Done (numL x0) q T a ∧ Blks (numL x0) q s N a ∧ Sym.Re 0 N (fun i => i) q ∧ ChgL [blk] w wr) (fun va _ _ => N - (intOf va).toNat)
          case atStart => exact ⟨0,T,q3,by omega,Nat.zero_le _,by go_num,by go_num,HVs.out,.zero,HBs.out,HRes.out,HCs.out⟩
          case round =>
            obtain ⟨a,B,q4,hB,haN,rfl,rfl,V,hD,hBl,hRe,C⟩:=hrel;have hT:=HT.out;have HC:Hid (ChgL [blk] w wr):=C;have HD:Hid (Done (numL x0) q4 T a):=hD;have HBl:Hid (Blks (numL x0) q4 s N a):=hBl;have HRe:Hid (Sym.Re 0 N (fun i => i) q4):=hRe;have HB:Hid (B = a + T):=hB;have HV4:Hid (RowsV x0 enc N blk cap lo hi wr q4):=V;clear C hD hBl hRe HVs HBs HRes HCs V;obtain ⟨M,hM⟩:∃ M,M = a + s:=⟨_,rfl⟩;have HM:Hid (M = a + s):=hM
            have w4:IntKind.i64.wrap ((a:Int) + (s:Int)) = (M:Int):=by rw [IntKind.wrap_i64];omega
            have w5:IntKind.i64.wrap ((B:Int) + (T:Int)) = ((B + T:Nat):Int):=by rw [IntKind.wrap_i64];omega
            by_cases hle:B ≤ N
            · have t3:(B:Int) ≤ (N:Int):=by omega
              have o1:=HBl.out.open (by omega);rw [← hM] at o1;have o2:=o1.2.open (by omega);rw [Nat.min_eq_left (by omega)] at o1;rw [show M + s = B by omega,Nat.min_eq_left hle] at o2;have HG1:Hid (Good (numL x0) q4 a M):=o1.1;have HG2:Hid (Good (numL x0) q4 M B):=o2.1;have HBr:Hid (Blks (numL x0) q4 s N B):=o2.2;have CS:=symMerge_any x0 enc q4 N blk cap lo hi wr HV4.out hlo hN a M B (by omega) (by omega) hle (HG1.out.tags HG2.out) HG1.out.srt HG2.out.srt;clear o1 o2 hB hM hT
              go_wp2_with fail
              refine CS.mono ?_;rintro ee w9 ⟨rfl,q5,V2,hRe2,hS2,C2⟩;have HV2:Hid (RowsV x0 enc N blk cap lo hi w9 q5):=V2;have HRe2:Hid (Sym.Re a B q4 q5):=hRe2;have HS2:Hid (Sym.Srt (numL x0) q5 a B):=hS2;have HC2:Hid (ChgL [blk] w w9):=HC.out.trans C2;clear V2 hRe2 hS2 C2 CS;go_wp2
              go_roundw
              case rel =>
                have hB:=HB.out;have hM:=HM.out;have hT:=HT.out;have hk:=HRe2.out
                exact ⟨B,B + T,q5,rfl,hle,rfl,by go_num,HV2.out,by
                  have g:=HG1.out.merged HG2.out (by omega) (by omega) hk HS2.out;rw [hB] at hk g ⊢
                  exact .snoc (HD.out.congr fun i h1 => hk.out (.inl h1)) g,HBr.out.congr (fun i h1 => hk.out (.inr h1)),HRe.out.trans (hk.mono (Nat.zero_le _) hle),HC2.out⟩
              case measure => have hB:=HB.out;have hT:=HT.out;simp [intOf];omega
            · have HNL:Hid (¬ B ≤ N):=hle
              have f1:decide ((B:Int) ≤ (N:Int)) = false:=decide_eq_false (by omega);have g1:decide (B ≤ N) = false:=decide_eq_false hle
              by_cases hm:M < N
              · have t3:(M:Int) < (N:Int):=by omega
                have o1:=HBl.out.open (by omega);rw [← hM] at o1;have o2:=o1.2.open (by omega);rw [Nat.min_eq_left (by omega)] at o1;rw [Nat.min_eq_right (by omega)] at o2;have HG1:Hid (Good (numL x0) q4 a M):=o1.1;have HG2:Hid (Good (numL x0) q4 M N):=o2.1;have CS:=symMerge_any x0 enc q4 N blk cap lo hi wr HV4.out hlo hN a M N (by omega) hm (Nat.le_refl _) (HG1.out.tags HG2.out) HG1.out.srt HG2.out.srt;clear o1 o2 hB hM hT hle
                go_wp2_with fail
                refine CS.mono ?_;rintro ee w9 ⟨rfl,q5,V2,hRe2,hS2,C2⟩;have HV2:Hid (RowsV x0 enc N blk cap lo hi w9 q5):=V2;have HRe2:Hid (Sym.Re a N q4 q5):=hRe2;have HS2:Hid (Sym.Srt (numL x0) q5 a N):=hS2;have HC2:Hid (ChgL [blk] w w9):=HC.out.trans C2;clear V2 hRe2 hS2 C2 CS;go_wp2
                go_roundw
                case rel =>
                  have hB:=HB.out;have hM:=HM.out;have hT:=HT.out;have hNL:=HNL.out;have hk:=HRe2.out;exact ⟨T,q5,by omega,by omega,by go_num,HV2.out,Done.app (by omega) (HD.out.congr fun i h1 => hk.out (.inl h1)) haN (Blks.last (HG1.out.merged HG2.out (by omega) (by omega) hk HS2.out) (by omega)),HRe.out.trans (hk.mono (Nat.zero_le _) (Nat.le_refl _)),HC2.out⟩
                case measure => have hT:=HT.out;simp [intOf];omega
              · have f2:decide ((M:Int) < (N:Int)) = false:=decide_eq_false (by omega)
                have g2:decide (M < N) = false:=decide_eq_false hm
                have HBT:Hid (Blks (numL x0) q4 T N a):=(by
                  by_cases c:a < N
                  · have o1:=(HBl.out.open c).1
                    rw [Nat.min_eq_right (by omega)] at o1;exact Blks.last o1 (by omega)
                  · exact .nil (by omega):Blks (numL x0) q4 T N a)
                clear hB hM hT hle hm;go_wp2
                go_roundw
                case rel => have hT:=HT.out;exact ⟨T,q4,by omega,by omega,by go_num,HV4.out,Done.app (by omega) HD.out haN HBT.out,HRe.out,HC.out⟩
                case measure => have hT:=HT.out;simp [intOf];omega
        · have f2:decide ((s:Int) < (N:Int)) = false:=decide_eq_false (by omega)
          have g2:decide (s < N) = false:=decide_eq_false hlt;have HNL:Hid (N ≤ s):=(by omega:N ≤ s);clear hlt;go_wp2
          go_end0
          exact ⟨rfl,q3,HVs.out,HRes.out,HBs.out.all HNL.out,HCs.out⟩
end Go.Proofs.YtfoidpcoiankoaaGreat
namespace Go.Proofs.YtfoidpcoiankoaaGreat
open Go.RowKit F256
set_option maxHeartbeats 8000000 in
set_option maxRecDepth 1000000 in
theorem sortStable_any (x0:Nat → RecD) (enc:Nat → List Value) (N blk cap lo hi:Nat) (w:World) (V:RowsV x0 enc N blk cap lo hi w (fun i => i)) (hlo:hi ≤ lo) (hN:N < 1000000000) :
    Calls Tryz.prog 97 #[.slice (some ⟨blk,0,none⟩) N cap,.func (.func 98) #[] #[]] w (fun e w' => e = .returned (.tuple #[]) ∧ ∃ q,RowsV x0 enc N blk cap lo hi w' q ∧ Sym.Re 0 N (fun i => i) q ∧ Sym.Srt (numL x0) q 0 N ∧ ChgL [blk] w w'):=by
  have CS:=stable_any x0 enc N blk cap lo hi w V hlo hN;clear V
  go_enter Tryz.func97,Tryz.ntmps97
  go_wp2_with fail
  refine CS.mono ?_;rintro ee w2 ⟨rfl,q,V2,hRe,hS,C⟩;have HV2:Hid (RowsV x0 enc N blk cap lo hi w2 q):=V2;have HRe:Hid (Sym.Re 0 N (fun i => i) q):=hRe;have HS:Hid (Sym.Srt (numL x0) q 0 N):=hS;have HC:Hid (ChgL [blk] w w2):=C;clear V2 hRe hS C CS;go_wp2
  go_end0
  exact ⟨rfl,q,HV2.out,HRe.out,HS.out,HC.out⟩
set_option maxHeartbeats 8000000 in
set_option maxRecDepth 1000000 in
theorem insertion_nil (w:World):Calls Tryz.prog 146 #[.slice none 0 0,.int .i64 0,.int .i64 0,.func (.func 98) #[] #[]] w (fun e w' => e = .returned (.tuple #[]) ∧ Below w.heap.size w w'):=by
  go_enter Tryz.func146,Tryz.ntmps146
  go_wp2
  go_loopw [8] (fun vi wr => vi = .int .i64 1 ∧ Below w.heap.size w wr) (fun _ _ => 0)
  case atStart => exact ⟨by go_num,⟨rfl,rfl,rfl,Nat.le_refl _,fun _ _ => rfl⟩⟩
  case round =>
    obtain ⟨rfl,hb⟩:=hrel;go_wp2
    go_end0
    exact ⟨rfl,hb⟩
set_option maxHeartbeats 8000000 in
set_option maxRecDepth 1000000 in
theorem stable_nil (w:World):Calls Tryz.prog 124 #[.slice none 0 0,.int .i64 0,.func (.func 98) #[] #[]] w (fun e w' => e = .returned (.tuple #[]) ∧ Below w.heap.size w w'):=by
  have CS:=insertion_nil w
  go_enter Tryz.func124,Tryz.ntmps124
  go_wp2
  go_loopw [7,8] (fun va vb wr => va = .int .i64 0 ∧ vb = .int .i64 20 ∧ wr = w) (fun _ _ _ => 0)
  case atStart => exact ⟨by go_num,by go_num,rfl⟩
  case round =>
    obtain ⟨rfl,rfl,rfl⟩:=hrel
    go_wp2_with fail
    refine CS.mono ?_;rintro ee w2 ⟨rfl,hb⟩;have HB:Hid (Below wr.heap.size wr w2):=hb;clear hb CS;go_wp2
    go_loopw [6] (fun vs w' => vs = .int .i64 20 ∧ Below wr.heap.size wr w') (fun _ _ => 0)
    case atStart => exact ⟨by go_num,HB.out⟩
    case round =>
      obtain ⟨rfl,hb⟩:=hrel;go_wp2
      go_end0
      exact ⟨rfl,hb⟩
set_option maxHeartbeats 8000000 in
set_option maxRecDepth 1000000 in
theorem sortStable_nil (w:World):Calls Tryz.prog 97 #[.slice none 0 0,.func (.func 98) #[] #[]] w (fun e w' => e = .returned (.tuple #[]) ∧ Below w.heap.size w w'):=by
  have CS:=stable_nil w
  go_enter Tryz.func97,Tryz.ntmps97
  go_wp2_with fail
  refine CS.mono ?_;rintro ee w2 ⟨rfl,hb⟩;go_wp2
  go_end0
  exact ⟨rfl,hb⟩
end Go.Proofs.YtfoidpcoiankoaaGreat
namespace Go.Proofs.YtfoidpcoiankoaaGreat
open Go.RowKit F256
theorem size_Rec:(Tryz.prog.info? 66).map (·.size) = some 9:=by kernel_rfl
set_option maxHeartbeats 8000000 in
set_option maxRecDepth 100000 in
theorem hasOne_any (a r:RecD) (ca cr:List Value) (hi p:Nat) (w:World) (ha:layRec.rd w hi a ca) (hr:layRec.rd w hi r cr) (hB:Box w p cr.toArray 66) (hhi:hi ≤ w.heap.size) :
    Calls Tryz.prog 128 #[.agg ca.toArray,.pointer (some ⟨p,0,none⟩)] w (BoolP (SameR a r) w):=by
  have hpl:=hB.lt;have B0:=one_new w ca.toArray 66;have HB0:Hid (Below w.heap.size w (w.alloc (.cells ca.toArray 66))):=B0.bel;have X1:Box (w.alloc (.cells ca.toArray 66)) w.heap.size ca.toArray 66:=B0.b1;have X2:Box (w.alloc (.cells ca.toArray 66)) p cr.toArray 66:=hB.below B0.bel hpl;have CS:=implSame_any a r ca cr hi hi (w.alloc (.cells ca.toArray 66)) (layRec.rd_below ha B0.bel hhi) (layRec.rd_below hr B0.bel hhi) (Nat.le_trans hhi B0.bel.size) (Nat.le_trans hhi B0.bel.size);obtain ⟨a6,ak6,a7,ak7,a8,ak8,rfl,-⟩:=Rec_rd ha;obtain ⟨b6,bk6,b7,bk7,b8,bk8,rfl,-⟩:=Rec_rd hr;clear B0 hB
  go_enter Tryz.func128,Tryz.ntmps128
  go_wp2_with (first | (refine wp_loadBox 66 (.tmp 2) rfl rfl (w.heap.size) rfl (cs:=[.int .i64 a.kind,.int .i64 a.seq,.string a.name,.int .i64 a.length,.int .i64 a.group,.int .i64 a.row,.slice a6 a.rows.1 ak6,.slice a7 a.data.1 ak7,.slice a8 a.delta.1 ak8]) X1 Tryz.underlying66 size_Rec rfl ?_) | (refine wp_loadBox 66 (.tmp 1) rfl rfl p rfl (cs:=[.int .i64 r.kind,.int .i64 r.seq,.string r.name,.int .i64 r.length,.int .i64 r.group,.int .i64 r.row,.slice b6 r.rows.1 bk6,.slice b7 r.data.1 bk7,.slice b8 r.delta.1 bk8]) X2 Tryz.underlying66 size_Rec rfl ?_))
  refine CS.mono ?_;rintro e w1 ⟨t,rfl,ht,b1⟩;have HB1:Hid (Below w.heap.size w w1):=HB0.out.trans (b1.mono HB0.out.size);have HT:Hid (t = true ↔ SameR a r):=ht;clear CS b1 ht X1 X2;go_wp2;go_ret;exact ⟨t,rfl,HT.out,HB1.out⟩
set_option maxHeartbeats 8000000 in
set_option maxRecDepth 100000 in
theorem indexSame_any (v:Value) (m:Nat) (y:Nat → RecD) (r:RecD) (cr:List Value) (hi p:Nat) (w:World) (h:(layRec.slice 66).rd w hi (m,y) [v]) (hr:layRec.rd w hi r cr) (hB:Box w p cr.toArray 66) (hhi:hi ≤ w.heap.size) (hm:m ≤ 1048576) :
    Calls Tryz.prog 149 #[v,.func (.func 128) #[] #[.pointer (some ⟨p,0,none⟩)]] w fun e w' => ((e = .returned (.int .i64 (-1)) ∧ ∀ i,i < m → ¬ SameR (y i) r) ∨ ∃ i:Nat,i < m ∧ e = .returned (.int .i64 (i:Int)) ∧ SameR (y i) r) ∧ Below w.heap.size w w':=by
  obtain ⟨ao,cap,e,hmm,hc⟩:=h
  obtain rfl:v = .slice ao m cap:=by simpa using e
  have hpl:=hB.lt;have HBx:Hid (Box w p cr.toArray 66):=hB;have HR:Hid (layRec.rd w hi r cr):=hr;have HCC:=hc;have HC:Hid (m ≠ 0 → ∃ b off,ao = some ⟨b,off,none⟩ ∧ b < hi ∧ ∀ i,i < m → ∃ ce,layRec.rd w hi (y i) ce ∧ ∀ j,j < layRec.sz → w.cell? ⟨b,off + (i * layRec.sz + j),none⟩ = ce[j]?):=hc;clear hB hr e hmm hc HCC
  go_enter Tryz.func149,Tryz.ntmps149
  go_wp2
  go_loopw [8] (fun z wr => ∃ k:Nat,k ≤ m ∧ z = .int .i64 k ∧ (∀ t,t < k → ¬ SameR (y t) r) ∧ Below w.heap.size w wr) (fun z _ => m - (intOf z).toNat)
  case atStart => exact ⟨0,Nat.zero_le _,rfl,fun t ht => by omega,Below.refl _ _⟩
  case round =>
    obtain ⟨k,hk,rfl,hall,hbl⟩:=hrel;obtain ⟨wx,rfl⟩:∃ y,y = wr:=⟨_,rfl⟩;have HALL:Hid (∀ t,t < k → ¬ SameR (y t) r):=hall;have HBL:Hid (Below w.heap.size w wx):=hbl;have zx:=hbl.size;clear hall
    by_cases hlt:k < m
    · obtain ⟨b,off,rfl,hbh,hel⟩:=HC.out (by omega)
      obtain ⟨ce,hy,hcell⟩:=elem_rd (t:=66) hel hbl hhi hbh hlt;have CS:=hasOne_any (y k) r ce cr hi p wx hy (layRec.rd_below HR.out hbl hhi) (HBx.out.below hbl hpl) (by omega);obtain ⟨c6,ck6,c7,ck7,c8,ck8,rfl,-⟩:=Rec_rd hy;have hcell:∀ j,j < 9 → wx.cell? ⟨b,off + (k * 9 + j),none⟩ = [.int .i64 (y k).kind,.int .i64 (y k).seq,.string (y k).name,.int .i64 (y k).length,.int .i64 (y k).group,.int .i64 (y k).row,.slice c6 (y k).rows.1 ck6,.slice c7 (y k).data.1 ck7,.slice c8 (y k).delta.1 ck8][j]?:=hcell
      have s_0:wx.cell? ⟨b,off + k * 9,none⟩ = some (.int .i64 (y k).kind):=by have:=hcell 0 (by decide);rw [← Nat.add_assoc] at this;exact this
      have s_1:wx.cell? ⟨b,off + k * 9 + 1,none⟩ = some (.int .i64 (y k).seq):=by have:=hcell 1 (by decide);rw [← Nat.add_assoc] at this;exact this
      have s_2:wx.cell? ⟨b,off + k * 9 + 2,none⟩ = some (.string (y k).name):=by have:=hcell 2 (by decide);rw [← Nat.add_assoc] at this;exact this
      have s_3:wx.cell? ⟨b,off + k * 9 + 3,none⟩ = some (.int .i64 (y k).length):=by have:=hcell 3 (by decide);rw [← Nat.add_assoc] at this;exact this
      have s_4:wx.cell? ⟨b,off + k * 9 + 4,none⟩ = some (.int .i64 (y k).group):=by have:=hcell 4 (by decide);rw [← Nat.add_assoc] at this;exact this
      have s_5:wx.cell? ⟨b,off + k * 9 + 5,none⟩ = some (.int .i64 (y k).row):=by have:=hcell 5 (by decide);rw [← Nat.add_assoc] at this;exact this
      have s_6:wx.cell? ⟨b,off + k * 9 + 6,none⟩ = some (.slice c6 (y k).rows.1 ck6):=by have:=hcell 6 (by decide);rw [← Nat.add_assoc] at this;exact this
      have s_7:wx.cell? ⟨b,off + k * 9 + 7,none⟩ = some (.slice c7 (y k).data.1 ck7):=by have:=hcell 7 (by decide);rw [← Nat.add_assoc] at this;exact this
      have s_8:wx.cell? ⟨b,off + k * 9 + 8,none⟩ = some (.slice c8 (y k).delta.1 ck8):=by have:=hcell 8 (by decide);rw [← Nat.add_assoc] at this;exact this
      have i1:(0:Int) ≤ (k:Int):=by omega
      have i2:(k:Int) < (m:Int):=by omega
      clear hbl hcell hel
      go_wp2_with fail
      refine CS.mono ?_;rintro e w5 ⟨t,rfl,ht,b5⟩;have B5:Hid (Below w.heap.size w w5):=HBL.out.trans (b5.mono zx);have HT:Hid (t = true ↔ SameR (y k) r):=ht;clear b5 CS ht hy
      cases t with
      | true =>
        go_wp2;go_ret;exact ⟨.inr ⟨k,hlt,rfl,HT.out.1 (by simp)⟩,B5.out⟩
      | false =>
        go_wp2
        go_roundw
        case rel => exact ⟨k + 1,by omega,by go_num,fun t ht => by
                      by_cases c:t = k
                      · rw [c];intro hs;exact absurd (HT.out.2 hs) (by simp)
                      · exact HALL.out t (by omega),B5.out⟩
        case measure => simp [intOf];omega
    · obtain rfl:k = m:=by omega
      clear hbl;go_wp2;go_ret;exact ⟨.inl ⟨rfl,HALL.out⟩,HBL.out⟩
set_option maxHeartbeats 8000000 in
set_option maxRecDepth 100000 in
theorem containsSame_any (v:Value) (m:Nat) (y:Nat → RecD) (r:RecD) (cr:List Value) (hi p:Nat) (w:World) (h:(layRec.slice 66).rd w hi (m,y) [v]) (hr:layRec.rd w hi r cr) (hB:Box w p cr.toArray 66) (hhi:hi ≤ w.heap.size) (hm:m ≤ 1048576) :
    Calls Tryz.prog 127 #[v,.func (.func 128) #[] #[.pointer (some ⟨p,0,none⟩)]] w (BoolP (∃ i,i < m ∧ SameR (y i) r) w):=by
  have CS:=indexSame_any v m y r cr hi p w h hr hB hhi hm;clear h hr hB
  go_enter Tryz.func127,Tryz.ntmps127
  go_wp2_with fail
  refine CS.mono ?_;rintro e w1 ⟨⟨rfl,hn⟩ | ⟨i,hi',rfl,hs⟩,b1⟩
  · have HN:Hid (∀ i,i < m → ¬ SameR (y i) r):=hn
    have HB:Hid (Below w.heap.size w w1):=b1;clear hn b1 CS;go_wp2;go_ret;exact boolNo rfl (fun ⟨i,h1,h2⟩ => HN.out i h1 h2) HB.out
  · have HS:Hid (SameR (y i) r):=hs
    have HB:Hid (Below w.heap.size w w1):=b1
    have hd:decide ((0:Int) ≤ (i:Int)) = true:=by simp
    clear hs b1 CS;go_wp2;go_ret;exact boolYes (by simp) ⟨i,hi',HS.out⟩ HB.out
set_option maxHeartbeats 8000000 in
set_option maxRecDepth 100000 in
theorem hasRec_any (v:Value) (m:Nat) (y:Nat → RecD) (r:RecD) (cr:List Value) (hi:Nat) (w:World) (h:(layRec.slice 66).rd w hi (m,y) [v]) (hr:layRec.rd w hi r cr) (hhi:hi ≤ w.heap.size) (hm:m ≤ 1048576) :
    Calls Tryz.prog 99 #[v,.agg cr.toArray] w (BoolP (∃ i,i < m ∧ SameR (y i) r) w):=by
  have B0:=one_new w cr.toArray 66;have HB0:Hid (Below w.heap.size w (w.alloc (.cells cr.toArray 66))):=B0.bel;have CS:=containsSame_any v m y r cr hi w.heap.size (w.alloc (.cells cr.toArray 66)) (Lay.rd_below _ h B0.bel hhi) (layRec.rd_below hr B0.bel hhi) B0.b1 (Nat.le_trans hhi B0.bel.size) hm;obtain ⟨b6,bk6,b7,bk7,b8,bk8,rfl,-⟩:=Rec_rd hr;clear B0 h
  go_enter Tryz.func99,Tryz.ntmps99
  go_wp2_with fail
  refine CS.mono ?_;rintro e w1 ⟨t,rfl,ht,b1⟩;have HB1:Hid (Below w.heap.size w w1):=HB0.out.trans (b1.mono HB0.out.size);have HT:Hid (t = true ↔ ∃ i,i < m ∧ SameR (y i) r):=ht;clear CS b1 ht;go_wp2;go_ret;exact ⟨t,rfl,HT.out,HB1.out⟩
end Go.Proofs.YtfoidpcoiankoaaGreat
namespace Go.Proofs.YtfoidpcoiankoaaGreat
open Go.RowKit F256
theorem el_Rec:ElInfo layRec 54 66 128 [.int .i64 0,.int .i64 0,.string ByteArray.empty,.int .i64 0,.int .i64 0,.int .i64 0,.slice none 0 0,.slice none 0 0,.slice none 0 0]:=⟨by decide,rfl,Tryz.underlying54,by kernel_rfl,by decide⟩
end Go.Proofs.YtfoidpcoiankoaaGreat
namespace Go.Proofs.YtfoidpcoiankoaaGreat
open Go.RowKit F256
def lenT (tp:Nat → TapeD):Nat → Nat
  | 0 => 0
  | k + 1 => lenT tp k + (tp k).recs.1
def recT (tp:Nat → TapeD):Nat → Nat → RecD
  | 0 => (tp 0).recs.2
  | k + 1 => cat2 (recT tp k) (lenT tp k) (tp k).recs.2
theorem sortV_any (x0:Nat → RecD) (enc:Nat → List Value) (v:Value) (N lo hi:Nat) (w:World) (V:View layRec 66 w lo hi v N x0 enc) (hlo:hi ≤ lo) (hN:N < 1000000000) (hlw:lo ≤ w.heap.size) :
    Calls Tryz.prog 97 #[v,.func (.func 98) #[] #[]] w (fun e w' => e = .returned (.tuple #[]) ∧ ∃ q,View layRec 66 w' lo hi v N (fun i => x0 (q i)) (fun i => enc (q i)) ∧ Sym.Re 0 N (fun i => i) q ∧ Sym.Srt (numL x0) q 0 N ∧ Below lo w w'):=by
  rcases V.form2 with ⟨rfl,rfl⟩ | ⟨g,cap,rfl,hnc,hg⟩
  · refine (sortStable_nil w).mono fun e w' ⟨h1,h2⟩ => ⟨h1,fun i => i,V.below h2 (by omega),Sym.Re.refl _ _ _,fun i j _ _ h => by omega,h2.mono hlw⟩
  · have hlo':=V.row.lt g rfl
    refine (sortStable_any x0 enc N g cap lo hi w V hlo hN).mono fun e w' ⟨h1,q,h2,h3,h4,h5⟩ => ⟨h1,q,h2,h3,h4,h5.bel (fun b hb => by simp at hb;omega) hlw⟩
theorem info_RecZ:(Tryz.prog.info? 66).map (fun i => (i.zero.map (·.cells),i.size)) = some (some #[.int .i64 0,.int .i64 0,.string ByteArray.empty,.int .i64 0,.int .i64 0,.int .i64 0,.slice none 0 0,.slice none 0 0,.slice none 0 0],9):=by kernel_rfl
set_option maxHeartbeats 8000000 in
set_option maxRecDepth 100000 in
theorem countOnce_any (tp:Nat → TapeD) (v:Value) (hi:Nat) (w:World) (h:(layTape.slice 87).rd w hi (2,tp) [v]) (hhi:hi ≤ w.heap.size) (hn0:(tp 0).recs.1 ≤ 400000) (hn1:(tp 1).recs.1 ≤ 400000) :
    Calls Tryz.prog 62 #[v] w (fun e w' => ∃ v' l ce lo,e = .returned v' ∧ Cnt (recT tp 2) (lenT tp 2) l ∧ w.heap.size ≤ lo ∧ View layRec 66 w' lo hi v' l.length (fun i => recT tp 2 (l.getD i 0)) ce ∧ Below w.heap.size w w'):=by
  obtain ⟨ao,cap,e,hmm,hc⟩:=h
  obtain rfl:v = .slice ao 2 cap:=by simpa using e
  obtain ⟨b,off,rfl,hbh,hel⟩:=hc (by simp);have hel:∀ i,i < 2 → ∃ ce,layTape.rd w hi (tp i) ce ∧ ∀ j,j < layTape.sz → w.cell? ⟨b,off + (i * layTape.sz + j),none⟩ = ce[j]?:=hel;have HEL:Hid (∀ i,i < 2 → ∃ ce,layTape.rd w hi (tp i) ce ∧ ∀ j,j < layTape.sz → w.cell? ⟨b,off + (i * layTape.sz + j),none⟩ = ce[j]?):=hel;clear e hmm hc hel
  go_enter Tryz.func62,Tryz.ntmps62
  go_wp2
  go_loopw [3,12] (fun va i wr => ∃ (k:Nat) (ce:Nat → List Value),k ≤ 2 ∧ i = .int .i64 k ∧ View layRec 66 wr w.heap.size hi va (lenT tp k) (recT tp k) ce ∧ Below w.heap.size w wr) (fun _ i _ => 2 - (intOf i).toNat)
  case atStart => exact ⟨0,fun _ => [],by omega,rfl,View.nil _ _ _ _ _,Below.refl _ _⟩
  case round =>
    obtain ⟨k,ce,hk,rfl,V,bw⟩:=hrel;have zr:=bw.size;have HV:Hid (View layRec 66 wr w.heap.size hi u3 (lenT tp k) (recT tp k) ce):=V;have HBW:Hid (Below w.heap.size w wr):=bw
    by_cases hlt:k < 2
    · obtain ⟨ct,hy,hcell⟩:=elem_rd (t:=87) HEL.out bw hhi hbh hlt
      obtain ⟨ao1,cap1,rfl,hrs⟩:=Tape_rd hy;have c0:wr.cell? ⟨b,off + k * 2,none⟩ = some (.bool (tp k).wiped):=hcell 0 (by decide)
      have c1:wr.cell? ⟨b,off + k * 2 + 1,none⟩ = some (.slice ao1 (tp k).recs.1 cap1):=by have:=hcell 1 (by decide);exact this
      have bA:Below wr.heap.size wr (wr.alloc (.cells #[.bool (tp k).wiped,.slice ao1 (tp k).recs.1 cap1] 87)):=(Below.refl _ _).alloc (Nat.le_refl _) _
      have hL:lenT tp k + (tp k).recs.1 ≤ 10000000:=by
        have:k = 0 ∨ k = 1:=by omega
        rcases this with rfl | rfl <;> simp only [lenT] <;> omega
      have hrs':(layRec.slice 66).rd (wr.alloc (.cells #[.bool (tp k).wiped,.slice ao1 (tp k).recs.1 cap1] 87)) hi ((tp k).recs.1,(tp k).recs.2) [.slice ao1 (tp k).recs.1 cap1]:=Lay.rd_below _ hrs bA (by omega);obtain ⟨cy,hS,hz⟩:=src_of hrs';obtain ⟨v3,w3,hrun,V3,_,b3⟩:=run_appendV el_Rec rdOne_rec 54 (HV.out.below bA (by omega)) cap1 hS (by simp;omega) (by omega) hL hz;have HV3:Hid (View layRec 66 w3 w.heap.size hi v3 (lenT tp (k + 1)) (recT tp (k + 1)) _):=V3;have HB3:Hid (Below w.heap.size w w3):=(HBW.out.trans (bA.mono zr)).trans b3
      have i1:(0:Int) ≤ (k:Int):=by omega
      have i2:(k:Int) < (2:Int):=by omega
      obtain ⟨ao9,cap9,rfl⟩:=V.form;obtain ⟨nT,hnT⟩:∃ n,n = (tp k).recs.1:=⟨_,rfl⟩;obtain ⟨nL,hnL⟩:∃ n,n = lenT tp k:=⟨_,rfl⟩;rw [← hnT] at c1 hrun;rw [← hnL] at hrun;have HnL:Hid (nL = lenT tp k):=hnL;rw [← hnL];clear V3 b3 bA hrs' hrs hcell hy hS V bw hL hz hnT hnL
      go_wp2_with (at_builtin;refine wp_run2 rfl (.tmp 16) (.tmp 18) rfl ?_ ?_ hrun ?_;(simp [Act.eval]);(simp [Act.eval]))
      clear hrun;go_wp2
      go_roundw
      case rel => exact ⟨k + 1,_,by omega,by go_num,HV3.out,HB3.out⟩
      case measure => simp [intOf];omega
    · obtain rfl:k = 2:=by omega
      have hN:lenT tp 2 < 1000000000:=by simp only [lenT];omega
      obtain ⟨N,hNe⟩:∃ N,N = lenT tp 2:=⟨_,rfl⟩;obtain ⟨x0,hx0⟩:∃ x,x = recT tp 2:=⟨_,rfl⟩;obtain ⟨enc,henc⟩:∃ x,x = ce:=⟨_,rfl⟩
      have hN':N ≤ 800000:=by rw [hNe];simp only [lenT];omega
      rw [← hNe,← hx0,← henc] at V;rw [← hNe] at hN;have CS:=sortV_any x0 enc u3 N w.heap.size hi wr V hhi hN zr;have HNE:Hid (N = lenT tp 2 ∧ x0 = recT tp 2):=⟨hNe,hx0⟩;have HV0:Hid (View layRec 66 wr w.heap.size hi u3 N x0 enc):=V;obtain ⟨aA,capA,hA⟩:=V.form;subst hA;clear V hlt hNe hx0 henc HV bw
      go_wp2_with fail
      refine CS.mono ?_;rintro ee w2 ⟨rfl,q,V2,hRe,hSrt,b2⟩;have HV2:Hid (View layRec 66 w2 w.heap.size hi (.slice aA N capA) N (fun i => x0 (q i)) (fun i => enc (q i))):=V2;have HRe:Hid (Sym.Re 0 N (fun i => i) q):=hRe;have HSrt:Hid (Sym.Srt (numL x0) q 0 N):=hSrt;have HB2:Hid (Below w.heap.size w w2):=HBW.out.trans b2;have z2:w.heap.size ≤ w2.heap.size:=HB2.out.size;clear V2 hRe hSrt b2 CS HBW HV0;go_wp2
      go_loopw [4,7,25] (fun vo va vi wr => ∃ (k al:Nat) (l:List Nat) (co:Nat → List Value),k ≤ N ∧ vi = .int .i64 k ∧ va = .int .i64 al ∧ CntQ x0 q k l ∧ Alk x0 l al ∧ l.length ≤ k ∧ View layRec 66 wr w2.heap.size hi vo l.length (fun i => x0 (l.getD i 0)) co ∧ Below w2.heap.size w2 wr) (fun _ _ i _ => N - (intOf i).toNat)
      case atStart => exact ⟨0,0,[],fun _ => [],Nat.zero_le _,rfl,rfl,CntQ.nil x0 q,Alk.start x0,Nat.le_refl _,View.nil _ _ _ _ _,Below.refl _ _⟩
      case round =>
        obtain ⟨k,al,l,co,hk,rfl,rfl,hCQ,hAl,hLk,V,bw⟩:=hrel;obtain ⟨n,hn⟩:∃ n,n = l.length:=⟨_,rfl⟩;have HN:Hid (n = l.length):=hn;have HCQ:Hid (CntQ x0 q k l):=hCQ;have HAl:Hid (Alk x0 l al):=hAl;have HLk:Hid (l.length ≤ k):=hLk;rw [← hn] at V hLk;obtain ⟨ao,cap,hvo⟩:=V.form;subst hvo;have HVO:Hid (View layRec 66 wr w2.heap.size hi (.slice ao n cap) n (fun i => x0 (l.getD i 0)) co):=V;have HBR:Hid (Below w2.heap.size w2 wr):=bw;have zr2:w2.heap.size ≤ wr.heap.size:=bw.size
        by_cases hlt:k < N
        · have VAr:=HV2.out.below bw (by omega)
          obtain ⟨gA,cA',hgA⟩:=VAr.form0 (by omega)
          have rgA:wr.rangeAt gA (k * 9) (enc (q k)):=by rw [hgA] at VAr;exact VAr.range hlt
          obtain ⟨rfl,rfl⟩:aA = some ⟨gA,0,none⟩ ∧ capA = cA':=by simpa using hgA
          have rdR:=VAr.each k hlt;have hcR:(enc (q k)).length = 9:=VAr.lens k hlt;obtain ⟨cR,hcRe⟩:∃ c,c = enc (q k):=⟨_,rfl⟩
          have rdR':layRec.rd wr hi (x0 (q k)) cR:=by rw [hcRe];exact rdR
          rw [← hcRe] at rgA hcR;have oneR:∀ v,v ∈ cR → v.oneCell' = true:=rdOne_rec _ _ _ _ rdR'
          have i1:(0:Int) ≤ (k:Int):=by omega
          have i2:(k:Int) < (N:Int):=by omega
          have bA:Below wr.heap.size wr (wr.alloc (.cells cR.toArray 66)):=(Below.refl _ _).alloc (Nat.le_refl _) _;have XA:Box (wr.alloc (.cells cR.toArray 66)) wr.heap.size cR.toArray 66:=box_new _ _ _;have rdW:layRec.rd (wr.alloc (.cells cR.toArray 66)) hi (x0 (q k)) cR:=layRec.rd_below rdR' bA (by omega);clear VAr rdR hcRe hgA rdR' V bw hn hCQ hAl
          go_upto_region 12 with (first | (refine wpList_load_mid rfl 66 (.tmp 27) rfl gA (k * 9) (by simp [Act.eval]) cR _ rgA Tryz.underlying66 rfl (info_Rec9 hcR) ?_) | (refine wp_allocStore 66 9 (.tmp 28) cR _ 9 rfl rfl rfl rfl rfl rfl rfl rfl info_RecZ rfl hcR oneR ?_))
          obtain ⟨W,hW⟩:∃ x,x = wr.alloc (.cells cR.toArray 66):=⟨_,rfl⟩;rw [← hW] at bA XA rdW ⊢;clear hW rgA;have HVOW:Hid (View layRec 66 W w2.heap.size hi (.slice ao n cap) n (fun i => x0 (l.getD i 0)) co):=HVO.out.below bA (by omega);have HXW:Hid (Box W wr.heap.size cR.toArray 66):=XA;have HRW:Hid (layRec.rd W hi (x0 (q k)) cR):=rdW;have HBW:Hid (Below w2.heap.size w2 W):=HBR.out.trans (bA.mono zr2);have zW:w2.heap.size ≤ W.heap.size:=HBW.out.size;have zW':wr.heap.size < W.heap.size:=XA.lt;have bD:Below W.heap.size W W.drew:=⟨rfl,rfl,rfl,Nat.le_refl _,fun _ _ => rfl⟩;clear HVO HBR
          by_cases hne:n = 0
          · have hnil:l = []:=List.eq_nil_of_length_eq_zero (by rw [← HN.out];exact hne)
            have HZ:Hid (n = 0):=hne;have hal0:al = 0:=HAl.out.nil hnil
            have HBf:Hid (∀ e,e ∈ l.take al → numC (x0 e) (x0 (q k)) < 0):=by
              show ∀ e,e ∈ l.take al → _
              rw [hnil];intro e he;simp at he
            have HAn:Hid (Alk x0 (l ++ [q k]) al):=by
              show Alk x0 (l ++ [q k]) al
              have:=Alk.open_ (x0:=x0) (l:=l) (r:=q k) (fun e he => by rw [hnil] at he;simp at he);rw [← HN.out,hne,← hal0] at this;exact this
            have hal5:al ≤ n:=by omega
            have d1:decide (0 < n) = false:=decide_eq_false (by omega);have d2:decide ((0:Int) < (n:Int)) = false:=decide_eq_false (by omega);clear hnil hal0 hne rdW XA bA;refine wp_region_M 9 (fun w' => True) mixedO trivial (fun hHeld => ?_);refine wpAnyM_pure (i:=0) (oi:=_) (v:=?_) rfl (by kernel_rfl) (fun _ _ _ h => h) (Or.inl ⟨by kernel_rfl,?_⟩) (by assumption) ?_
            rotate_left
            · intro w' hSw;go_simp;try with_reducible rfl
            try simp only [Act.put,SL]
            refine wpAnyM_pure (i:=1) (oi:=_) (v:=?_) rfl (by kernel_rfl) (fun _ _ _ h => h) (Or.inl ⟨by kernel_rfl,?_⟩) (by assumption) ?_
            rotate_left
            · intro w' hSw;go_simp;try with_reducible rfl
            try simp only [Act.put,SL]
            refine wpAnyM_pure (i:=2) (oi:=_) (v:=?_) rfl (by kernel_rfl) (fun _ _ _ h => h) (Or.inl ⟨by kernel_rfl,?_⟩) (by assumption) ?_
            rotate_left
            · intro w' hSw;go_simp;try with_reducible rfl
            try simp only [Act.put,SL]
            try rw [d1]
            refine wpAnyM_pure (i:=3) (oi:=_) (v:=?_) rfl (by kernel_rfl) (fun _ _ _ h => h) (Or.inl ⟨by kernel_rfl,?_⟩) (by assumption) ?_
            rotate_left
            · intro w' hSw;go_simp;try with_reducible rfl
            try simp only [Act.put,SL]
            refine wpAnyM_pure (i:=4) (oi:=_) (v:=undef) rfl (by kernel_rfl) (fun _ _ _ h => h) (Or.inr ⟨by kernel_rfl,rfl⟩) (by assumption) ?_
            try simp only [Act.put,SL]
            refine wpAnyM_pure (i:=5) (oi:=_) (v:=undef) rfl (by kernel_rfl) (fun _ _ _ h => h) (Or.inr ⟨by kernel_rfl,rfl⟩) (by assumption) ?_
            try simp only [Act.put,SL]
            refine wpAnyM_pure (i:=6) (oi:=_) (v:=undef) rfl (by kernel_rfl) (fun _ _ _ h => h) (Or.inr ⟨by kernel_rfl,rfl⟩) (by assumption) ?_
            try simp only [Act.put,SL]
            refine wpAnyM_pure (i:=7) (oi:=_) (v:=undef) rfl (by kernel_rfl) (fun _ _ _ h => h) (Or.inr ⟨by kernel_rfl,rfl⟩) (by assumption) ?_
            try simp only [Act.put,SL]
            refine wpAnyM_pure (i:=8) (oi:=_) (v:=undef) rfl (by kernel_rfl) (fun _ _ _ h => h) (Or.inr ⟨by kernel_rfl,rfl⟩) (by assumption) ?_
            try simp only [Act.put,SL]
            refine wpAnyM_one (i:=9) (o:=_) rfl (by kernel_rfl) (by kernel_rfl) (fun KC hKC => ?_);refine if_no (by kernel_rfl) (hKC _ _ ?_);clear hKC KC
            try simp only [Act.put,SL]
            refine wpAnyM_pureL (i:=10) (oi:=_) (v:=undef) rfl (by kernel_rfl) (fun _ _ _ h => h) (Or.inr ⟨by kernel_rfl,rfl⟩) ?_
            try simp only [Act.put,SL]
            refine wpAnyM_pureL (i:=11) (oi:=_) (v:=?_) rfl (by kernel_rfl) (fun _ _ _ h => h) (Or.inl ⟨by kernel_rfl,?_⟩) ?_
            rotate_left
            · intro w' hSw;go_simp;try with_reducible rfl
            try simp only [Act.put,SL]
            refine wpAnyM_done (by kernel_rfl) ?_ _;obtain ⟨w5,hw5⟩:∃ x,x = W.drew:=⟨_,rfl⟩;rw [← hw5] at bD ⊢;have b5':Below W.heap.size W w5:=bD;clear bD hw5 hHeld d1 d2;have HVO5:Hid (View layRec 66 w5 w2.heap.size hi (.slice ao n cap) n (fun i => x0 (l.getD i 0)) co):=HVOW.out.below b5' (by omega);have z5':W.heap.size ≤ w5.heap.size:=b5'.size;have HX5:Hid (Box w5 wr.heap.size cR.toArray 66):=HXW.out.below b5' HXW.out.lt;have HR5:Hid (layRec.rd w5 hi (x0 (q k)) cR):=layRec.rd_below HRW.out b5' (by omega);have HB5:Hid (Below w2.heap.size w2 w5):=HBW.out.trans (b5'.mono zW)
            have z5:w2.heap.size ≤ w5.heap.size:=by omega
            clear b5' HVOW HXW HRW HBW;have bD6:Below w5.heap.size w5 w5.drew:=⟨rfl,rfl,rfl,Nat.le_refl _,fun _ _ => rfl⟩;have V6:=HVO5.out.drew;obtain ⟨aS,cS,hSl,sS,rS,-⟩:=V6.from_ (show hi ≤ w5.drew.heap.size by show hi ≤ w5.heap.size;omega) (al:=al) hal5;have rdR6:layRec.rd w5.drew w5.drew.heap.size (x0 (q k)) cR:=layRec.rd_mono (layRec.rd_below HR5.out bD6 (by omega)) (by show hi ≤ w5.heap.size;omega);have CH0:=hasRec_any (.slice aS (n - al) cS) (n - al) (fun j => x0 (l.getD (al + j) 0)) (x0 (q k)) cR w5.drew.heap.size w5.drew rS rdR6 (Nat.le_refl _) (by omega)
            have CH:Calls Tryz.prog 99 (#[.slice aS (n - al) cS,.agg cR.toArray] ++ #[]) w5.drew (BoolP (∃ i,i < n - al ∧ SameR (x0 (l.getD (al + i) 0)) (x0 (q k))) w5.drew):=by rw [Array.append_empty];exact CH0
            have r6:w5.drew.rangeAt wr.heap.size 0 cR:=fun j v hv => by
              have:=(HX5.out.cell j).trans (by simpa using hv);rw [Nat.zero_add];exact this
            clear CH0 rdR6 rS sS V6
            go_upto_region 14 with fail
            refine wp_region_M 4 (fun w' => w'.rangeAt wr.heap.size 0 cR) mixedO r6 (fun hHeld => ?_);refine wpAnyM_pure (i:=0) (oi:=_) (v:=?_) rfl (by kernel_rfl) (fun _ _ _ h => h) (Or.inl ⟨by kernel_rfl,?_⟩) (by assumption) ?_
            rotate_left
            · intro w' hSw;go_simp;try with_reducible rfl
            try simp only [Act.put,SL]
            refine wpAnyM_pure (i:=1) (oi:=_) (v:=?_) rfl (by kernel_rfl) (fun _ _ _ h => h) (Or.inl ⟨by kernel_rfl,?_⟩) (by assumption) ?_
            rotate_left
            · intro w' hSw;go_simp;try with_reducible rfl
            try simp only [Act.put,SL]
            refine wpAnyM_pure (i:=2) (oi:=_) (v:=?_) rfl (by kernel_rfl) (fun _ _ _ h => h) (Or.inl ⟨by kernel_rfl,?_⟩) (by assumption) ?_
            rotate_left
            · intro w' hSw
              try rw [show (Instr.slice 54 (.slice ao n cap) (some (.int .i64 (al:Int))) none none).run Tryz.prog w' = _ from hSl w']
              have hSl':=hSl w';go_simp
              try with_reducible rfl
            try simp only [Act.put,SL]
            refine wpAnyM_take (i:=3) (oi:=_) (v:=.agg cR.toArray) 16 rfl (by kernel_rfl) (fun _ _ _ h => h) (yieldsIf_load_mid (by kernel_rfl) 66 (.tmp 9) rfl wr.heap.size (0) (by simp [Act.eval,Act.put]) cR _ (fun w h => h) Tryz.underlying66 rfl (info_Rec9 hcR)) (by assumption) ?_
            try simp only [Act.put,SL]
            refine wpAnyM_one (i:=4) (o:=_) rfl (by kernel_rfl) (by kernel_rfl) (fun KC hKC => ?_);refine step_callv (by kernel_rfl) (.func 99) 99 #[] _ _ rfl (by simp [Act.eval,Act.put]) #[.slice aS (n - al) cS,.agg cR.toArray] (by simp [Act.eval,Act.put]) Tryz.func99 (by kernel_rfl) (by kernel_rfl) CH ?_;rintro ee w7 ⟨t,rfl,ht,b7⟩;refine ⟨_,rfl,?_⟩;refine hKC _ _ ?_;clear hKC KC
            try simp only [Act.put,SL]
            refine wpAnyM_pureL (i:=5) (oi:=_) (v:=?_) rfl (by kernel_rfl) (fun _ _ _ h => h) (Or.inl ⟨by kernel_rfl,?_⟩) ?_
            rotate_left
            · intro w' hSw;go_simp;try with_reducible rfl
            try simp only [Act.put,SL]
            refine wpAnyM_done (by kernel_rfl) ?_ _;have b7':Below w5.heap.size w5 w7:=bD6.trans b7;have z7:w5.heap.size ≤ w7.heap.size:=b7'.size;have HVO7:Hid (View layRec 66 w7 w2.heap.size hi (.slice ao n cap) n (fun i => x0 (l.getD i 0)) co):=HVO5.out.below b7' (by omega);have HX7:Hid (Box w7 wr.heap.size cR.toArray 66):=HX5.out.below b7' (by omega);have HR7:Hid (layRec.rd w7 hi (x0 (q k)) cR):=layRec.rd_below HR5.out b7' (by omega);have HB7:Hid (Below w2.heap.size w2 w7):=HB5.out.trans (b7'.mono z5)
            have HT:Hid (t = true ↔ ¬ Fst x0 (q k)):=by
              show t = true ↔ ¬ Fst x0 (q k)
              rw [ht,← HCQ.out.has HSrt.out HRe.out hlt HBf.out];rw [HN.out];exact (mem_drop_getD (l:=l) (al:=al) (P:=fun o => SameR (x0 o) (x0 (q k)))).symm
            have hFR:Hid (t = true → al < n):=fun h => by
              obtain ⟨i,hi',_⟩:=ht.1 h;omega
            clear ht b7 b7' bD6 CH hSl r6 hHeld HVO5 HX5 HR5 HB5
            cases t with
            | true =>
              exfalso
              have:=hFR.out (by simp);have:=HZ.out;omega
            | false =>
              have hF:Fst x0 (q k):=Classical.byContradiction fun h => absurd (HT.out.2 h) (by simp);have HF:Hid (Fst x0 (q k)):=hF;clear hF hFR HT;have RR:=HR7.out;have XX:=HX7.out;obtain ⟨b6,bk6,b7,bk7,b8,bk8,eR,-⟩:=Rec_rd RR;have HER:Hid (cR = [.int .i64 (x0 (q k)).kind,.int .i64 (x0 (q k)).seq,.string (x0 (q k)).name,.int .i64 (x0 (q k)).length,.int .i64 (x0 (q k)).group,.int .i64 (x0 (q k)).row,.slice b6 (x0 (q k)).rows.1 bk6,.slice b7 (x0 (q k)).data.1 bk7,.slice b8 (x0 (q k)).delta.1 bk8]):=eR;rw [eR] at XX;have bA:Below w7.heap.size w7 (w7.alloc (.cells #[.int .i64 (x0 (q k)).kind,.int .i64 (x0 (q k)).seq,.string (x0 (q k)).name,.int .i64 (x0 (q k)).length,.int .i64 (x0 (q k)).group,.int .i64 (x0 (q k)).row,.slice b6 (x0 (q k)).rows.1 bk6,.slice b7 (x0 (q k)).data.1 bk7,.slice b8 (x0 (q k)).delta.1 bk8] 66)):=(Below.refl _ _).alloc (Nat.le_refl _) _
              obtain ⟨v8,w8,hrun,V8,_,b8⟩:=run_appendV el_Rec rdOne_rec 54 (HVO7.out.below bA (by omega)) 1 (src_one (b:=w7.heap.size) (hi:=hi) (y:=x0 (q k)) (cs:=cR) (fun j hj => by
                have:=(box_new w7 #[.int .i64 (x0 (q k)).kind,.int .i64 (x0 (q k)).seq,.string (x0 (q k)).name,.int .i64 (x0 (q k)).length,.int .i64 (x0 (q k)).group,.int .i64 (x0 (q k)).row,.slice b6 (x0 (q k)).rows.1 bk6,.slice b7 (x0 (q k)).data.1 bk7,.slice b8 (x0 (q k)).delta.1 bk8] 66).cell j;rw [this,eR]
                simp) (layRec.rd_below HR7.out bA (by omega))) (by simp;omega) (by omega) (by omega) (fun h => by cases h)
              have HV8:Hid (View layRec 66 w8 w2.heap.size hi v8 (l ++ [q k]).length (fun i => x0 ((l ++ [q k]).getD i 0)) (cat2 co n (fun _ => cR))):=by
                have e:(l ++ [q k]).length = n + 1:=by rw [List.length_append,← HN.out];rfl
                show View layRec 66 w8 w2.heap.size hi v8 (l ++ [q k]).length (fun i => x0 ((l ++ [q k]).getD i 0)) (cat2 co n (fun _ => cR))
                rw [e];refine V8.congr (fun i hi' => ?_)
                by_cases c:i < n
                · rw [cat2_lt _ _ c,getD_ap (by rw [← HN.out];exact c)]
                · obtain rfl:i = n:=by omega
                  have e1:=cat2_ge (fun i => x0 (l.getD i 0)) i (fun _ => x0 (q k)) 0;rw [Nat.add_zero] at e1;rw [e1]
                  show x0 (q k) = x0 ((l ++ [q k]).getD i 0)
                  rw [HN.out,getD_last]
              have HB8:Hid (Below w2.heap.size w2 w8):=(HB7.out.trans (bA.mono (by omega))).trans b8;clear V8 b8 bA RR eR;have u_0:w7.cell? ⟨wr.heap.size,0,none⟩ = some (.int .i64 (x0 (q k)).kind):=XX.cell 0;have u_1:w7.cell? ⟨wr.heap.size,1,none⟩ = some (.int .i64 (x0 (q k)).seq):=XX.cell 1;have u_2:w7.cell? ⟨wr.heap.size,2,none⟩ = some (.string (x0 (q k)).name):=XX.cell 2;have u_3:w7.cell? ⟨wr.heap.size,3,none⟩ = some (.int .i64 (x0 (q k)).length):=XX.cell 3;have u_4:w7.cell? ⟨wr.heap.size,4,none⟩ = some (.int .i64 (x0 (q k)).group):=XX.cell 4;have u_5:w7.cell? ⟨wr.heap.size,5,none⟩ = some (.int .i64 (x0 (q k)).row):=XX.cell 5;have u_6:w7.cell? ⟨wr.heap.size,6,none⟩ = some (.slice b6 (x0 (q k)).rows.1 bk6):=XX.cell 6;have u_7:w7.cell? ⟨wr.heap.size,7,none⟩ = some (.slice b7 (x0 (q k)).data.1 bk7):=XX.cell 7;have u_8:w7.cell? ⟨wr.heap.size,8,none⟩ = some (.slice b8 (x0 (q k)).delta.1 bk8):=XX.cell 8;clear XX
              go_wp2_with (at_builtin;refine wp_run2 rfl (.tmp 49) (.tmp 51) rfl ?_ ?_ hrun ?_;(simp [Act.eval]);(simp [Act.eval]))
              clear hrun;go_wp2
              go_roundw
              case rel => exact ⟨k + 1,al,l ++ [q k],_,by omega,by go_num,rfl,HCQ.out.more HSrt.out hlt HF.out,HAn.out,by rw [List.length_append];have:=HLk.out;simp;omega,HV8.out,HB8.out⟩
              case measure => simp [intOf];omega
          · have hne':l ≠ []:=fun h => hne (by rw [HN.out,h];rfl)
            have haln:al < n:=by rw [HN.out];exact HAl.out.lt hne'
            have VD:=HVOW.out.drew;obtain ⟨gO,cO',hgO⟩:=VD.form0 hne
            have rgO:W.drew.rangeAt gO (al * 9) (co al):=by rw [hgO] at VD;exact VD.range haln
            obtain ⟨rfl,rfl⟩:ao = some ⟨gO,0,none⟩ ∧ cap = cO':=by simpa using hgO
            have hcO:(co al).length = 9:=VD.lens al haln;have CC0:=byNumbers_is (x0 (l.getD al 0)) (x0 (q k)) (co al) cR hi hi W.drew (VD.each al haln) (layRec.rd_below rdW bD (by omega));obtain ⟨cO,hcOe⟩:∃ c,c = co al:=⟨_,rfl⟩;rw [← hcOe] at rgO hcO CC0;obtain ⟨c,hc⟩:∃ c:Int,c = numC (x0 (l.getD al 0)) (x0 (q k)):=⟨_,rfl⟩;rw [← hc] at CC0;have HCN:Hid (c = numC (x0 (l.getD al 0)) (x0 (q k))):=hc
            have CC:Calls Tryz.prog 98 (#[.agg cO.toArray,.agg cR.toArray] ++ #[]) W.drew fun e w' => e = .returned (.int .i64 c) ∧ Below W.drew.heap.size W.drew w':=by rw [Array.append_empty];exact CC0
            have rgB:W.drew.rangeAt wr.heap.size 0 cR:=fun j v hv => by
              have:=(XA.cell j).trans (by simpa using hv);rw [Nat.zero_add];exact this
            have d1:decide (0 < n) = true:=decide_eq_true (by omega);have d2:decide ((0:Int) < (n:Int)) = true:=decide_eq_true (by omega)
            have i3:(0:Int) ≤ (al:Int):=by omega
            have i4:(al:Int) < (n:Int):=by omega
            clear CC0 hc hcOe VD hgO XA rdW bA;refine wp_region_M 9 (fun w' => w'.rangeAt gO (al * 9) cO ∧ w'.rangeAt wr.heap.size 0 cR) mixedO ⟨rgO,rgB⟩ (fun hHeld => ?_);refine wpAnyM_pure (i:=0) (oi:=_) (v:=?_) rfl (by kernel_rfl) (fun _ _ _ h => h) (Or.inl ⟨by kernel_rfl,?_⟩) (by assumption) ?_
            rotate_left
            · intro w' hSw;go_simp;try with_reducible rfl
            try simp only [Act.put,SL]
            refine wpAnyM_pure (i:=1) (oi:=_) (v:=?_) rfl (by kernel_rfl) (fun _ _ _ h => h) (Or.inl ⟨by kernel_rfl,?_⟩) (by assumption) ?_
            rotate_left
            · intro w' hSw;go_simp;try with_reducible rfl
            try simp only [Act.put,SL]
            refine wpAnyM_pure (i:=2) (oi:=_) (v:=?_) rfl (by kernel_rfl) (fun _ _ _ h => h) (Or.inl ⟨by kernel_rfl,?_⟩) (by assumption) ?_
            rotate_left
            · intro w' hSw;go_simp;try with_reducible rfl
            try simp only [Act.put,SL]
            try rw [d1]
            refine wpAnyM_pure (i:=3) (oi:=_) (v:=?_) rfl (by kernel_rfl) (fun _ _ _ h => h) (Or.inl ⟨by kernel_rfl,?_⟩) (by assumption) ?_
            rotate_left
            · intro w' hSw;go_simp;try with_reducible rfl
            try simp only [Act.put,SL]
            refine wpAnyM_pure (i:=4) (oi:=_) (v:=?_) rfl (by kernel_rfl) (fun _ _ _ h => h) (Or.inl ⟨by kernel_rfl,?_⟩) (by assumption) ?_
            rotate_left
            · intro w' hSw;go_simp;try with_reducible rfl
            try simp only [Act.put,SL]
            refine wpAnyM_pure (i:=5) (oi:=_) (v:=?_) rfl (by kernel_rfl) (fun _ _ _ h => h) (Or.inl ⟨by kernel_rfl,?_⟩) (by assumption) ?_
            rotate_left
            · intro w' hSw;go_simp;try with_reducible rfl
            try simp only [Act.put,SL]
            refine wpAnyM_pure (i:=6) (oi:=_) (v:=?_) rfl (by kernel_rfl) (fun _ _ _ h => h) (Or.inl ⟨by kernel_rfl,?_⟩) (by assumption) ?_
            rotate_left
            · intro w' hSw;go_simp;try with_reducible rfl
            try simp only [Act.put,SL]
            refine wpAnyM_take (i:=7) (oi:=_) (v:=.agg cO.toArray) 16 rfl (by kernel_rfl) (fun _ _ _ h => h) (yieldsIf_load_mid (by kernel_rfl) 66 (.tmp 35) rfl gO (al * 9) (by simp [Act.eval,Act.put]) cO _ (fun w h => h.1) Tryz.underlying66 rfl (info_Rec9 hcO)) (by assumption) ?_
            try simp only [Act.put,SL]
            refine wpAnyM_take (i:=8) (oi:=_) (v:=.agg cR.toArray) 16 rfl (by kernel_rfl) (fun _ _ _ h => h) (yieldsIf_load_mid (by kernel_rfl) 66 (.tmp 9) rfl wr.heap.size (0) (by simp [Act.eval,Act.put]) cR _ (fun w h => h.2) Tryz.underlying66 rfl (info_Rec9 hcR)) (by assumption) ?_
            try simp only [Act.put,SL]
            refine wpAnyM_one (i:=9) (o:=_) rfl (by kernel_rfl) (by kernel_rfl) (fun KC hKC => ?_);refine step_callv (by kernel_rfl) (.func 98) 98 #[] _ _ rfl (by simp [Act.eval,Act.put]) #[.agg cO.toArray,.agg cR.toArray] (by simp [Act.eval,Act.put]) Tryz.func98 (by kernel_rfl) (by kernel_rfl) CC ?_;rintro ee w5 ⟨rfl,b5⟩;refine ⟨_,rfl,?_⟩;refine hKC _ _ ?_;clear hKC KC
            try simp only [Act.put,SL]
            refine wpAnyM_pureL (i:=10) (oi:=_) (v:=?_) rfl (by kernel_rfl) (fun _ _ _ h => h) (Or.inl ⟨by kernel_rfl,?_⟩) ?_
            rotate_left
            · intro w' hSw;go_simp;try with_reducible rfl
            try simp only [Act.put,SL]
            refine wpAnyM_pureL (i:=11) (oi:=_) (v:=?_) rfl (by kernel_rfl) (fun _ _ _ h => h) (Or.inl ⟨by kernel_rfl,?_⟩) ?_
            rotate_left
            · intro w' hSw;go_simp;try with_reducible rfl
            try simp only [Act.put,SL]
            refine wpAnyM_done (by kernel_rfl) ?_ _;have b5':Below W.heap.size W w5:=bD.trans b5;have HVO5:Hid (View layRec 66 w5 w2.heap.size hi (.slice (some ⟨gO,0,none⟩) n cap) n (fun i => x0 (l.getD i 0)) co):=HVOW.out.below b5' (by omega);have z5':W.heap.size ≤ w5.heap.size:=b5'.size;have HX5:Hid (Box w5 wr.heap.size cR.toArray 66):=HXW.out.below b5' HXW.out.lt;have HR5:Hid (layRec.rd w5 hi (x0 (q k)) cR):=layRec.rd_below HRW.out b5' (by omega);have HB5:Hid (Below w2.heap.size w2 w5):=HBW.out.trans (b5'.mono zW)
            have z5:w2.heap.size ≤ w5.heap.size:=by omega
            clear b5' b5 HVOW HXW HRW HBW CC rgO rgB hHeld bD d1 d2 hcO
            by_cases hc0:c = 0
            · have e0:(c != 0) = false:=by simp [hc0]
              have hst:=HAl.out.stay hne' (r:=q k) (by rw [← HCN.out];exact hc0);have HBf:Hid (∀ e,e ∈ l.take al → numC (x0 e) (x0 (q k)) < 0):=hst.1;have HAn:Hid (Alk x0 (l ++ [q k]) al):=hst.2
              have hal5:al ≤ n:=by omega
              subst hc0;clear hst HCN;have bD6:Below w5.heap.size w5 w5.drew:=⟨rfl,rfl,rfl,Nat.le_refl _,fun _ _ => rfl⟩;have V6:=HVO5.out.drew;obtain ⟨aS,cS,hSl,sS,rS,-⟩:=V6.from_ (show hi ≤ w5.drew.heap.size by show hi ≤ w5.heap.size;omega) (al:=al) hal5;have rdR6:layRec.rd w5.drew w5.drew.heap.size (x0 (q k)) cR:=layRec.rd_mono (layRec.rd_below HR5.out bD6 (by omega)) (by show hi ≤ w5.heap.size;omega);have CH0:=hasRec_any (.slice aS (n - al) cS) (n - al) (fun j => x0 (l.getD (al + j) 0)) (x0 (q k)) cR w5.drew.heap.size w5.drew rS rdR6 (Nat.le_refl _) (by omega)
              have CH:Calls Tryz.prog 99 (#[.slice aS (n - al) cS,.agg cR.toArray] ++ #[]) w5.drew (BoolP (∃ i,i < n - al ∧ SameR (x0 (l.getD (al + i) 0)) (x0 (q k))) w5.drew):=by rw [Array.append_empty];exact CH0
              have r6:w5.drew.rangeAt wr.heap.size 0 cR:=fun j v hv => by
                have:=(HX5.out.cell j).trans (by simpa using hv);rw [Nat.zero_add];exact this
              clear CH0 rdR6 rS sS V6
              go_upto_region 14 with fail
              refine wp_region_M 4 (fun w' => w'.rangeAt wr.heap.size 0 cR) mixedO r6 (fun hHeld => ?_);refine wpAnyM_pure (i:=0) (oi:=_) (v:=?_) rfl (by kernel_rfl) (fun _ _ _ h => h) (Or.inl ⟨by kernel_rfl,?_⟩) (by assumption) ?_
              rotate_left
              · intro w' hSw;go_simp;try with_reducible rfl
              try simp only [Act.put,SL]
              refine wpAnyM_pure (i:=1) (oi:=_) (v:=?_) rfl (by kernel_rfl) (fun _ _ _ h => h) (Or.inl ⟨by kernel_rfl,?_⟩) (by assumption) ?_
              rotate_left
              · intro w' hSw;go_simp;try with_reducible rfl
              try simp only [Act.put,SL]
              refine wpAnyM_pure (i:=2) (oi:=_) (v:=?_) rfl (by kernel_rfl) (fun _ _ _ h => h) (Or.inl ⟨by kernel_rfl,?_⟩) (by assumption) ?_
              rotate_left
              · intro w' hSw
                try rw [show (Instr.slice 54 (.slice (some ⟨gO,0,none⟩) n cap) (some (.int .i64 (al:Int))) none none).run Tryz.prog w' = _ from hSl w']
                have hSl':=hSl w';go_simp
                try with_reducible rfl
              try simp only [Act.put,SL]
              refine wpAnyM_take (i:=3) (oi:=_) (v:=.agg cR.toArray) 16 rfl (by kernel_rfl) (fun _ _ _ h => h) (yieldsIf_load_mid (by kernel_rfl) 66 (.tmp 9) rfl wr.heap.size (0) (by simp [Act.eval,Act.put]) cR _ (fun w h => h) Tryz.underlying66 rfl (info_Rec9 hcR)) (by assumption) ?_
              try simp only [Act.put,SL]
              refine wpAnyM_one (i:=4) (o:=_) rfl (by kernel_rfl) (by kernel_rfl) (fun KC hKC => ?_);refine step_callv (by kernel_rfl) (.func 99) 99 #[] _ _ rfl (by simp [Act.eval,Act.put]) #[.slice aS (n - al) cS,.agg cR.toArray] (by simp [Act.eval,Act.put]) Tryz.func99 (by kernel_rfl) (by kernel_rfl) CH ?_;rintro ee w7 ⟨t,rfl,ht,b7⟩;refine ⟨_,rfl,?_⟩;refine hKC _ _ ?_;clear hKC KC
              try simp only [Act.put,SL]
              refine wpAnyM_pureL (i:=5) (oi:=_) (v:=?_) rfl (by kernel_rfl) (fun _ _ _ h => h) (Or.inl ⟨by kernel_rfl,?_⟩) ?_
              rotate_left
              · intro w' hSw;go_simp;try with_reducible rfl
              try simp only [Act.put,SL]
              refine wpAnyM_done (by kernel_rfl) ?_ _;have b7':Below w5.heap.size w5 w7:=bD6.trans b7;have z7:w5.heap.size ≤ w7.heap.size:=b7'.size;have HVO7:Hid (View layRec 66 w7 w2.heap.size hi (.slice (some ⟨gO,0,none⟩) n cap) n (fun i => x0 (l.getD i 0)) co):=HVO5.out.below b7' (by omega);have HX7:Hid (Box w7 wr.heap.size cR.toArray 66):=HX5.out.below b7' (by omega);have HR7:Hid (layRec.rd w7 hi (x0 (q k)) cR):=layRec.rd_below HR5.out b7' (by omega);have HB7:Hid (Below w2.heap.size w2 w7):=HB5.out.trans (b7'.mono z5)
              have HT:Hid (t = true ↔ ¬ Fst x0 (q k)):=by
                show t = true ↔ ¬ Fst x0 (q k)
                rw [ht,← HCQ.out.has HSrt.out HRe.out hlt HBf.out];rw [HN.out];exact (mem_drop_getD (l:=l) (al:=al) (P:=fun o => SameR (x0 o) (x0 (q k)))).symm
              have hFR:Hid (t = true → al < n):=fun h => by
                obtain ⟨i,hi',_⟩:=ht.1 h;omega
              clear ht b7 b7' bD6 CH hSl r6 hHeld HVO5 HX5 HR5 HB5
              cases t with
              | true =>
                go_wp2
                go_roundw
                case rel => exact ⟨k + 1,al,l,co,by omega,by go_num,rfl,HCQ.out.skip (HT.out.1 (by simp)),HAl.out,by have:=HLk.out;omega,by rw [← HN.out];exact HVO7.out,HB7.out⟩
                case measure => simp [intOf];omega
              | false =>
                have hF:Fst x0 (q k):=Classical.byContradiction fun h => absurd (HT.out.2 h) (by simp);have HF:Hid (Fst x0 (q k)):=hF;clear hF hFR HT;have RR:=HR7.out;have XX:=HX7.out;obtain ⟨b6,bk6,b7,bk7,b8,bk8,eR,-⟩:=Rec_rd RR;have HER:Hid (cR = [.int .i64 (x0 (q k)).kind,.int .i64 (x0 (q k)).seq,.string (x0 (q k)).name,.int .i64 (x0 (q k)).length,.int .i64 (x0 (q k)).group,.int .i64 (x0 (q k)).row,.slice b6 (x0 (q k)).rows.1 bk6,.slice b7 (x0 (q k)).data.1 bk7,.slice b8 (x0 (q k)).delta.1 bk8]):=eR;rw [eR] at XX;have bA:Below w7.heap.size w7 (w7.alloc (.cells #[.int .i64 (x0 (q k)).kind,.int .i64 (x0 (q k)).seq,.string (x0 (q k)).name,.int .i64 (x0 (q k)).length,.int .i64 (x0 (q k)).group,.int .i64 (x0 (q k)).row,.slice b6 (x0 (q k)).rows.1 bk6,.slice b7 (x0 (q k)).data.1 bk7,.slice b8 (x0 (q k)).delta.1 bk8] 66)):=(Below.refl _ _).alloc (Nat.le_refl _) _
                obtain ⟨v8,w8,hrun,V8,_,b8⟩:=run_appendV el_Rec rdOne_rec 54 (HVO7.out.below bA (by omega)) 1 (src_one (b:=w7.heap.size) (hi:=hi) (y:=x0 (q k)) (cs:=cR) (fun j hj => by
                  have:=(box_new w7 #[.int .i64 (x0 (q k)).kind,.int .i64 (x0 (q k)).seq,.string (x0 (q k)).name,.int .i64 (x0 (q k)).length,.int .i64 (x0 (q k)).group,.int .i64 (x0 (q k)).row,.slice b6 (x0 (q k)).rows.1 bk6,.slice b7 (x0 (q k)).data.1 bk7,.slice b8 (x0 (q k)).delta.1 bk8] 66).cell j;rw [this,eR]
                  simp) (layRec.rd_below HR7.out bA (by omega))) (by simp;omega) (by omega) (by omega) (fun h => by cases h)
                have HV8:Hid (View layRec 66 w8 w2.heap.size hi v8 (l ++ [q k]).length (fun i => x0 ((l ++ [q k]).getD i 0)) (cat2 co n (fun _ => cR))):=by
                  have e:(l ++ [q k]).length = n + 1:=by rw [List.length_append,← HN.out];rfl
                  show View layRec 66 w8 w2.heap.size hi v8 (l ++ [q k]).length (fun i => x0 ((l ++ [q k]).getD i 0)) (cat2 co n (fun _ => cR))
                  rw [e];refine V8.congr (fun i hi' => ?_)
                  by_cases c:i < n
                  · rw [cat2_lt _ _ c,getD_ap (by rw [← HN.out];exact c)]
                  · obtain rfl:i = n:=by omega
                    have e1:=cat2_ge (fun i => x0 (l.getD i 0)) i (fun _ => x0 (q k)) 0;rw [Nat.add_zero] at e1;rw [e1]
                    show x0 (q k) = x0 ((l ++ [q k]).getD i 0)
                    rw [HN.out,getD_last]
                have HB8:Hid (Below w2.heap.size w2 w8):=(HB7.out.trans (bA.mono (by omega))).trans b8;clear V8 b8 bA RR eR;have u_0:w7.cell? ⟨wr.heap.size,0,none⟩ = some (.int .i64 (x0 (q k)).kind):=XX.cell 0;have u_1:w7.cell? ⟨wr.heap.size,1,none⟩ = some (.int .i64 (x0 (q k)).seq):=XX.cell 1;have u_2:w7.cell? ⟨wr.heap.size,2,none⟩ = some (.string (x0 (q k)).name):=XX.cell 2;have u_3:w7.cell? ⟨wr.heap.size,3,none⟩ = some (.int .i64 (x0 (q k)).length):=XX.cell 3;have u_4:w7.cell? ⟨wr.heap.size,4,none⟩ = some (.int .i64 (x0 (q k)).group):=XX.cell 4;have u_5:w7.cell? ⟨wr.heap.size,5,none⟩ = some (.int .i64 (x0 (q k)).row):=XX.cell 5;have u_6:w7.cell? ⟨wr.heap.size,6,none⟩ = some (.slice b6 (x0 (q k)).rows.1 bk6):=XX.cell 6;have u_7:w7.cell? ⟨wr.heap.size,7,none⟩ = some (.slice b7 (x0 (q k)).data.1 bk7):=XX.cell 7;have u_8:w7.cell? ⟨wr.heap.size,8,none⟩ = some (.slice b8 (x0 (q k)).delta.1 bk8):=XX.cell 8;clear XX
                go_wp2_with (at_builtin;refine wp_run2 rfl (.tmp 49) (.tmp 51) rfl ?_ ?_ hrun ?_;(simp [Act.eval]);(simp [Act.eval]))
                clear hrun;go_wp2
                go_roundw
                case rel => exact ⟨k + 1,al,l ++ [q k],_,by omega,by go_num,rfl,HCQ.out.more HSrt.out hlt HF.out,HAn.out,by rw [List.length_append];have:=HLk.out;simp;omega,HV8.out,HB8.out⟩
                case measure => simp [intOf];omega
            · have e0:(c != 0) = true:=by simp [hc0]
              have hfr:=HAl.out.fresh HCQ.out HSrt.out hlt hne' (by rw [← HCN.out];exact hc0);have HAf:Hid (∀ e,e ∈ l → numC (x0 e) (x0 (q k)) < 0):=hfr;have HBf:Hid (∀ e,e ∈ l.take n → numC (x0 e) (x0 (q k)) < 0):=fun e he => hfr e (List.mem_of_mem_take he);have HZ:Hid (n = n):=rfl;have hal5:n ≤ n:=Nat.le_refl _;clear hfr HCN;have bD6:Below w5.heap.size w5 w5.drew:=⟨rfl,rfl,rfl,Nat.le_refl _,fun _ _ => rfl⟩;have V6:=HVO5.out.drew;obtain ⟨aS,cS,hSl,sS,rS,-⟩:=V6.from_ (show hi ≤ w5.drew.heap.size by show hi ≤ w5.heap.size;omega) (al:=n) hal5;have rdR6:layRec.rd w5.drew w5.drew.heap.size (x0 (q k)) cR:=layRec.rd_mono (layRec.rd_below HR5.out bD6 (by omega)) (by show hi ≤ w5.heap.size;omega);have CH0:=hasRec_any (.slice aS (n - n) cS) (n - n) (fun j => x0 (l.getD (n + j) 0)) (x0 (q k)) cR w5.drew.heap.size w5.drew rS rdR6 (Nat.le_refl _) (by omega)
              have CH:Calls Tryz.prog 99 (#[.slice aS (n - n) cS,.agg cR.toArray] ++ #[]) w5.drew (BoolP (∃ i,i < n - n ∧ SameR (x0 (l.getD (n + i) 0)) (x0 (q k))) w5.drew):=by rw [Array.append_empty];exact CH0
              have r6:w5.drew.rangeAt wr.heap.size 0 cR:=fun j v hv => by
                have:=(HX5.out.cell j).trans (by simpa using hv);rw [Nat.zero_add];exact this
              clear CH0 rdR6 rS sS V6
              go_upto_region 14 with fail
              refine wp_region_M 4 (fun w' => w'.rangeAt wr.heap.size 0 cR) mixedO r6 (fun hHeld => ?_);refine wpAnyM_pure (i:=0) (oi:=_) (v:=?_) rfl (by kernel_rfl) (fun _ _ _ h => h) (Or.inl ⟨by kernel_rfl,?_⟩) (by assumption) ?_
              rotate_left
              · intro w' hSw;go_simp;try with_reducible rfl
              try simp only [Act.put,SL]
              refine wpAnyM_pure (i:=1) (oi:=_) (v:=?_) rfl (by kernel_rfl) (fun _ _ _ h => h) (Or.inl ⟨by kernel_rfl,?_⟩) (by assumption) ?_
              rotate_left
              · intro w' hSw;go_simp;try with_reducible rfl
              try simp only [Act.put,SL]
              refine wpAnyM_pure (i:=2) (oi:=_) (v:=?_) rfl (by kernel_rfl) (fun _ _ _ h => h) (Or.inl ⟨by kernel_rfl,?_⟩) (by assumption) ?_
              rotate_left
              · intro w' hSw
                try rw [show (Instr.slice 54 (.slice (some ⟨gO,0,none⟩) n cap) (some (.int .i64 (n:Int))) none none).run Tryz.prog w' = _ from hSl w']
                have hSl':=hSl w';go_simp
                try with_reducible rfl
              try simp only [Act.put,SL]
              refine wpAnyM_take (i:=3) (oi:=_) (v:=.agg cR.toArray) 16 rfl (by kernel_rfl) (fun _ _ _ h => h) (yieldsIf_load_mid (by kernel_rfl) 66 (.tmp 9) rfl wr.heap.size (0) (by simp [Act.eval,Act.put]) cR _ (fun w h => h) Tryz.underlying66 rfl (info_Rec9 hcR)) (by assumption) ?_
              try simp only [Act.put,SL]
              refine wpAnyM_one (i:=4) (o:=_) rfl (by kernel_rfl) (by kernel_rfl) (fun KC hKC => ?_);refine step_callv (by kernel_rfl) (.func 99) 99 #[] _ _ rfl (by simp [Act.eval,Act.put]) #[.slice aS (n - n) cS,.agg cR.toArray] (by simp [Act.eval,Act.put]) Tryz.func99 (by kernel_rfl) (by kernel_rfl) CH ?_;rintro ee w7 ⟨t,rfl,ht,b7⟩;refine ⟨_,rfl,?_⟩;refine hKC _ _ ?_;clear hKC KC
              try simp only [Act.put,SL]
              refine wpAnyM_pureL (i:=5) (oi:=_) (v:=?_) rfl (by kernel_rfl) (fun _ _ _ h => h) (Or.inl ⟨by kernel_rfl,?_⟩) ?_
              rotate_left
              · intro w' hSw;go_simp;try with_reducible rfl
              try simp only [Act.put,SL]
              refine wpAnyM_done (by kernel_rfl) ?_ _;have b7':Below w5.heap.size w5 w7:=bD6.trans b7;have z7:w5.heap.size ≤ w7.heap.size:=b7'.size;have HVO7:Hid (View layRec 66 w7 w2.heap.size hi (.slice (some ⟨gO,0,none⟩) n cap) n (fun i => x0 (l.getD i 0)) co):=HVO5.out.below b7' (by omega);have HX7:Hid (Box w7 wr.heap.size cR.toArray 66):=HX5.out.below b7' (by omega);have HR7:Hid (layRec.rd w7 hi (x0 (q k)) cR):=layRec.rd_below HR5.out b7' (by omega);have HB7:Hid (Below w2.heap.size w2 w7):=HB5.out.trans (b7'.mono z5)
              have HT:Hid (t = true ↔ ¬ Fst x0 (q k)):=by
                show t = true ↔ ¬ Fst x0 (q k)
                rw [ht,← HCQ.out.has HSrt.out HRe.out hlt HBf.out];rw [HN.out];exact (mem_drop_getD (l:=l) (al:=l.length) (P:=fun o => SameR (x0 o) (x0 (q k)))).symm
              have hFR:Hid (t = true → n < n):=fun h => by
                obtain ⟨i,hi',_⟩:=ht.1 h;omega
              clear ht b7 b7' bD6 CH hSl r6 hHeld HVO5 HX5 HR5 HB5
              cases t with
              | true =>
                exfalso
                have:=hFR.out (by simp);have:=HZ.out;omega
              | false =>
                have hF:Fst x0 (q k):=Classical.byContradiction fun h => absurd (HT.out.2 h) (by simp);have HF:Hid (Fst x0 (q k)):=hF;clear hF hFR HT;have RR:=HR7.out;have XX:=HX7.out;obtain ⟨b6,bk6,b7,bk7,b8,bk8,eR,-⟩:=Rec_rd RR;have HER:Hid (cR = [.int .i64 (x0 (q k)).kind,.int .i64 (x0 (q k)).seq,.string (x0 (q k)).name,.int .i64 (x0 (q k)).length,.int .i64 (x0 (q k)).group,.int .i64 (x0 (q k)).row,.slice b6 (x0 (q k)).rows.1 bk6,.slice b7 (x0 (q k)).data.1 bk7,.slice b8 (x0 (q k)).delta.1 bk8]):=eR;rw [eR] at XX;have bA:Below w7.heap.size w7 (w7.alloc (.cells #[.int .i64 (x0 (q k)).kind,.int .i64 (x0 (q k)).seq,.string (x0 (q k)).name,.int .i64 (x0 (q k)).length,.int .i64 (x0 (q k)).group,.int .i64 (x0 (q k)).row,.slice b6 (x0 (q k)).rows.1 bk6,.slice b7 (x0 (q k)).data.1 bk7,.slice b8 (x0 (q k)).delta.1 bk8] 66)):=(Below.refl _ _).alloc (Nat.le_refl _) _
                obtain ⟨v8,w8,hrun,V8,_,b8⟩:=run_appendV el_Rec rdOne_rec 54 (HVO7.out.below bA (by omega)) 1 (src_one (b:=w7.heap.size) (hi:=hi) (y:=x0 (q k)) (cs:=cR) (fun j hj => by
                  have:=(box_new w7 #[.int .i64 (x0 (q k)).kind,.int .i64 (x0 (q k)).seq,.string (x0 (q k)).name,.int .i64 (x0 (q k)).length,.int .i64 (x0 (q k)).group,.int .i64 (x0 (q k)).row,.slice b6 (x0 (q k)).rows.1 bk6,.slice b7 (x0 (q k)).data.1 bk7,.slice b8 (x0 (q k)).delta.1 bk8] 66).cell j;rw [this,eR]
                  simp) (layRec.rd_below HR7.out bA (by omega))) (by simp;omega) (by omega) (by omega) (fun h => by cases h)
                have HV8:Hid (View layRec 66 w8 w2.heap.size hi v8 (l ++ [q k]).length (fun i => x0 ((l ++ [q k]).getD i 0)) (cat2 co n (fun _ => cR))):=by
                  have e:(l ++ [q k]).length = n + 1:=by rw [List.length_append,← HN.out];rfl
                  show View layRec 66 w8 w2.heap.size hi v8 (l ++ [q k]).length (fun i => x0 ((l ++ [q k]).getD i 0)) (cat2 co n (fun _ => cR))
                  rw [e];refine V8.congr (fun i hi' => ?_)
                  by_cases c:i < n
                  · rw [cat2_lt _ _ c,getD_ap (by rw [← HN.out];exact c)]
                  · obtain rfl:i = n:=by omega
                    have e1:=cat2_ge (fun i => x0 (l.getD i 0)) i (fun _ => x0 (q k)) 0;rw [Nat.add_zero] at e1;rw [e1]
                    show x0 (q k) = x0 ((l ++ [q k]).getD i 0)
                    rw [HN.out,getD_last]
                have HB8:Hid (Below w2.heap.size w2 w8):=(HB7.out.trans (bA.mono (by omega))).trans b8;clear V8 b8 bA RR eR;have u_0:w7.cell? ⟨wr.heap.size,0,none⟩ = some (.int .i64 (x0 (q k)).kind):=XX.cell 0;have u_1:w7.cell? ⟨wr.heap.size,1,none⟩ = some (.int .i64 (x0 (q k)).seq):=XX.cell 1;have u_2:w7.cell? ⟨wr.heap.size,2,none⟩ = some (.string (x0 (q k)).name):=XX.cell 2;have u_3:w7.cell? ⟨wr.heap.size,3,none⟩ = some (.int .i64 (x0 (q k)).length):=XX.cell 3;have u_4:w7.cell? ⟨wr.heap.size,4,none⟩ = some (.int .i64 (x0 (q k)).group):=XX.cell 4;have u_5:w7.cell? ⟨wr.heap.size,5,none⟩ = some (.int .i64 (x0 (q k)).row):=XX.cell 5;have u_6:w7.cell? ⟨wr.heap.size,6,none⟩ = some (.slice b6 (x0 (q k)).rows.1 bk6):=XX.cell 6;have u_7:w7.cell? ⟨wr.heap.size,7,none⟩ = some (.slice b7 (x0 (q k)).data.1 bk7):=XX.cell 7;have u_8:w7.cell? ⟨wr.heap.size,8,none⟩ = some (.slice b8 (x0 (q k)).delta.1 bk8):=XX.cell 8;clear XX
                go_wp2_with (at_builtin;refine wp_run2 rfl (.tmp 49) (.tmp 51) rfl ?_ ?_ hrun ?_;(simp [Act.eval]);(simp [Act.eval]))
                clear hrun;go_wp2
                go_roundw
                case rel => exact ⟨k + 1,l.length,l ++ [q k],_,by omega,by go_num,by rw [← HN.out],HCQ.out.more HSrt.out hlt HF.out,Alk.open_ (x0:=x0) HAf.out,by rw [List.length_append];have:=HLk.out;simp;omega,HV8.out,HB8.out⟩
                case measure => simp [intOf];omega
        · obtain rfl:k = N:=by omega
          clear hlt;go_wp2;go_ret;obtain ⟨e1,e2⟩:=HNE.out;exact ⟨_,l,co,w2.heap.size,rfl,by rw [← e1,← e2];exact HCQ.out.all HRe.out,z2,by rw [← e2,← HN.out];exact HVO.out,HB2.out.trans (HBR.out.mono z2)⟩
end Go.Proofs.YtfoidpcoiankoaaGreat
namespace Go.Proofs.YtfoidpcoiankoaaGreat
open Go.RowKit F256
structure RecsResultD where
  code:Int
  recs:Nat × (Nat → RecD)
structure BytesResultD where
  code:Int
  bytes:Nat × (Nat → Nat)
structure IntsResultD where
  code:Int
  list:Nat × (Nat → Int)
structure GroupsResultD where
  code:Int
  groups:Nat × (Nat → Int)
end Go.Proofs.YtfoidpcoiankoaaGreat
namespace Go.Proofs.YtfoidpcoiankoaaGreat
open Go.RowKit F256
theorem sumN_cong {f g:Nat → Nat}:∀ {n:Nat},(∀ i,i < n → f i = g i) → sumN f n = sumN g n
  | 0,_ => rfl
  | n + 1,h => by rw [sumN_succ,sumN_succ,sumN_cong (fun i hi => h i (by omega)),h n (by omega)]
theorem sumN_cat (f g:Nat → Nat) (n:Nat):∀ m,sumN (fun i => if i < n then f i else g (i - n)) (n + m) = sumN f n + sumN g m
  | 0 => by rw [Nat.add_zero];exact sumN_cong (fun i hi => if_pos hi)
  | m + 1 => by
    rw [← Nat.add_assoc,sumN_succ,sumN_cat f g n m,sumN_succ,if_neg (by omega),show n + m - n = m by omega];omega
theorem sumN_map (f:Nat → Nat) (l:List Nat):sumN (fun i => f (l.getD i 0)) l.length = (l.map f).sum:=by
  generalize hn:l.length = n
  induction n generalizing l with
  | zero => obtain rfl:l = []:=List.eq_nil_of_length_eq_zero hn;rfl
  | succ n ih =>
    have hne:l ≠ []:=fun h => by rw [h] at hn;simp at hn
    have e:=List.dropLast_concat_getLast hne
    have hl:l.dropLast.length = n:=by rw [List.length_dropLast];omega
    have h1:=ih l.dropLast hl;rw [sumN_succ]
    conv => rhs;rw [← e]
    rw [List.map_append,List.sum_append,← h1]
    congr 1
    · exact sumN_cong (fun i hi => by
        have:l.getD i 0 = l.dropLast.getD i 0:=by
          conv => lhs;rw [← e]
          exact getD_ap (by rw [hl];exact hi)
        rw [this])
    · have:l.getD n 0 = l.getLast hne:=by
        conv => lhs;rw [← e]
        rw [← hl];exact getD_last
      rw [this]
      simp
theorem sub_sum (f:Nat → Nat):∀ (N:Nat) (l:List Nat),l.Nodup → (∀ i,i ∈ l → i < N) → (l.map f).sum ≤ sumN f N ∧ l.length ≤ N
  | 0,l,_,h => by
    cases l with
    | nil => exact ⟨Nat.le_refl _,Nat.le_refl _⟩
    | cons a t => exact absurd (h a (by simp)) (by omega)
  | N + 1,l,nd,h => by
    by_cases c:N ∈ l
    · have p:=List.perm_cons_erase c
      obtain ⟨h1,h2⟩:=sub_sum f N (l.erase N) (nd.erase N) (fun i hi => by
        have h3:=(nd.mem_erase_iff).1 hi;have:=h i h3.2
        omega)
      have e1:=(p.map f).sum_nat;have e2:=p.length_eq
      simp only [List.map_cons,List.sum_cons,List.length_cons] at e1 e2
      rw [sumN_succ];omega
    · obtain ⟨h1,h2⟩:=sub_sum f N l nd (fun i hi => by
        have:=h i hi
        by_cases c2:i = N
        · subst c2;exact absurd hi c
        · omega)
      rw [sumN_succ];omega
theorem Cnt.nodup {x0:Nat → RecD} {N:Nat} {l:List Nat} (h:Cnt x0 N l):l.Nodup:=h.srt.imp (fun {a b} hab e => by subst e;exact (numL_ord x0).irr _ hab)
theorem Cnt.sum {x0:Nat → RecD} {N:Nat} {l:List Nat} (h:Cnt x0 N l) (f:RecD → Nat):sumN (fun i => f (x0 (l.getD i 0))) l.length ≤ sumN (fun i => f (x0 i)) N ∧ l.length ≤ N:=by
  have:=sub_sum (fun i => f (x0 i)) N l h.nodup (fun i hi => ((h.mem i).1 hi).1);rw [← sumN_map (fun i => f (x0 i))] at this;exact this
theorem cnt_place (x0:Nat → RecD) (M:Nat) (l:List Nat):∀ k,k ≤ l.length → (∀ j,k ≤ j → j < l.length → numC (x0 M) (x0 (l.getD j 0)) < 0) → ∃ a,a ≤ l.length ∧ (∀ j,a ≤ j → j < l.length → numC (x0 M) (x0 (l.getD j 0)) < 0) ∧ (a = 0 ∨ ¬ numC (x0 M) (x0 (l.getD (a - 1) 0)) < 0)
  | 0,h,hb => ⟨0,h,hb,.inl rfl⟩
  | k + 1,h,hb => by
    by_cases c:numC (x0 M) (x0 (l.getD k 0)) < 0
    · exact cnt_place x0 M l k (by omega) (fun j h1 h2 => by
        by_cases e:j = k
        · subst e;exact c
        · exact hb j (by omega) h2)
    · exact ⟨k + 1,h,hb,.inr c⟩
theorem cnt_ex (x0:Nat → RecD):∀ N,∃ l,Cnt x0 N l
  | 0 => ⟨[],Cnt.nil x0⟩
  | N + 1 => by
    obtain ⟨l,h⟩:=cnt_ex x0 N
    by_cases c:Fst x0 N
    · obtain ⟨a,h1,h2,h3⟩:=cnt_place x0 N l l.length (Nat.le_refl _) (fun j h1 h2 => by omega)
      exact ⟨_,h.ins c a h1 h2 h3⟩
    · exact ⟨l,h.skip c⟩
theorem sum_recT (f:RecD → Nat) (tp:Nat → TapeD):sumN (fun i => f (recT tp 2 i)) (lenT tp 2) = sumN (fun i => f ((tp 0).recs.2 i)) (tp 0).recs.1 + sumN (fun i => f ((tp 1).recs.2 i)) (tp 1).recs.1:=by
  have e1:lenT tp 1 = (tp 0).recs.1:=by simp [lenT]
  have e2:lenT tp 2 = (tp 0).recs.1 + (tp 1).recs.1:=by simp [lenT]
  rw [e2,← sumN_cat];refine sumN_cong (fun i hi => ?_)
  show f (cat2 (recT tp 1) (lenT tp 1) (tp 1).recs.2 i) = _
  rw [e1];unfold cat2
  by_cases c:i < (tp 0).recs.1
  · rw [if_pos c,if_pos c]
    show f (cat2 (recT tp 0) (lenT tp 0) (tp 0).recs.2 i) = _
    have:=cat2_ge (recT tp 0) (lenT tp 0) (tp 0).recs.2 i;rw [show lenT tp 0 + i = i from Nat.zero_add i] at this;rw [this]
  · rw [if_neg c,if_neg c]
theorem cnt_size {d:WorldD} (h2:d.tapes.1 = 2) (hsz:szWorldD d ≤ 1048576) {l:List Nat} (h:Cnt (recT d.tapes.2 2) (lenT d.tapes.2 2) l):(szSl szRecD) (l.length,fun i => recT d.tapes.2 2 (l.getD i 0)) ≤ 1048576:=by
  obtain ⟨s1,s2⟩:=h.sum szRecD;rw [sum_recT] at s1
  have e2:lenT d.tapes.2 2 = (d.tapes.2 0).recs.1 + (d.tapes.2 1).recs.1:=by simp [lenT]
  have e3:(szSl szTapeD) d.tapes = 2 + (szTapeD (d.tapes.2 0) + szTapeD (d.tapes.2 1)):=by
    unfold szSl;rw [h2]
    simp [sumN]
  have e4:szTapeD (d.tapes.2 0) = (d.tapes.2 0).recs.1 + sumN (fun i => szRecD ((d.tapes.2 0).recs.2 i)) (d.tapes.2 0).recs.1:=rfl;have e5:szTapeD (d.tapes.2 1) = (d.tapes.2 1).recs.1 + sumN (fun i => szRecD ((d.tapes.2 1).recs.2 i)) (d.tapes.2 1).recs.1:=rfl;have e6:szWorldD d = (szSl (szSl szDriveD)) d.groups + lenD d.on + (szSl szTapeD) d.tapes:=rfl
  show l.length + sumN (fun i => szRecD (recT d.tapes.2 2 (l.getD i 0))) l.length ≤ 1048576
  omega
end Go.Proofs.YtfoidpcoiankoaaGreat
namespace Go.Proofs.YtfoidpcoiankoaaGreat
open Go.RowKit F256
set_option maxHeartbeats 8000000 in
set_option maxRecDepth 100000 in
theorem l6Holds_any (v:Value) (m:Nat) (y:Nat → RecD) (r:RecD) (cr:List Value) (hi:Nat) (w:World) (h:(layRec.slice 66).rd w hi (m,y) [v]) (hr:layRec.rd w hi r cr) (hhi:hi ≤ w.heap.size) (hm:m ≤ 1048576) :
    Calls Tryz.prog 50 #[v,.agg cr.toArray] w (BoolP (∃ i,i < m ∧ SameR (y i) r) w):=by
  obtain ⟨ao,cap,e,hmm,hc⟩:=h
  obtain rfl:v = .slice ao m cap:=by simpa using e
  have B0:=one_new w cr.toArray 66;have HR:Hid (layRec.rd w hi r cr):=hr;have HC:Hid (m ≠ 0 → ∃ b off,ao = some ⟨b,off,none⟩ ∧ b < hi ∧ ∀ i,i < m → ∃ ce,layRec.rd w hi (y i) ce ∧ ∀ j,j < layRec.sz → w.cell? ⟨b,off + (i * layRec.sz + j),none⟩ = ce[j]?):=hc;have HR0:=hr;obtain ⟨b6,bk6,b7,bk7,b8,bk8,rfl,-⟩:=Rec_rd HR0;clear e hmm hc HR0
  go_enter Tryz.func50,Tryz.ntmps50
  go_wp2
  go_loopw [5] (fun z wr => ∃ k:Nat,k ≤ m ∧ z = .int .i64 k ∧ (∀ t,t < k → ¬ SameR (y t) r) ∧ One w wr #[.int .i64 r.kind,.int .i64 r.seq,.string r.name,.int .i64 r.length,.int .i64 r.group,.int .i64 r.row,.slice b6 r.rows.1 bk6,.slice b7 r.data.1 bk7,.slice b8 r.delta.1 bk8] 66) (fun z _ => m - (intOf z).toNat)
  case atStart => exact ⟨0,Nat.zero_le _,rfl,fun t ht => by omega,B0⟩
  case round =>
    obtain ⟨k,hk,rfl,hall,hO⟩:=hrel;obtain ⟨wx,rfl⟩:∃ y,y = wr:=⟨_,rfl⟩;have HALL:Hid (∀ t,t < k → ¬ SameR (y t) r):=hall;have HO:Hid (One w wx #[.int .i64 r.kind,.int .i64 r.seq,.string r.name,.int .i64 r.length,.int .i64 r.group,.int .i64 r.row,.slice b6 r.rows.1 bk6,.slice b7 r.data.1 bk7,.slice b8 r.delta.1 bk8] 66):=hO;have hbl:=hO.bel;have zx:=hbl.size;have XB:Box wx w.heap.size #[.int .i64 r.kind,.int .i64 r.seq,.string r.name,.int .i64 r.length,.int .i64 r.group,.int .i64 r.row,.slice b6 r.rows.1 bk6,.slice b7 r.data.1 bk7,.slice b8 r.delta.1 bk8] 66:=hO.b1;clear hall B0 hO
    by_cases hlt:k < m
    · obtain ⟨b,off,rfl,hbh,hel⟩:=HC.out (by omega)
      obtain ⟨ce,hy,hcell⟩:=elem_rd (t:=66) hel hbl hhi hbh hlt;have bD:Below wx.heap.size wx wx.drew:=⟨rfl,rfl,rfl,Nat.le_refl _,fun _ _ => rfl⟩;have CS:=specSame_any (y k) r ce [.int .i64 r.kind,.int .i64 r.seq,.string r.name,.int .i64 r.length,.int .i64 r.group,.int .i64 r.row,.slice b6 r.rows.1 bk6,.slice b7 r.data.1 bk7,.slice b8 r.delta.1 bk8] hi hi wx.drew (layRec.rd_below hy bD (by omega)) (layRec.rd_below (layRec.rd_below HR.out hbl hhi) bD (by omega)) (by show hi ≤ wx.heap.size;omega) (by show hi ≤ wx.heap.size;omega)
      have r1:wx.drew.rangeAt b (off + k * 9) ce:=fun j v hv => by
        have hj:j < 9:=by have:=layRec.rd_len hy;have e:j < ce.length:=(List.getElem?_eq_some_iff.1 hv).1;rw [this] at e;exact e
        have:=hcell j hj;rw [← Nat.add_assoc] at this;exact this.trans hv
      have r2:wx.drew.rangeAt w.heap.size 0 [.int .i64 r.kind,.int .i64 r.seq,.string r.name,.int .i64 r.length,.int .i64 r.group,.int .i64 r.row,.slice b6 r.rows.1 bk6,.slice b7 r.data.1 bk7,.slice b8 r.delta.1 bk8]:=fun j v hv => by
        have:=(XB.cell j).trans (by simpa using hv);rw [Nat.zero_add];exact this
      have hce:ce.length = 9:=layRec.rd_len hy
      have CC:Calls Tryz.prog 87 (#[.agg ce.toArray,.agg [.int .i64 r.kind,.int .i64 r.seq,.string r.name,.int .i64 r.length,.int .i64 r.group,.int .i64 r.row,.slice b6 r.rows.1 bk6,.slice b7 r.data.1 bk7,.slice b8 r.delta.1 bk8].toArray] ++ #[]) wx.drew (BoolP (SameR (y k) r) wx.drew):=by rw [Array.append_empty];exact CS
      have HBX:Hid (Box wx w.heap.size #[.int .i64 r.kind,.int .i64 r.seq,.string r.name,.int .i64 r.length,.int .i64 r.group,.int .i64 r.row,.slice b6 r.rows.1 bk6,.slice b7 r.data.1 bk7,.slice b8 r.delta.1 bk8] 66):=XB;obtain ⟨cq,hcq⟩:∃ c:List Value,c = [.int .i64 r.kind,.int .i64 r.seq,.string r.name,.int .i64 r.length,.int .i64 r.group,.int .i64 r.row,.slice b6 r.rows.1 bk6,.slice b7 r.data.1 bk7,.slice b8 r.delta.1 bk8]:=⟨_,rfl⟩
      have hcl:cq.length = 9:=by rw [hcq];rfl
      rw [← hcq] at r2 CC;clear hcq
      have i1:(0:Int) ≤ (k:Int):=by omega
      have i2:(k:Int) < (m:Int):=by omega
      clear hcell hel XB hy CS HC HR
      go_upto_region 4 with fail
      refine wp_region_M 5 (fun w' => w'.rangeAt b (off + k * 9) ce ∧ w'.rangeAt w.heap.size 0 cq) mixedO ⟨r1,r2⟩ (fun hHeld => ?_);refine wpAnyM_pure (i:=0) (oi:=_) (v:=?_) rfl (by kernel_rfl) (fun _ _ _ h => h) (Or.inl ⟨by kernel_rfl,?_⟩) (by assumption) ?_
      rotate_left
      · intro w' hSw;go_simp;try with_reducible rfl
      try simp only [Act.put,SL]
      refine wpAnyM_pure (i:=1) (oi:=_) (v:=?_) rfl (by kernel_rfl) (fun _ _ _ h => h) (Or.inl ⟨by kernel_rfl,?_⟩) (by assumption) ?_
      rotate_left
      · intro w' hSw;go_simp;try with_reducible rfl
      try simp only [Act.put,SL]
      refine wpAnyM_pure (i:=2) (oi:=_) (v:=?_) rfl (by kernel_rfl) (fun _ _ _ h => h) (Or.inl ⟨by kernel_rfl,?_⟩) (by assumption) ?_
      rotate_left
      · intro w' hSw;go_simp;try with_reducible rfl
      try simp only [Act.put,SL]
      refine wpAnyM_take (i:=3) (oi:=_) (v:=.agg ce.toArray) 16 rfl (by kernel_rfl) (fun _ _ _ h => h) (yieldsIf_load_mid (by kernel_rfl) 66 (.tmp 14) rfl b (off + k * 9) (by simp [Act.eval,Act.put]) ce _ (fun w h => h.1) Tryz.underlying66 rfl (info_Rec9 hce)) (by assumption) ?_
      try simp only [Act.put,SL]
      refine wpAnyM_take (i:=4) (oi:=_) (v:=.agg cq.toArray) 16 rfl (by kernel_rfl) (fun _ _ _ h => h) (yieldsIf_load_mid (by kernel_rfl) 66 (.tmp 3) rfl w.heap.size (0) (by simp [Act.eval,Act.put]) cq _ (fun w h => h.2) Tryz.underlying66 rfl (info_Rec9 hcl)) (by assumption) ?_
      try simp only [Act.put,SL]
      refine wpAnyM_one (i:=5) (o:=_) rfl (by kernel_rfl) (by kernel_rfl) (fun KC hKC => ?_);refine step_callv (by kernel_rfl) (.func 87) 87 #[] _ _ rfl (by simp [Act.eval,Act.put]) #[.agg ce.toArray,.agg cq.toArray] (by simp [Act.eval,Act.put]) Tryz.func87 (by kernel_rfl) (by kernel_rfl) CC ?_;rintro ee w5 ⟨t,rfl,ht,b5⟩;refine ⟨_,rfl,?_⟩;refine hKC _ _ ?_;clear hKC KC
      try simp only [Act.put,SL]
      refine wpAnyM_done (by kernel_rfl) ?_ _;have b5':Below wx.heap.size wx w5:=bD.trans b5;have HO5:Hid (One w w5 #[.int .i64 r.kind,.int .i64 r.seq,.string r.name,.int .i64 r.length,.int .i64 r.group,.int .i64 r.row,.slice b6 r.rows.1 bk6,.slice b7 r.data.1 bk7,.slice b8 r.delta.1 bk8] 66):=⟨HBX.out.below b5' HBX.out.lt,hbl.trans (b5'.mono zx)⟩;have HT:Hid (t = true ↔ SameR (y k) r):=ht;clear b5 b5' ht bD r1 r2 CC HBX hHeld hbl HO
      cases t with
      | true =>
        go_wp2;go_ret;exact boolYes rfl ⟨k,hlt,HT.out.1 (by simp)⟩ HO5.out.bel
      | false =>
        go_wp2
        go_roundw
        case rel => exact ⟨k + 1,by omega,by go_num,fun t ht => by
                      by_cases c:t = k
                      · rw [c];intro hs;exact absurd (HT.out.2 hs) (by simp)
                      · exact HALL.out t (by omega),HO5.out⟩
        case measure => simp [intOf];omega
    · obtain rfl:k = m:=by omega
      clear hbl XB;go_wp2;go_ret;exact boolNo rfl (fun ⟨i,h1,h2⟩ => HALL.out i h1 h2) HO.out.bel
end Go.Proofs.YtfoidpcoiankoaaGreat
namespace Go.Proofs.YtfoidpcoiankoaaGreat
open Go.RowKit F256
set_option maxHeartbeats 8000000 in
set_option maxRecDepth 100000 in
theorem l6Ahead_any (a r:RecD) (ca cr:List Value) (hi hj:Nat) (w:World) (ha:layRec.rd w hi a ca) (hr:layRec.rd w hj r cr) :
    Calls Tryz.prog 51 #[.agg ca.toArray,.agg cr.toArray] w fun e w' => e = .returned (.bool (decide (numC a r < 0))) ∧ Below w.heap.size w w':=by
  obtain ⟨a6,ak6,a7,ak7,a8,ak8,rfl,-⟩:=Rec_rd ha;obtain ⟨b6,bk6,b7,bk7,b8,bk8,rfl,-⟩:=Rec_rd hr;have T0:=two_newb w #[.int .i64 a.kind,.int .i64 a.seq,.string a.name,.int .i64 a.length,.int .i64 a.group,.int .i64 a.row,.slice a6 a.rows.1 ak6,.slice a7 a.data.1 ak7,.slice a8 a.delta.1 ak8] #[.int .i64 r.kind,.int .i64 r.seq,.string r.name,.int .i64 r.length,.int .i64 r.group,.int .i64 r.row,.slice b6 r.rows.1 bk6,.slice b7 r.data.1 bk7,.slice b8 r.delta.1 bk8] 66 66;have HB0:Hid (Below w.heap.size w ((w.alloc (.cells #[.int .i64 a.kind,.int .i64 a.seq,.string a.name,.int .i64 a.length,.int .i64 a.group,.int .i64 a.row,.slice a6 a.rows.1 ak6,.slice a7 a.data.1 ak7,.slice a8 a.delta.1 ak8] 66)).alloc (.cells #[.int .i64 r.kind,.int .i64 r.seq,.string r.name,.int .i64 r.length,.int .i64 r.group,.int .i64 r.row,.slice b6 r.rows.1 bk6,.slice b7 r.data.1 bk7,.slice b8 r.delta.1 bk8] 66))):=T0.bel;have x0:((w.alloc (.cells #[.int .i64 a.kind,.int .i64 a.seq,.string a.name,.int .i64 a.length,.int .i64 a.group,.int .i64 a.row,.slice a6 a.rows.1 ak6,.slice a7 a.data.1 ak7,.slice a8 a.delta.1 ak8] 66)).alloc (.cells #[.int .i64 r.kind,.int .i64 r.seq,.string r.name,.int .i64 r.length,.int .i64 r.group,.int .i64 r.row,.slice b6 r.rows.1 bk6,.slice b7 r.data.1 bk7,.slice b8 r.delta.1 bk8] 66)).cell? ⟨w.heap.size,0,none⟩ = some (.int .i64 a.kind):=T0.b1.cell 0;have x1:((w.alloc (.cells #[.int .i64 a.kind,.int .i64 a.seq,.string a.name,.int .i64 a.length,.int .i64 a.group,.int .i64 a.row,.slice a6 a.rows.1 ak6,.slice a7 a.data.1 ak7,.slice a8 a.delta.1 ak8] 66)).alloc (.cells #[.int .i64 r.kind,.int .i64 r.seq,.string r.name,.int .i64 r.length,.int .i64 r.group,.int .i64 r.row,.slice b6 r.rows.1 bk6,.slice b7 r.data.1 bk7,.slice b8 r.delta.1 bk8] 66)).cell? ⟨w.heap.size,1,none⟩ = some (.int .i64 a.seq):=T0.b1.cell 1;have x4:((w.alloc (.cells #[.int .i64 a.kind,.int .i64 a.seq,.string a.name,.int .i64 a.length,.int .i64 a.group,.int .i64 a.row,.slice a6 a.rows.1 ak6,.slice a7 a.data.1 ak7,.slice a8 a.delta.1 ak8] 66)).alloc (.cells #[.int .i64 r.kind,.int .i64 r.seq,.string r.name,.int .i64 r.length,.int .i64 r.group,.int .i64 r.row,.slice b6 r.rows.1 bk6,.slice b7 r.data.1 bk7,.slice b8 r.delta.1 bk8] 66)).cell? ⟨w.heap.size,4,none⟩ = some (.int .i64 a.group):=T0.b1.cell 4;have y0:((w.alloc (.cells #[.int .i64 a.kind,.int .i64 a.seq,.string a.name,.int .i64 a.length,.int .i64 a.group,.int .i64 a.row,.slice a6 a.rows.1 ak6,.slice a7 a.data.1 ak7,.slice a8 a.delta.1 ak8] 66)).alloc (.cells #[.int .i64 r.kind,.int .i64 r.seq,.string r.name,.int .i64 r.length,.int .i64 r.group,.int .i64 r.row,.slice b6 r.rows.1 bk6,.slice b7 r.data.1 bk7,.slice b8 r.delta.1 bk8] 66)).cell? ⟨w.heap.size + 1,0,none⟩ = some (.int .i64 r.kind):=T0.b2.cell 0;have y1:((w.alloc (.cells #[.int .i64 a.kind,.int .i64 a.seq,.string a.name,.int .i64 a.length,.int .i64 a.group,.int .i64 a.row,.slice a6 a.rows.1 ak6,.slice a7 a.data.1 ak7,.slice a8 a.delta.1 ak8] 66)).alloc (.cells #[.int .i64 r.kind,.int .i64 r.seq,.string r.name,.int .i64 r.length,.int .i64 r.group,.int .i64 r.row,.slice b6 r.rows.1 bk6,.slice b7 r.data.1 bk7,.slice b8 r.delta.1 bk8] 66)).cell? ⟨w.heap.size + 1,1,none⟩ = some (.int .i64 r.seq):=T0.b2.cell 1
  have y4:((w.alloc (.cells #[.int .i64 a.kind,.int .i64 a.seq,.string a.name,.int .i64 a.length,.int .i64 a.group,.int .i64 a.row,.slice a6 a.rows.1 ak6,.slice a7 a.data.1 ak7,.slice a8 a.delta.1 ak8] 66)).alloc (.cells #[.int .i64 r.kind,.int .i64 r.seq,.string r.name,.int .i64 r.length,.int .i64 r.group,.int .i64 r.row,.slice b6 r.rows.1 bk6,.slice b7 r.data.1 bk7,.slice b8 r.delta.1 bk8] 66)).cell? ⟨w.heap.size + 1,4,none⟩ = some (.int .i64 r.group):=T0.b2.cell 4;clear T0 ha hr;have hN:=@numC_lt a r
  by_cases c1:a.seq = r.seq
  case neg =>
    have e1:(a.seq != r.seq) = true:=by simpa using c1
    have e9:decide (numC a r < 0) = decide (a.seq < r.seq):=decide_eq_decide.2 (by rw [hN];omega);rw [e9];clear hN e9
    go_enter Tryz.func51,Tryz.ntmps51
    go_wp2;go_ret;exact ⟨rfl,HB0.out⟩
  have e1:(a.seq != r.seq) = false:=by simpa using c1
  by_cases c2:a.kind = r.kind
  case neg =>
    have e2:(a.kind != r.kind) = true:=by simpa using c2
    have e9:decide (numC a r < 0) = decide (a.kind < r.kind):=decide_eq_decide.2 (by rw [hN];omega);rw [e9];clear hN e9 c1
    go_enter Tryz.func51,Tryz.ntmps51
    go_wp2;go_ret;exact ⟨rfl,HB0.out⟩
  have e2:(a.kind != r.kind) = false:=by simpa using c2
  have e9:decide (numC a r < 0) = decide (a.group < r.group):=decide_eq_decide.2 (by rw [hN];omega);rw [e9];clear hN e9 c1 c2
  go_enter Tryz.func51,Tryz.ntmps51
  go_wp2;go_ret;exact ⟨rfl,HB0.out⟩
end Go.Proofs.YtfoidpcoiankoaaGreat
namespace Go.Proofs.YtfoidpcoiankoaaGreat
open Go.RowKit F256
theorem range_below {w w':World} {B b o:Nat} {cs:List Value} (h:w.rangeAt b o cs) (hb:Below B w w') (hB:b < B):w'.rangeAt b o cs:=fun j v hv => (hb.cell (p:=⟨b,o + j,none⟩) hB).trans (h j v hv)
theorem Src.below {w w':World} {B hi:Nat} {ao:Option Addr} {m:Nat} {y:Nat → RecD} {cy:Nat → List Value} (h:Src layRec w hi ao m y cy) (hb:Below B w w') (hB:∀ b off,ao = some ⟨b,off,none⟩ → b < B) (hh:hi ≤ B):Src layRec w' hi ao m y cy :=
  ⟨fun h0 => by
    obtain ⟨b,off,e,hc⟩:=h.1 h0
    exact ⟨b,off,e,fun j hj k hk => (hb.cell (p:=⟨b,off + (j * layRec.sz + k),none⟩) (hB b off e)).trans (hc j hj k hk)⟩,fun j hj => layRec.rd_below (h.2 j hj) hb hh⟩
theorem ins_up {D U:World} {lo hi m:Nat} {ao:Option Addr} {c:Nat} {y:Nat → RecD} {cy:Nat → List Value} {v0:Value} {x':Nat → RecD} {ce:Nat → List Value} (hS:Src layRec D hi ao m y cy) (hz:ao = none → c = 0 ∨ m = 0) (hA:∀ b off,ao = some ⟨b,off,none⟩ → b < D.heap.size) (hb:Below D.heap.size D U) (hh:hi ≤ D.heap.size) (hm:m ≤ 1000000)
    (V:View layRec 66 U D.heap.size hi v0 0 x' ce):∃ v' w' ce',(Builtin.append_ #[54,54] 54 #[v0,.slice ao m c]).run Tryz.prog U = .ok v' w' ∧ View layRec 66 w' D.heap.size hi v' m y ce' ∧ Below D.heap.size U w':=by
  obtain ⟨v',w',hrun,V',_,b'⟩:=run_appendV el_Rec rdOne_rec 54 V c (hS.below hb hA hh) hb.size hh (by omega) hz;refine ⟨v',w',cat2 ce 0 cy,hrun,?_,b'⟩;rw [Nat.zero_add] at V';exact V'.congr (fun i hi => by unfold cat2;rw [if_neg (by omega)];rfl)
theorem View.weakL {w:World} {lo lo' hi n:Nat} {v:Value} {x:Nat → RecD} {ce:Nat → List Value} (h:View layRec 66 w lo hi v n x ce) (hl:lo' ≤ lo):View layRec 66 w lo' hi v n x ce:=⟨⟨h.row.1,by
  rcases h.row.2 with hn | ⟨g,cap,cur,rfl,hbg,rest⟩
  · exact .inl hn
  · exact .inr ⟨g,cap,cur,rfl,Nat.le_trans hl hbg,rest⟩⟩,h.each⟩
theorem ins_up4 {D U:World} {hi m g:Nat} {ao:Option Addr} {c:Nat} {y:Nat → RecD} {cy:Nat → List Value} {v0:Value} {x':Nat → RecD} {ce:Nat → List Value} {cR:List Value} (hS:Src layRec D hi ao m y cy) (hz:ao = none → c = 0 ∨ m = 0) (hA:∀ b off,ao = some ⟨b,off,none⟩ → b < D.heap.size) (hb:Below D.heap.size D U) (hh:hi ≤ D.heap.size) (hm:m ≤ 1000000)
    (V:View layRec 66 U D.heap.size hi v0 0 x' ce) (hX:Box U g cR.toArray 66) (hg:v0.ownBlock ≠ some g):∃ v' w' ce',(Builtin.append_ #[54,54] 54 #[v0,.slice ao m c]).run Tryz.prog U = .ok v' w' ∧ (View layRec 66 w' D.heap.size hi v' m y ce' ∧ Box w' g cR.toArray 66) ∧ Below D.heap.size U w':=by
  obtain ⟨v',w',hrun,V',hgr,b'⟩:=run_appendV el_Rec rdOne_rec 54 V c (hS.below hb hA hh) hb.size hh (by omega) hz;refine ⟨v',w',cat2 ce 0 cy,hrun,⟨?_,?_⟩,b'⟩
  · rw [Nat.zero_add] at V'
    exact V'.congr (fun i hi => by unfold cat2;rw [if_neg (by omega)];rfl)
  · exact (hgr.block g hX.lt (fun h => hg h.symm)).trans hX
theorem ins_one {D U:World} {hi m g:Nat} {v:Value} {x:Nat → RecD} {ce:Nat → List Value} {r:RecD} {cR:List Value} (hb:Below D.heap.size D U) (hh:hi ≤ D.heap.size) (hm:m ≤ 1000000) (V:View layRec 66 U D.heap.size hi v m x ce) (hX:Box U g cR.toArray 66) (hr:layRec.rd U hi r cR) :
    ∃ v' w' ce',(Builtin.append_ #[54,54] 54 #[v,.slice (some ⟨g,0,none⟩) 1 1]).run Tryz.prog U = .ok v' w' ∧ View layRec 66 w' D.heap.size hi v' (m + 1) (cat2 x m (fun _ => r)) ce' ∧ Below D.heap.size U w':=by
  obtain ⟨v',w',hrun,V',_,b'⟩:=run_appendV el_Rec rdOne_rec 54 V 1 (src_one (b:=g) (hi:=hi) (y:=r) (cs:=cR) (fun j hj => by rw [hX.cell j];simp) hr) hb.size hh (by omega) (fun h => by cases h);exact ⟨v',w',_,hrun,V',b'⟩
theorem ins_rest {D U:World} {hi m k:Nat} {ao:Option Addr} {c:Nat} {y:Nat → RecD} {cy:Nat → List Value} {v:Value} {x:Nat → RecD} {ce:Nat → List Value} (hS:Src layRec D hi ao k y cy) (hz:ao = none → c = 0 ∨ k = 0) (hA:∀ b off,ao = some ⟨b,off,none⟩ → b < D.heap.size) (hb:Below D.heap.size D U) (hh:hi ≤ D.heap.size) (hm:m + k ≤ 2000000)
    (V:View layRec 66 U D.heap.size hi v m x ce):∃ v' w' ce',(Builtin.append_ #[54,54] 54 #[v,.slice ao k c]).run Tryz.prog U = .ok v' w' ∧ View layRec 66 w' D.heap.size hi v' (m + k) (cat2 x m y) ce' ∧ Below D.heap.size U w':=by
  obtain ⟨v',w',hrun,V',_,b'⟩:=run_appendV el_Rec rdOne_rec 54 V c (hS.below hb hA hh) hb.size hh (by omega) hz;exact ⟨v',w',_,hrun,V',b'⟩
theorem ins_len (l:List Nat) (M at_:Nat) (h:at_ ≤ l.length):(l.take at_ ++ M :: l.drop at_).length = at_ + 1 + (l.length - at_):=by
  rw [List.length_append,List.length_cons,List.length_take,List.length_drop];omega
theorem ins_getD (x0:Nat → RecD) (l:List Nat) (M at_:Nat) (h:at_ ≤ l.length) (i:Nat):cat2 (cat2 (fun i => x0 (l.getD i 0)) at_ (fun _ => x0 M)) (at_ + 1) (fun j => x0 (l.getD (at_ + j) 0)) i = x0 ((l.take at_ ++ M :: l.drop at_).getD i 0):=by
  have hl:(l.take at_).length = at_:=by rw [List.length_take];omega
  by_cases c1:i < at_
  · rw [cat2_lt _ _ (by omega),cat2_lt _ _ c1]
    congr 1
    rw [List.getD_eq_getElem?_getD,List.getD_eq_getElem?_getD,List.getElem?_append_left (by omega),List.getElem?_take,if_pos c1]
  · by_cases c2:i = at_
    · subst c2
      have e:=cat2_ge (fun i => x0 (l.getD i 0)) i (fun _ => x0 M) 0;rw [Nat.add_zero] at e;rw [cat2_lt _ _ (by omega),e]
      congr 1
      rw [List.getD_eq_getElem?_getD,List.getElem?_append_right (by omega),hl]
      simp
    · obtain ⟨j,rfl⟩:∃ j,i = at_ + 1 + j:=⟨i - (at_ + 1),by omega⟩
      rw [cat2_ge]
      congr 1
      rw [List.getD_eq_getElem?_getD,List.getD_eq_getElem?_getD,List.getElem?_append_right (by omega),hl,show at_ + 1 + j - at_ = j + 1 by omega,List.getElem?_cons_succ,List.getElem?_drop]
end Go.Proofs.YtfoidpcoiankoaaGreat
namespace Go.Proofs.YtfoidpcoiankoaaGreat
open Go.RowKit F256
theorem recT_at (tp:Nat → TapeD) {T i:Nat} (hT:T < 2) (hi:i < (tp T).recs.1):recT tp 2 (lenT tp T + i) = (tp T).recs.2 i:=by
  have:T = 0 ∨ T = 1:=by omega
  rcases this with rfl | rfl
  · have h1:recT tp 2 (lenT tp 0 + i) = recT tp 1 (lenT tp 0 + i):=cat2_lt _ _ (by show lenT tp 0 + i < lenT tp 0 + (tp 0).recs.1;omega)
    rw [h1];exact cat2_ge _ _ _ _
  · exact cat2_ge _ _ _ _
theorem wrapPred {k:Nat} (h:k + 1 < 1000000000):IntKind.i64.wrap (((k + 1:Nat):Int) - 1) = (k:Int):=by rw [IntKind.wrap_i64];omega
set_option maxHeartbeats 8000000 in
set_option maxRecDepth 100000 in
theorem l6Counted_any (d:WorldD) (cs:List Value) (hi B:Nat) (w:World) (h:layWorld.rd w hi d cs) (hhi:hi ≤ w.heap.size) (hBX:Box w B cs.toArray 37) (h2:d.tapes.1 = 2) (hn0:(d.tapes.2 0).recs.1 ≤ 400000) (hn1:(d.tapes.2 1).recs.1 ≤ 400000) :
    Calls Tryz.prog 22 #[.pointer (some ⟨B,0,none⟩)] w (fun e w' => ∃ v' l ce lo,e = .returned v' ∧ Cnt (recT d.tapes.2 2) (lenT d.tapes.2 2) l ∧ w.heap.size ≤ lo ∧ View layRec 66 w' lo hi v' l.length (fun i => recT d.tapes.2 2 (l.getD i 0)) ce ∧ Below w.heap.size w w'):=by
  obtain ⟨ao1,cap1,ao2,cap2,ao3,cap3,rfl,g1,g2,g3,k0,k4,k5⟩:=World_rd h;obtain ⟨ao3',cap3',e,hmm,hc⟩:=g3
  simp only [List.cons.injEq,Value.slice.injEq,true_and,and_true] at e
  obtain ⟨rfl,rfl⟩:=e;obtain ⟨tb,toff,rfl,hbh,hel⟩:=hc (by rw [h2];simp);rw [h2] at hel;have HEL:Hid (∀ i,i < 2 → ∃ ce,layTape.rd w hi (d.tapes.2 i) ce ∧ ∀ j,j < layTape.sz → w.cell? ⟨tb,toff + (i * layTape.sz + j),none⟩ = ce[j]?):=hel;have hBlt:=hBX.lt
  have HBX:Hid (w.cell? ⟨B,11,none⟩ = some (.slice (some ⟨tb,toff,none⟩) 2 cap3)):=by have:=hBX.cell 11;rw [h2] at this;exact this
  obtain ⟨tp,htp⟩:∃ t,t = d.tapes.2:=⟨_,rfl⟩;rw [← htp] at HEL hn0 hn1 ⊢;clear h hc hmm g1 g2 k0 k4 k5 hel h2 hBX htp;obtain ⟨x0,hx0⟩:∃ x,x = recT tp 2:=⟨_,rfl⟩;have HX0:Hid (x0 = recT tp 2):=hx0;rw [← hx0];clear hx0;have bL:Below w.heap.size w (w.alloc (.cells #[] 66)):=(Below.refl _ _).alloc (Nat.le_refl _) _;have V0:=View.lit0 (E:=layRec) (t:=66) (fun i => x0 (([]:List Nat).getD i 0)) (fun _ => []) w hi;have HL:Hid (lenT tp 0 = 0 ∧ lenT tp 1 = (tp 0).recs.1 ∧ lenT tp 2 = (tp 0).recs.1 + (tp 1).recs.1):=⟨rfl,by simp [lenT],by simp [lenT]⟩
  go_enter Tryz.func22,Tryz.ntmps22
  go_wp2
  go_loopw [3,4] (fun vo vt wr => ∃ (T lo:Nat) (l:List Nat) (co:Nat → List Value),T ≤ 2 ∧ vt = .int .i64 T ∧ w.heap.size ≤ lo ∧ lo ≤ wr.heap.size ∧ Cnt x0 (lenT tp T) l ∧ l.length ≤ lenT tp T ∧ View layRec 66 wr lo hi vo l.length (fun i => x0 (l.getD i 0)) co ∧ Below w.heap.size w wr) (fun _ i _ => 2 - (intOf i).toNat)
  case atStart => exact ⟨0,w.heap.size,[],fun _ => [],by omega,rfl,Nat.le_refl _,bL.size,Cnt.nil x0,Nat.zero_le _,V0,bL⟩
  case round =>
    obtain ⟨T,lo,l,co,hT,rfl,hlo,hlow,hCt,hLl,V,bw⟩:=hrel;have HCt:Hid (Cnt x0 (lenT tp T) l):=hCt;have HV:Hid (View layRec 66 wr lo hi u3 l.length (fun i => x0 (l.getD i 0)) co):=V;have HBW:Hid (Below w.heap.size w wr):=bw;clear bL V0 hCt
    by_cases hlt:T < 2
    · obtain ⟨m,hm⟩:∃ m,m = (tp T).recs.1:=⟨_,rfl⟩
      have HM:Hid (m = (tp T).recs.1):=hm
      have hmb:m ≤ 400000 ∧ lenT tp T ≤ 400000:=by
        have:T = 0 ∨ T = 1:=by omega
        have h3:=HL.out
        rcases this with rfl | rfl <;> omega
      have HLS:Hid (lenT tp (T + 1) = lenT tp T + m):=by rw [hm];exact rfl
      have HW0:Hid (∀ w',Below w.heap.size w w' → ∃ rb cap1,w'.cell? ⟨tb,toff + T * 2 + 1,none⟩ = some (.slice rb m cap1) ∧ (layRec.slice 66).rd w' hi (m,(tp T).recs.2) [.slice rb m cap1]):=fun w' hb => by
        obtain ⟨ct,hy,hcell⟩:=elem_rd (t:=87) HEL.out hb hhi hbh hlt;obtain ⟨aoT,capT,rfl,hrs⟩:=Tape_rd hy;exact ⟨aoT,capT,by have:=hcell 1 (by decide);rw [hm];exact this,by rw [hm];exact hrs⟩
      obtain ⟨L0,hL0⟩:∃ n,n = lenT tp T:=⟨_,rfl⟩;have HL0:Hid (L0 = lenT tp T):=hL0;rw [← hL0] at HCt hLl HLS hmb
      have t1:(T:Int) < 2:=by omega
      have t0:(0:Int) ≤ (T:Int):=by omega
      clear hm bw V hL0 HEL;go_wp2
      go_loopw [3,5] (fun vo vi wr => ∃ (i lo:Nat) (l:List Nat) (co:Nat → List Value),i ≤ m ∧ vi = .int .i64 i ∧ w.heap.size ≤ lo ∧ lo ≤ wr.heap.size ∧ Cnt x0 (L0 + i) l ∧ l.length ≤ L0 + i ∧ View layRec 66 wr lo hi vo l.length (fun i => x0 (l.getD i 0)) co ∧ Below w.heap.size w wr) (fun _ i _ => m - (intOf i).toNat)
      case atStart => exact ⟨0,lo,l,co,Nat.zero_le _,rfl,hlo,hlow,HCt.out,hLl,HV.out,HBW.out⟩
      case round =>
        clear HCt HV HBW hLl hlow hlo co lo l;obtain ⟨i,lo,l,co,hi',rfl,hlo,hlow,hCt,hLl,V,bw⟩:=hrel;obtain ⟨wi,rfl⟩:∃ y,y = wr:=⟨_,rfl⟩;obtain ⟨n,hn⟩:∃ n,n = l.length:=⟨_,rfl⟩;have HN:Hid (n = l.length):=hn;rw [← hn] at V hLl;have HCt:Hid (Cnt x0 (L0 + i) l):=hCt;obtain ⟨ao,cap,hvo⟩:=V.form;subst hvo;have HV:Hid (View layRec 66 wi lo hi (.slice ao n cap) n (fun i => x0 (l.getD i 0)) co):=V;have HBW:Hid (Below w.heap.size w wi):=bw;have zr:w.heap.size ≤ wi.heap.size:=bw.size;have xB:wi.cell? ⟨B,11,none⟩ = some (.slice (some ⟨tb,toff,none⟩) 2 cap3):=(bw.cell (p:=⟨B,11,none⟩) hBlt).trans HBX.out;obtain ⟨rb,capT,xT,hrs⟩:=HW0.out wi bw;clear hCt hn V bw
        by_cases hlt2:i < m
        · obtain ⟨cy,hS,-⟩:=src_of hrs
          obtain ⟨b,off,hrb,hcell⟩:=hS.1 (by omega);subst hrb;have rdR:=hS.2 i hlt2;have hcR:(cy i).length = 9:=layRec.rd_len rdR
          have rgR:wi.rangeAt b (off + i * 9) (cy i):=fun j v hv => by
            have hj:j < 9:=by rw [← hcR];exact (List.getElem?_eq_some_iff.1 hv).1
            have:=hcell i hlt2 j hj;rw [show off + (i * layRec.sz + j) = off + i * 9 + j from (Nat.add_assoc _ _ _).symm] at this;exact this.trans hv
          obtain ⟨cR,hcRe⟩:∃ c,c = cy i:=⟨_,rfl⟩;rw [← hcRe] at rgR hcR rdR
          have hxr:(tp T).recs.2 i = x0 (L0 + i):=by rw [HX0.out,HL0.out];exact (recT_at tp hlt (by rw [← HM.out];exact hlt2)).symm
          rw [hxr] at rdR;obtain ⟨M,hM⟩:∃ M,M = L0 + i:=⟨_,rfl⟩;have HMM:Hid (M = L0 + i):=hM;rw [← hM] at rdR HCt;have oneR:∀ v,v ∈ cR → v.oneCell' = true:=rdOne_rec _ _ _ _ rdR
          have i1:(0:Int) ≤ (i:Int):=by omega
          have i2:(i:Int) < (m:Int):=by omega
          have bA:Below wi.heap.size wi (wi.alloc (.cells cR.toArray 66)):=(Below.refl _ _).alloc (Nat.le_refl _) _;have XA:Box (wi.alloc (.cells cR.toArray 66)) wi.heap.size cR.toArray 66:=box_new _ _ _;have rdW:layRec.rd (wi.alloc (.cells cR.toArray 66)) hi (x0 M) cR:=layRec.rd_below rdR bA (by omega);clear hrs hS hcell hcRe hxr rdR hM
          go_upto_region 9 with (first | (refine wpList_load_mid rfl 66 (.tmp 35) rfl b (off + i * 9) (by simp [Act.eval]) cR _ rgR Tryz.underlying66 rfl (info_Rec9 hcR) ?_) | (refine wp_allocStore 66 6 (.tmp 36) cR _ 9 rfl rfl rfl rfl rfl rfl rfl rfl info_RecZ rfl hcR oneR ?_))
          obtain ⟨W,hW⟩:∃ x,x = wi.alloc (.cells cR.toArray 66):=⟨_,rfl⟩;rw [← hW] at bA XA rdW ⊢;clear hW rgR xB xT;have VW:=HV.out.below bA (by omega);have zW':wi.heap.size < W.heap.size:=XA.lt;have CH:=l6Holds_any (.slice ao n cap) n (fun i => x0 (l.getD i 0)) (x0 M) cR W.heap.size W (VW.rd (by omega)) (layRec.rd_mono rdW (by omega)) (Nat.le_refl _) (by omega);have HXW:Hid (Box W wi.heap.size cR.toArray 66):=XA;have HVW:Hid (View layRec 66 W lo hi (.slice ao n cap) n (fun i => x0 (l.getD i 0)) co):=VW;have HRW:Hid (layRec.rd W hi (x0 M) cR):=rdW;have HBW2:Hid (Below w.heap.size w W):=HBW.out.trans (bA.mono zr);clear VW XA rdW bA HV HBW
          go_wp2_with (refine wp_loadBox 66 (.tmp 6) rfl rfl (wi.heap.size) rfl (cs:=cR) HXW.out Tryz.underlying66 size_Rec hcR ?_)
          refine CH.mono ?_;rintro ee w5 ⟨t,rfl,ht,b5⟩;have z5:W.heap.size ≤ w5.heap.size:=b5.size;have HV5:Hid (View layRec 66 w5 lo hi (.slice ao n cap) n (fun i => x0 (l.getD i 0)) co):=HVW.out.below b5 (by omega);have HX5:Hid (Box w5 wi.heap.size cR.toArray 66):=HXW.out.below b5 zW';have HR5:Hid (layRec.rd w5 hi (x0 M) cR):=layRec.rd_below HRW.out b5 (by omega);have HB5:Hid (Below w.heap.size w w5):=HBW2.out.trans (b5.mono (by omega))
          have HT:Hid (t = true ↔ ¬ Fst x0 M):=by
            show t = true ↔ ¬ Fst x0 M
            rw [ht,← HCt.out.has,HN.out];have:=(mem_drop_getD (l:=l) (al:=0) (P:=fun o => SameR (x0 o) (x0 M))).symm
            simpa using this
          clear ht b5 CH HVW HXW HRW HBW2
          cases t with
          | true =>
            go_wp2
            go_roundw
            case rel => exact ⟨i + 1,lo,l,co,by omega,by go_num,hlo,by omega,by rw [← Nat.add_assoc,← HMM.out];exact HCt.out.skip (HT.out.1 (by simp)),by rw [← HN.out];omega,by rw [← HN.out];exact HV5.out,HB5.out⟩
            case measure => simp [intOf];omega
          | false =>
            have HF:Hid (Fst x0 M):=Classical.byContradiction fun h => absurd (HT.out.2 h) (by simp);clear HT;go_wp2
            go_loopw [7] (fun va wx => ∃ at_:Nat,at_ ≤ n ∧ va = .int .i64 at_ ∧ (∀ k,at_ ≤ k → k < n → numC (x0 M) (x0 (l.getD k 0)) < 0) ∧ Below w5.heap.size w5 wx) (fun va _ => (intOf va).toNat)
            case atStart => exact ⟨n,Nat.le_refl _,by go_num,fun k h1 h2 => by omega,Below.refl _ _⟩
            case round =>
              obtain ⟨at_,hat,rfl,hbeh,bx⟩:=hrel;obtain ⟨wx,rfl⟩:∃ y,y = wr:=⟨_,rfl⟩;have HBE:Hid (∀ k,at_ ≤ k → k < n → numC (x0 M) (x0 (l.getD k 0)) < 0):=hbeh;have zx:w5.heap.size ≤ wx.heap.size:=bx.size;have HVx:Hid (View layRec 66 wx lo hi (.slice ao n cap) n (fun i => x0 (l.getD i 0)) co):=HV5.out.below bx (by omega);have HXx:Hid (Box wx wi.heap.size cR.toArray 66):=HX5.out.below bx (by omega);have HRx:Hid (layRec.rd wx hi (x0 M) cR):=layRec.rd_below HR5.out bx (by omega);have HBx:Hid (Below w.heap.size w wx):=HB5.out.trans (bx.mono (by omega));have HB5x:Hid (Below w5.heap.size w5 wx):=bx;have bD:Below wx.heap.size wx wx.drew:=⟨rfl,rfl,rfl,Nat.le_refl _,fun _ _ => rfl⟩;clear hbeh bx
              by_cases hat0:at_ = 0
              · have d1:decide (0 < at_) = false:=decide_eq_false (by omega)
                have d2:decide ((0:Int) < (at_:Int)) = false:=decide_eq_false (by omega);have HS:Hid (at_ = 0 ∨ ¬ numC (x0 M) (x0 (l.getD (at_ - 1) 0)) < 0):=.inl hat0;clear hat0
                go_upto_region 11 with fail
                refine wp_region_M 9 (fun w' => True) mixedO trivial (fun hHeld => ?_);refine wpAnyM_pure (i:=0) (oi:=_) (v:=?_) rfl (by kernel_rfl) (fun _ _ _ h => h) (Or.inl ⟨by kernel_rfl,?_⟩) (by assumption) ?_
                rotate_left
                · intro w' hSw;go_simp;try with_reducible rfl
                try simp only [Act.put,SL]
                refine wpAnyM_pure (i:=1) (oi:=_) (v:=?_) rfl (by kernel_rfl) (fun _ _ _ h => h) (Or.inl ⟨by kernel_rfl,?_⟩) (by assumption) ?_
                rotate_left
                · intro w' hSw;go_simp;try with_reducible rfl
                try simp only [Act.put,SL]
                try rw [d1]
                refine wpAnyM_pure (i:=2) (oi:=_) (v:=?_) rfl (by kernel_rfl) (fun _ _ _ h => h) (Or.inl ⟨by kernel_rfl,?_⟩) (by assumption) ?_
                rotate_left
                · intro w' hSw;go_simp;try with_reducible rfl
                try simp only [Act.put,SL]
                refine wpAnyM_pure (i:=3) (oi:=_) (v:=undef) rfl (by kernel_rfl) (fun _ _ _ h => h) (Or.inr ⟨by kernel_rfl,rfl⟩) (by assumption) ?_
                try simp only [Act.put,SL]
                refine wpAnyM_pure (i:=4) (oi:=_) (v:=undef) rfl (by kernel_rfl) (fun _ _ _ h => h) (Or.inr ⟨by kernel_rfl,rfl⟩) (by assumption) ?_
                try simp only [Act.put,SL]
                refine wpAnyM_pure (i:=5) (oi:=_) (v:=undef) rfl (by kernel_rfl) (fun _ _ _ h => h) (Or.inr ⟨by kernel_rfl,rfl⟩) (by assumption) ?_
                try simp only [Act.put,SL]
                refine wpAnyM_pure (i:=6) (oi:=_) (v:=undef) rfl (by kernel_rfl) (fun _ _ _ h => h) (Or.inr ⟨by kernel_rfl,rfl⟩) (by assumption) ?_
                try simp only [Act.put,SL]
                refine wpAnyM_pure (i:=7) (oi:=_) (v:=undef) rfl (by kernel_rfl) (fun _ _ _ h => h) (Or.inr ⟨by kernel_rfl,rfl⟩) (by assumption) ?_
                try simp only [Act.put,SL]
                refine wpAnyM_pure (i:=8) (oi:=_) (v:=undef) rfl (by kernel_rfl) (fun _ _ _ h => h) (Or.inr ⟨by kernel_rfl,rfl⟩) (by assumption) ?_
                try simp only [Act.put,SL]
                refine wpAnyM_one (i:=9) (o:=_) rfl (by kernel_rfl) (by kernel_rfl) (fun KC hKC => ?_);refine if_no (by kernel_rfl) (hKC _ _ ?_);clear hKC KC
                try simp only [Act.put,SL]
                refine wpAnyM_pureL (i:=10) (oi:=_) (v:=?_) rfl (by kernel_rfl) (fun _ _ _ h => h) (Or.inl ⟨by kernel_rfl,?_⟩) ?_
                rotate_left
                · intro w' hSw;go_simp;try with_reducible rfl
                try simp only [Act.put,SL]
                refine wpAnyM_done (by kernel_rfl) ?_ _;obtain ⟨w9,hw9⟩:∃ x,x = wx.drew:=⟨_,rfl⟩;rw [← hw9] at bD ⊢;have b9:Below wx.heap.size wx w9:=bD;clear bD hw9 hHeld d1 d2;have z9:wx.heap.size ≤ w9.heap.size:=b9.size;have V9:=(HVx.out.below b9 (by omega)).drew;have b9':Below wx.heap.size wx w9.drew:=b9.trans (show Below wx.heap.size w9 w9.drew from ⟨rfl,rfl,rfl,Nat.le_refl _,fun _ _ => rfl⟩);have X9:Box w9.drew wi.heap.size cR.toArray 66:=HXx.out.below b9' (by omega);have R9:layRec.rd w9.drew hi (x0 M) cR:=layRec.rd_below HRx.out b9' (by omega);have B9:Below w.heap.size w w9.drew:=HBx.out.trans (b9'.mono (by omega))
                have rg9:w9.drew.rangeAt wi.heap.size 0 cR:=fun j v hv => by
                  have:=(X9.cell j).trans (by simpa using hv);rw [Nat.zero_add];exact this
                obtain ⟨D,hD⟩:∃ D,D = w9.drew:=⟨_,rfl⟩;have HD:Hid (D = w9.drew):=hD;rw [← hD] at V9 X9 R9 B9 rg9
                have zD:w9.heap.size = D.heap.size:=by rw [hD];rfl
                clear hD b9 b9';obtain ⟨aU,cU,hUr,sU,hUz⟩:=V9.upto_ (show hi ≤ D.heap.size by omega) (al:=at_) hat;obtain ⟨aF,cF,hFr,sF,rF,hFz⟩:=V9.from_ (show hi ≤ D.heap.size by omega) (al:=at_) hat
                have hAU:∀ b off,aU = some ⟨b,off,none⟩ → b < D.heap.size:=fun b off e => by
                  rcases V9.form2 with ⟨e3,e4⟩ | ⟨g,cp,e3,e4,hg⟩
                  · have hz:at_ = 0:=by omega
                    have:=hUr D;rw [e3,hz,run_upto0 D] at this
                    simp only [Result.ok.injEq,Value.slice.injEq,and_true] at this
                    rw [← this.1] at e
                    cases e
                  · have:=hUr D
                    rw [e3,run_upto9 g n cp at_ hat e4 D] at this
                    simp only [Result.ok.injEq,Value.slice.injEq,and_true] at this
                    rw [← this.1] at e
                    cases e
                    exact hg
                have hAF:∀ b off,aF = some ⟨b,off,none⟩ → b < D.heap.size:=fun b off e => by
                  rcases V9.form2 with ⟨e3,e4⟩ | ⟨g,cp,e3,e4,hg⟩
                  · have hz:at_ = 0:=by omega
                    have:=hFr D;rw [e3,hz,run_from0 D] at this
                    simp only [Result.ok.injEq,Value.slice.injEq,and_true] at this
                    rw [← this.1] at e
                    cases e
                  · have:=hFr D
                    rw [e3,run_from9 g n cp at_ hat D] at this
                    simp only [Result.ok.injEq,Value.slice.injEq,and_true] at this
                    rw [← this.1] at e
                    split at e <;> cases e <;> exact hg
                have hiD:hi ≤ D.heap.size:=by omega
                have hpD:wi.heap.size < D.heap.size:=X9.lt
                have hatL:at_ ≤ l.length:=by rw [← HN.out];exact hat
                have HCN:Hid (Cnt x0 (M + 1) (l.take at_ ++ M :: l.drop at_)):=HCt.out.ins HF.out at_ hatL (fun k h1 h2 => HBE.out k h1 (by rw [HN.out];exact h2)) HS.out;have HRd:Hid (layRec.rd D hi (x0 M) cR):=R9;have HBD:Hid (Below w.heap.size w D):=B9;have HUS:Hid (Src layRec D hi aU at_ (fun i => x0 (l.getD i 0)) co):=sU;have HFS:Hid (Src layRec D hi aF (n - at_) (fun j => x0 (l.getD (at_ + j) 0)) (fun j => co (at_ + j))):=sF;clear V9 X9 R9 B9 sU sF rF
                go_upto_region 13 with fail
                refine wp_region_M 7 (fun w' => w'.rangeAt wi.heap.size 0 cR) mixedO (by rw [← HD.out];exact rg9) (fun hHeld => ?_);rw [← HD.out] at hHeld ⊢;refine wpAnyM_pure (i:=1) (oi:=_) (v:=?_) rfl (by kernel_rfl) (fun _ _ _ h => h) (Or.inl ⟨by kernel_rfl,?_⟩) (by assumption) ?_
                rotate_left
                · intro w' hSw;go_simp;try with_reducible rfl
                try simp only [Act.put,SL]
                refine wpAnyM_pure (i:=2) (oi:=_) (v:=?_) rfl (by kernel_rfl) (fun _ _ _ h => h) (Or.inl ⟨by kernel_rfl,?_⟩) (by assumption) ?_
                rotate_left
                · intro w' hSw;go_simp;try with_reducible rfl
                try simp only [Act.put,SL]
                refine wpAnyM_pure (i:=3) (oi:=_) (v:=?_) rfl (by kernel_rfl) (fun _ _ _ h => h) (Or.inl ⟨by kernel_rfl,?_⟩) (by assumption) ?_
                rotate_left
                · intro w' hSw
                  try rw [show (Instr.slice 54 (.slice ao n cap) none (some (.int .i64 (at_:Int))) none).run Tryz.prog w' = _ from hUr w']
                  have hSl':=hUr w';go_simp
                  try with_reducible rfl
                try simp only [Act.put,SL]
                refine wpAnyM_take (i:=5) (oi:=_) (v:=.agg cR.toArray) 16 rfl (by kernel_rfl) (fun _ _ _ h => h) (yieldsIf_load_mid (by kernel_rfl) 66 (.tmp 6) rfl wi.heap.size (0) (by simp [Act.eval,Act.put]) cR _ (fun w h => h) Tryz.underlying66 rfl (info_Rec9 hcR)) (by assumption) ?_
                try simp only [Act.put,SL]
                refine wpAnyM_pure (i:=8) (oi:=_) (v:=?_) rfl (by kernel_rfl) (fun _ _ _ h => h) (Or.inl ⟨by kernel_rfl,?_⟩) (by assumption) ?_
                rotate_left
                · intro w' hSw;go_simp;try with_reducible rfl
                try simp only [Act.put,SL]
                refine wpAnyM_pure (i:=9) (oi:=_) (v:=?_) rfl (by kernel_rfl) (fun _ _ _ h => h) (Or.inl ⟨by kernel_rfl,?_⟩) (by assumption) ?_
                rotate_left
                · intro w' hSw;go_simp;try with_reducible rfl
                try simp only [Act.put,SL]
                refine wpAnyM_pure (i:=10) (oi:=_) (v:=?_) rfl (by kernel_rfl) (fun _ _ _ h => h) (Or.inl ⟨by kernel_rfl,?_⟩) (by assumption) ?_
                rotate_left
                · intro w' hSw
                  try rw [show (Instr.slice 54 (.slice ao n cap) (some (.int .i64 (at_:Int))) none none).run Tryz.prog w' = _ from hFr w']
                  have hSl':=hFr w';go_simp
                  try with_reducible rfl
                try simp only [Act.put,SL]
                refine wpAnyM_twoS (i:=0) (j:=6) (o:=_) (o':=_) rfl rfl (by kernel_rfl) (fun KC hKC => ?_) (fun KC hKC => ?_)
                · refine step_build0 rfl rfl ?_
                  have bA:Below D.heap.size D (D.alloc (.cells #[] 66)):=(Below.refl _ _).alloc (Nat.le_refl _) _;refine hKC _ _ (range_below rg9 bA hpD) ?_;clear hKC KC
                  try simp only [Act.put,SL]
                  have VL:=View.lit0 (E:=layRec) (t:=66) (fun i => x0 (l.getD i 0)) co D hi;have zA1:D.heap.size < (D.alloc (.cells #[] 66)).heap.size:=(box_new D #[] 66).lt;obtain ⟨D1,hD1⟩:∃ x,x = D.alloc (.cells #[] 66):=⟨_,rfl⟩;rw [← hD1] at bA VL zA1 ⊢;clear hD1;refine wpAnyM_twoS (i:=4) (j:=6) (o:=_) (o':=_) rfl rfl (by kernel_rfl) (fun KC hKC => ?_) (fun KC hKC => ?_)
                  · skip
                    obtain ⟨v4,w4,cv4,runv4,V4,bw4⟩:=ins_up (lo:=lo) HUS.out hUz hAU bA hiD (by omega) VL;refine step_run2 rfl (.tmp 55) (.tmp 58) rfl (by simp [Act.eval,Act.put]) (by simp [Act.eval,Act.put]) runv4 ?_;have b4D:=bA.trans bw4;refine hKC _ _ (range_below rg9 b4D hpD) ?_;clear hKC KC
                    try simp only [Act.put,SL]
                    refine wpAnyM_oneS (i:=6) (o:=_) rfl (by kernel_rfl) (fun KC hKC => ?_);refine step_build1R rfl (.tmp 60) rfl HRd.out (by simp [Act.eval,Act.put]) ?_;have b6:Below w4.heap.size w4 (w4.alloc (.cells cR.toArray 66)):=(Below.refl _ _).alloc (Nat.le_refl _) _;have b6D:=b4D.trans (b6.mono b4D.size);refine hKC _ _ (range_below rg9 b6D hpD) ?_;clear hKC KC
                    try simp only [Act.put,SL]
                    have V6:=V4.below b6 (by have:=b4D.size;omega);have X6:Box (w4.alloc (.cells cR.toArray 66)) w4.heap.size cR.toArray 66:=box_new _ _ _;obtain ⟨v7,w7,cv7,runv7,V7,bw7⟩:=ins_one b6D hiD (by omega) V6 X6 (layRec.rd_below HRd.out b6D hiD);refine wpAnyM_one (i:=7) (o:=_) rfl (by kernel_rfl) (by kernel_rfl) (fun KC hKC => ?_);refine step_run2 rfl (.tmp 59) (.tmp 61) rfl (by simp [Act.eval,Act.put]) (by simp [Act.eval,Act.put]) runv7 ?_;refine hKC _ _ ?_;clear hKC KC
                    try simp only [Act.put,SL]
                    have b7D:=b6D.trans bw7;obtain ⟨v8,w8,cv8,runv8,V8,bw8⟩:=ins_rest HFS.out hFz hAF b7D hiD (by omega) V7;refine wpAnyM_one (i:=11) (o:=_) rfl (by kernel_rfl) (by kernel_rfl) (fun KC hKC => ?_);refine step_run2 rfl (.tmp 62) (.tmp 65) rfl (by simp [Act.eval,Act.put]) (by simp [Act.eval,Act.put]) runv8 ?_;refine hKC _ _ ?_;clear hKC KC
                    try simp only [Act.put,SL]
                    refine wpAnyM_pureL (i:=12) (oi:=_) (v:=?_) rfl (by kernel_rfl) (fun _ _ _ h => h) (Or.inl ⟨by kernel_rfl,?_⟩) ?_
                    rotate_left
                    · intro w' hSw;go_simp;try with_reducible rfl
                    try simp only [Act.put,SL]
                    refine wpAnyM_done (by kernel_rfl) ?_ _
                    have HV8:Hid (View layRec 66 w8 D.heap.size hi v8 (l.take at_ ++ M :: l.drop at_).length (fun i => x0 ((l.take at_ ++ M :: l.drop at_).getD i 0)) cv8):=by
                      show View _ _ _ _ _ _ _ _ _
                      rw [ins_len l M at_ hatL,← HN.out];exact V8.congr (fun i _ => ins_getD x0 l M at_ hatL i)
                    have HB8:Hid (Below w.heap.size w w8):=HBD.out.trans ((b7D.trans bw8).mono (by omega));have z8:D.heap.size ≤ w8.heap.size:=(b7D.trans bw8).size
                    have HLn:Hid ((l.take at_ ++ M :: l.drop at_).length ≤ L0 + (i + 1)):=by
                      show (l.take at_ ++ M :: l.drop at_).length ≤ L0 + (i + 1)
                      rw [ins_len l M at_ hatL,← HN.out];omega
                    clear V8 V7 bw7 bw8 b7D hHeld runv7 runv8 hUr hFr hUz hFz hAU hAF rg9 HUS HFS HRd HBD;go_wp2
                    go_roundw
                    case rel => exact ⟨i + 1,D.heap.size,l.take at_ ++ M :: l.drop at_,cv8,by omega,by go_num,by omega,z8,by rw [← Nat.add_assoc,← HMM.out];exact HCN.out,HLn.out,HV8.out,HB8.out⟩
                    case measure => simp [intOf];omega
                  · refine step_build1R rfl (.tmp 60) rfl HRd.out (by simp [Act.eval,Act.put]) ?_
                    have b6:Below D1.heap.size D1 (D1.alloc (.cells cR.toArray 66)):=(Below.refl _ _).alloc (Nat.le_refl _) _;have b6D:=bA.trans (b6.mono bA.size);refine hKC _ _ (range_below rg9 b6D hpD) ?_;clear hKC KC
                    try simp only [Act.put,SL]
                    have VL6:=VL.below b6 (by have:=bA.size;omega);have X6:Box (D1.alloc (.cells cR.toArray 66)) D1.heap.size cR.toArray 66:=box_new _ _ _;have z6:D1.heap.size < (D1.alloc (.cells cR.toArray 66)).heap.size:=X6.lt;have zA:=bA.size;obtain ⟨D2,hD2⟩:∃ x,x = D1.alloc (.cells cR.toArray 66):=⟨_,rfl⟩;rw [← hD2] at b6 b6D VL6 X6 z6 ⊢;clear hD2;have XK:=X6;obtain ⟨v4,w4,cv4,runv4,⟨V4,X4⟩,bw4⟩:=ins_up4 HUS.out hUz hAU b6D hiD (by omega) VL6 X6 (fun h => by simp [Value.ownBlock] at h;omega);refine wpAnyM_oneS (i:=4) (o:=_) rfl (by kernel_rfl) (fun KC hKC => ?_);refine step_run2 rfl (.tmp 55) (.tmp 58) rfl (by simp [Act.eval,Act.put]) (by simp [Act.eval,Act.put]) runv4 ?_;have b4D:=b6D.trans bw4;refine hKC _ _ (range_below rg9 b4D hpD) ?_;clear hKC KC
                    try simp only [Act.put,SL]
                    obtain ⟨v7,w7,cv7,runv7,V7,bw7⟩:=ins_one b4D hiD (by omega) V4 X4 (layRec.rd_below HRd.out b4D hiD);refine wpAnyM_one (i:=7) (o:=_) rfl (by kernel_rfl) (by kernel_rfl) (fun KC hKC => ?_);refine step_run2 rfl (.tmp 59) (.tmp 61) rfl (by simp [Act.eval,Act.put]) (by simp [Act.eval,Act.put]) runv7 ?_;refine hKC _ _ ?_;clear hKC KC
                    try simp only [Act.put,SL]
                    have b7D:=b4D.trans bw7;obtain ⟨v8,w8,cv8,runv8,V8,bw8⟩:=ins_rest HFS.out hFz hAF b7D hiD (by omega) V7;refine wpAnyM_one (i:=11) (o:=_) rfl (by kernel_rfl) (by kernel_rfl) (fun KC hKC => ?_);refine step_run2 rfl (.tmp 62) (.tmp 65) rfl (by simp [Act.eval,Act.put]) (by simp [Act.eval,Act.put]) runv8 ?_;refine hKC _ _ ?_;clear hKC KC
                    try simp only [Act.put,SL]
                    refine wpAnyM_pureL (i:=12) (oi:=_) (v:=?_) rfl (by kernel_rfl) (fun _ _ _ h => h) (Or.inl ⟨by kernel_rfl,?_⟩) ?_
                    rotate_left
                    · intro w' hSw;go_simp;try with_reducible rfl
                    try simp only [Act.put,SL]
                    refine wpAnyM_done (by kernel_rfl) ?_ _
                    have HV8:Hid (View layRec 66 w8 D.heap.size hi v8 (l.take at_ ++ M :: l.drop at_).length (fun i => x0 ((l.take at_ ++ M :: l.drop at_).getD i 0)) cv8):=by
                      show View _ _ _ _ _ _ _ _ _
                      rw [ins_len l M at_ hatL,← HN.out];exact V8.congr (fun i _ => ins_getD x0 l M at_ hatL i)
                    have HB8:Hid (Below w.heap.size w w8):=HBD.out.trans ((b7D.trans bw8).mono (by omega));have z8:D.heap.size ≤ w8.heap.size:=(b7D.trans bw8).size
                    have HLn:Hid ((l.take at_ ++ M :: l.drop at_).length ≤ L0 + (i + 1)):=by
                      show (l.take at_ ++ M :: l.drop at_).length ≤ L0 + (i + 1)
                      rw [ins_len l M at_ hatL,← HN.out];omega
                    clear V8 V7 bw7 bw8 b7D hHeld runv7 runv8 hUr hFr hUz hFz hAU hAF rg9 HUS HFS HRd HBD;go_wp2
                    go_roundw
                    case rel => exact ⟨i + 1,D.heap.size,l.take at_ ++ M :: l.drop at_,cv8,by omega,by go_num,by omega,z8,by rw [← Nat.add_assoc,← HMM.out];exact HCN.out,HLn.out,HV8.out,HB8.out⟩
                    case measure => simp [intOf];omega
                · refine step_build1R rfl (.tmp 60) rfl HRd.out (by simp [Act.eval,Act.put]) ?_
                  have bA:Below D.heap.size D (D.alloc (.cells cR.toArray 66)):=(Below.refl _ _).alloc (Nat.le_refl _) _;refine hKC _ _ (range_below rg9 bA hpD) ?_;clear hKC KC
                  try simp only [Act.put,SL]
                  have XA:Box (D.alloc (.cells cR.toArray 66)) D.heap.size cR.toArray 66:=box_new _ _ _;have zA:D.heap.size < (D.alloc (.cells cR.toArray 66)).heap.size:=XA.lt;obtain ⟨D1,hD1⟩:∃ x,x = D.alloc (.cells cR.toArray 66):=⟨_,rfl⟩;rw [← hD1] at bA XA zA ⊢;clear hD1;refine wpAnyM_oneS (i:=0) (o:=_) rfl (by kernel_rfl) (fun KC hKC => ?_);refine step_build0 rfl rfl ?_;have b6:Below D1.heap.size D1 (D1.alloc (.cells #[] 66)):=(Below.refl _ _).alloc (Nat.le_refl _) _;have b6D:=bA.trans (b6.mono bA.size);refine hKC _ _ (range_below rg9 b6D hpD) ?_;clear hKC KC
                  try simp only [Act.put,SL]
                  have VL:=(View.lit0 (E:=layRec) (t:=66) (fun i => x0 (l.getD i 0)) co D1 hi).weakL (lo':=D.heap.size) (by omega);have X6:=XA.below b6 zA;obtain ⟨D2,hD2⟩:∃ x,x = D1.alloc (.cells #[] 66):=⟨_,rfl⟩;rw [← hD2] at b6 b6D VL X6 ⊢;clear hD2;obtain ⟨v4,w4,cv4,runv4,⟨V4,X4⟩,bw4⟩:=ins_up4 HUS.out hUz hAU b6D hiD (by omega) VL X6 (fun h => by simp [Value.ownBlock] at h;omega);refine wpAnyM_oneS (i:=4) (o:=_) rfl (by kernel_rfl) (fun KC hKC => ?_);refine step_run2 rfl (.tmp 55) (.tmp 58) rfl (by simp [Act.eval,Act.put]) (by simp [Act.eval,Act.put]) runv4 ?_;have b4D:=b6D.trans bw4;refine hKC _ _ (range_below rg9 b4D hpD) ?_;clear hKC KC
                  try simp only [Act.put,SL]
                  obtain ⟨v7,w7,cv7,runv7,V7,bw7⟩:=ins_one b4D hiD (by omega) V4 X4 (layRec.rd_below HRd.out b4D hiD);refine wpAnyM_one (i:=7) (o:=_) rfl (by kernel_rfl) (by kernel_rfl) (fun KC hKC => ?_);refine step_run2 rfl (.tmp 59) (.tmp 61) rfl (by simp [Act.eval,Act.put]) (by simp [Act.eval,Act.put]) runv7 ?_;refine hKC _ _ ?_;clear hKC KC
                  try simp only [Act.put,SL]
                  have b7D:=b4D.trans bw7;obtain ⟨v8,w8,cv8,runv8,V8,bw8⟩:=ins_rest HFS.out hFz hAF b7D hiD (by omega) V7;refine wpAnyM_one (i:=11) (o:=_) rfl (by kernel_rfl) (by kernel_rfl) (fun KC hKC => ?_);refine step_run2 rfl (.tmp 62) (.tmp 65) rfl (by simp [Act.eval,Act.put]) (by simp [Act.eval,Act.put]) runv8 ?_;refine hKC _ _ ?_;clear hKC KC
                  try simp only [Act.put,SL]
                  refine wpAnyM_pureL (i:=12) (oi:=_) (v:=?_) rfl (by kernel_rfl) (fun _ _ _ h => h) (Or.inl ⟨by kernel_rfl,?_⟩) ?_
                  rotate_left
                  · intro w' hSw;go_simp;try with_reducible rfl
                  try simp only [Act.put,SL]
                  refine wpAnyM_done (by kernel_rfl) ?_ _
                  have HV8:Hid (View layRec 66 w8 D.heap.size hi v8 (l.take at_ ++ M :: l.drop at_).length (fun i => x0 ((l.take at_ ++ M :: l.drop at_).getD i 0)) cv8):=by
                    show View _ _ _ _ _ _ _ _ _
                    rw [ins_len l M at_ hatL,← HN.out];exact V8.congr (fun i _ => ins_getD x0 l M at_ hatL i)
                  have HB8:Hid (Below w.heap.size w w8):=HBD.out.trans ((b7D.trans bw8).mono (by omega));have z8:D.heap.size ≤ w8.heap.size:=(b7D.trans bw8).size
                  have HLn:Hid ((l.take at_ ++ M :: l.drop at_).length ≤ L0 + (i + 1)):=by
                    show (l.take at_ ++ M :: l.drop at_).length ≤ L0 + (i + 1)
                    rw [ins_len l M at_ hatL,← HN.out];omega
                  clear V8 V7 bw7 bw8 b7D hHeld runv7 runv8 hUr hFr hUz hFz hAU hAF rg9 HUS HFS HRd HBD;go_wp2
                  go_roundw
                  case rel => exact ⟨i + 1,D.heap.size,l.take at_ ++ M :: l.drop at_,cv8,by omega,by go_num,by omega,z8,by rw [← Nat.add_assoc,← HMM.out];exact HCN.out,HLn.out,HV8.out,HB8.out⟩
                  case measure => simp [intOf];omega
              · obtain ⟨A,hA⟩:∃ A,at_ = A + 1:=⟨at_ - 1,by omega⟩
                subst hA
                have hAn:A < n:=by omega
                have VD:=HVx.out.drew;obtain ⟨gO,cO',hgO⟩:=VD.form0 (by omega)
                have rgO:wx.drew.rangeAt gO (A * 9) (co A):=by rw [hgO] at VD;exact VD.range hAn
                obtain ⟨rfl,rfl⟩:ao = some ⟨gO,0,none⟩ ∧ cap = cO':=by simpa using hgO
                have hcO:(co A).length = 9:=VD.lens A hAn;have CC0:=l6Ahead_any (x0 M) (x0 (l.getD A 0)) cR (co A) hi hi wx.drew (layRec.rd_below HRx.out bD (by omega)) (VD.each A hAn);obtain ⟨cO,hcOe⟩:∃ c,c = co A:=⟨_,rfl⟩;rw [← hcOe] at rgO hcO CC0;obtain ⟨t,ht⟩:∃ t,t = decide (numC (x0 M) (x0 (l.getD A 0)) < 0):=⟨_,rfl⟩;rw [← ht] at CC0;have HT:Hid (t = decide (numC (x0 M) (x0 (l.getD A 0)) < 0)):=ht
                have CC:Calls Tryz.prog 51 (#[.agg cR.toArray,.agg cO.toArray] ++ #[]) wx.drew fun e w' => e = .returned (.bool t) ∧ Below wx.drew.heap.size wx.drew w':=by rw [Array.append_empty];exact CC0
                have rgB:wx.drew.rangeAt wi.heap.size 0 cR:=fun j v hv => by
                  have:=(HXx.out.cell j).trans (by simpa using hv);rw [Nat.zero_add];exact this
                have d1:decide (0 < A + 1) = true:=decide_eq_true (by omega);have d2:decide ((0:Int) < ((A + 1:Nat):Int)) = true:=decide_eq_true (by omega);have wP:IntKind.i64.wrap (((A + 1:Nat):Int) - 1) = (A:Int):=wrapPred (by omega)
                have wP':IntKind.i64.wrap ((A:Int) + 1 - 1) = (A:Int):=by rw [IntKind.wrap_i64];omega
                have wA:IntKind.i64.wrap (A:Int) = (A:Int):=by rw [IntKind.wrap_i64];omega
                have i3:(0:Int) ≤ (A:Int):=by omega
                have i4:(A:Int) < (n:Int):=by omega
                clear CC0 ht hcOe VD hgO
                go_upto_region 11 with fail
                refine wp_region_M 9 (fun w' => w'.rangeAt gO (A * 9) cO ∧ w'.rangeAt wi.heap.size 0 cR) mixedO ⟨rgO,rgB⟩ (fun hHeld => ?_);refine wpAnyM_pure (i:=0) (oi:=_) (v:=?_) rfl (by kernel_rfl) (fun _ _ _ h => h) (Or.inl ⟨by kernel_rfl,?_⟩) (by assumption) ?_
                rotate_left
                · intro w' hSw;go_simp;try with_reducible rfl
                try simp only [Act.put,SL]
                refine wpAnyM_pure (i:=1) (oi:=_) (v:=?_) rfl (by kernel_rfl) (fun _ _ _ h => h) (Or.inl ⟨by kernel_rfl,?_⟩) (by assumption) ?_
                rotate_left
                · intro w' hSw;go_simp;try with_reducible rfl
                try simp only [Act.put,SL]
                try rw [d1]
                refine wpAnyM_pure (i:=2) (oi:=_) (v:=?_) rfl (by kernel_rfl) (fun _ _ _ h => h) (Or.inl ⟨by kernel_rfl,?_⟩) (by assumption) ?_
                rotate_left
                · intro w' hSw;go_simp;try with_reducible rfl
                try simp only [Act.put,SL]
                refine wpAnyM_take (i:=3) (oi:=_) (v:=.agg cR.toArray) 16 rfl (by kernel_rfl) (fun _ _ _ h => h) (yieldsIf_load_mid (by kernel_rfl) 66 (.tmp 6) rfl wi.heap.size (0) (by simp [Act.eval,Act.put]) cR _ (fun w h => h.2) Tryz.underlying66 rfl (info_Rec9 hcR)) (by assumption) ?_
                try simp only [Act.put,SL]
                refine wpAnyM_pure (i:=4) (oi:=_) (v:=?_) rfl (by kernel_rfl) (fun _ _ _ h => h) (Or.inl ⟨by kernel_rfl,?_⟩) (by assumption) ?_
                rotate_left
                · intro w' hSw;go_simp;try with_reducible rfl
                try simp only [Act.put,SL]
                refine wpAnyM_pure (i:=5) (oi:=_) (v:=?_) rfl (by kernel_rfl) (fun _ _ _ h => h) (Or.inl ⟨by kernel_rfl,?_⟩) (by assumption) ?_
                rotate_left
                · intro w' hSw;go_simp;try with_reducible rfl
                try simp only [Act.put,SL]
                refine wpAnyM_pure (i:=6) (oi:=_) (v:=?_) rfl (by kernel_rfl) (fun _ _ _ h => h) (Or.inl ⟨by kernel_rfl,?_⟩) (by assumption) ?_
                rotate_left
                · intro w' hSw;go_simp;try with_reducible rfl
                try simp only [Act.put,SL]
                refine wpAnyM_pure (i:=7) (oi:=_) (v:=?_) rfl (by kernel_rfl) (fun _ _ _ h => h) (Or.inl ⟨by kernel_rfl,?_⟩) (by assumption) ?_
                rotate_left
                · intro w' hSw;go_simp;try with_reducible rfl
                try simp only [Act.put,SL]
                refine wpAnyM_take (i:=8) (oi:=_) (v:=.agg cO.toArray) 16 rfl (by kernel_rfl) (fun _ _ _ h => h) (yieldsIf_load_mid (by kernel_rfl) 66 (.tmp 49) rfl gO (A * 9) (by simp [Act.eval,Act.put]) cO _ (fun w h => h.1) Tryz.underlying66 rfl (info_Rec9 hcO)) (by assumption) ?_
                try simp only [Act.put,SL]
                refine wpAnyM_one (i:=9) (o:=_) rfl (by kernel_rfl) (by kernel_rfl) (fun KC hKC => ?_);refine step_callv (by kernel_rfl) (.func 51) 51 #[] _ _ rfl (by simp [Act.eval,Act.put]) #[.agg cR.toArray,.agg cO.toArray] (by simp [Act.eval,Act.put]) Tryz.func51 (by kernel_rfl) (by kernel_rfl) CC ?_;rintro ee w9 ⟨rfl,b9d⟩;refine ⟨_,rfl,?_⟩;refine hKC _ _ ?_;clear hKC KC
                try simp only [Act.put,SL]
                refine wpAnyM_pureL (i:=10) (oi:=_) (v:=?_) rfl (by kernel_rfl) (fun _ _ _ h => h) (Or.inl ⟨by kernel_rfl,?_⟩) ?_
                rotate_left
                · intro w' hSw;go_simp;try with_reducible rfl
                try simp only [Act.put,SL]
                refine wpAnyM_done (by kernel_rfl) ?_ _;have b9:Below wx.heap.size wx w9:=bD.trans b9d;clear bD hHeld d1 d2 CC rgO rgB hcO b9d
                cases t with
                | true =>
                  go_wp2
                  go_roundw
                  case rel => exact ⟨A,by omega,by go_num,fun k h1 h2 => by
                                by_cases c:k = A
                                · rw [c];simpa using HT.out
                                · exact HBE.out k (by omega) h2,HB5x.out.trans (b9.mono zx)⟩
                  case measure => simp [intOf]
                | false =>
                  have HS:Hid (A + 1 = 0 ∨ ¬ numC (x0 M) (x0 (l.getD (A + 1 - 1) 0)) < 0):=.inr (by simpa using HT.out);obtain ⟨at_,hate⟩:∃ a,a = A + 1:=⟨_,rfl⟩;rw [← hate] at HS HBE hat ⊢;clear hate HT wP wP' wA hat0;have z9:wx.heap.size ≤ w9.heap.size:=b9.size;have V9:=(HVx.out.below b9 (by omega)).drew;have b9':Below wx.heap.size wx w9.drew:=b9.trans (show Below wx.heap.size w9 w9.drew from ⟨rfl,rfl,rfl,Nat.le_refl _,fun _ _ => rfl⟩);have X9:Box w9.drew wi.heap.size cR.toArray 66:=HXx.out.below b9' (by omega);have R9:layRec.rd w9.drew hi (x0 M) cR:=layRec.rd_below HRx.out b9' (by omega);have B9:Below w.heap.size w w9.drew:=HBx.out.trans (b9'.mono (by omega))
                  have rg9:w9.drew.rangeAt wi.heap.size 0 cR:=fun j v hv => by
                    have:=(X9.cell j).trans (by simpa using hv);rw [Nat.zero_add];exact this
                  obtain ⟨D,hD⟩:∃ D,D = w9.drew:=⟨_,rfl⟩;have HD:Hid (D = w9.drew):=hD;rw [← hD] at V9 X9 R9 B9 rg9
                  have zD:w9.heap.size = D.heap.size:=by rw [hD];rfl
                  clear hD b9 b9';obtain ⟨aU,cU,hUr,sU,hUz⟩:=V9.upto_ (show hi ≤ D.heap.size by omega) (al:=at_) hat;obtain ⟨aF,cF,hFr,sF,rF,hFz⟩:=V9.from_ (show hi ≤ D.heap.size by omega) (al:=at_) hat
                  have hAU:∀ b off,aU = some ⟨b,off,none⟩ → b < D.heap.size:=fun b off e => by
                    rcases V9.form2 with ⟨e3,e4⟩ | ⟨g,cp,e3,e4,hg⟩
                    · have hz:at_ = 0:=by omega
                      have:=hUr D;rw [e3,hz,run_upto0 D] at this
                      simp only [Result.ok.injEq,Value.slice.injEq,and_true] at this
                      rw [← this.1] at e
                      cases e
                    · have:=hUr D
                      rw [e3,run_upto9 g n cp at_ hat e4 D] at this
                      simp only [Result.ok.injEq,Value.slice.injEq,and_true] at this
                      rw [← this.1] at e
                      cases e
                      exact hg
                  have hAF:∀ b off,aF = some ⟨b,off,none⟩ → b < D.heap.size:=fun b off e => by
                    rcases V9.form2 with ⟨e3,e4⟩ | ⟨g,cp,e3,e4,hg⟩
                    · have hz:at_ = 0:=by omega
                      have:=hFr D;rw [e3,hz,run_from0 D] at this
                      simp only [Result.ok.injEq,Value.slice.injEq,and_true] at this
                      rw [← this.1] at e
                      cases e
                    · have:=hFr D
                      rw [e3,run_from9 g n cp at_ hat D] at this
                      simp only [Result.ok.injEq,Value.slice.injEq,and_true] at this
                      rw [← this.1] at e
                      split at e <;> cases e <;> exact hg
                  have hiD:hi ≤ D.heap.size:=by omega
                  have hpD:wi.heap.size < D.heap.size:=X9.lt
                  have hatL:at_ ≤ l.length:=by rw [← HN.out];exact hat
                  have HCN:Hid (Cnt x0 (M + 1) (l.take at_ ++ M :: l.drop at_)):=HCt.out.ins HF.out at_ hatL (fun k h1 h2 => HBE.out k h1 (by rw [HN.out];exact h2)) HS.out;have HRd:Hid (layRec.rd D hi (x0 M) cR):=R9;have HBD:Hid (Below w.heap.size w D):=B9;have HUS:Hid (Src layRec D hi aU at_ (fun i => x0 (l.getD i 0)) co):=sU;have HFS:Hid (Src layRec D hi aF (n - at_) (fun j => x0 (l.getD (at_ + j) 0)) (fun j => co (at_ + j))):=sF;clear V9 X9 R9 B9 sU sF rF
                  go_upto_region 13 with fail
                  refine wp_region_M 7 (fun w' => w'.rangeAt wi.heap.size 0 cR) mixedO (by rw [← HD.out];exact rg9) (fun hHeld => ?_);rw [← HD.out] at hHeld ⊢;refine wpAnyM_pure (i:=1) (oi:=_) (v:=?_) rfl (by kernel_rfl) (fun _ _ _ h => h) (Or.inl ⟨by kernel_rfl,?_⟩) (by assumption) ?_
                  rotate_left
                  · intro w' hSw;go_simp;try with_reducible rfl
                  try simp only [Act.put,SL]
                  refine wpAnyM_pure (i:=2) (oi:=_) (v:=?_) rfl (by kernel_rfl) (fun _ _ _ h => h) (Or.inl ⟨by kernel_rfl,?_⟩) (by assumption) ?_
                  rotate_left
                  · intro w' hSw;go_simp;try with_reducible rfl
                  try simp only [Act.put,SL]
                  refine wpAnyM_pure (i:=3) (oi:=_) (v:=?_) rfl (by kernel_rfl) (fun _ _ _ h => h) (Or.inl ⟨by kernel_rfl,?_⟩) (by assumption) ?_
                  rotate_left
                  · intro w' hSw
                    try rw [show (Instr.slice 54 (.slice (some ⟨gO,0,none⟩) n cap) none (some (.int .i64 (at_:Int))) none).run Tryz.prog w' = _ from hUr w']
                    have hSl':=hUr w';go_simp
                    try with_reducible rfl
                  try simp only [Act.put,SL]
                  refine wpAnyM_take (i:=5) (oi:=_) (v:=.agg cR.toArray) 16 rfl (by kernel_rfl) (fun _ _ _ h => h) (yieldsIf_load_mid (by kernel_rfl) 66 (.tmp 6) rfl wi.heap.size (0) (by simp [Act.eval,Act.put]) cR _ (fun w h => h) Tryz.underlying66 rfl (info_Rec9 hcR)) (by assumption) ?_
                  try simp only [Act.put,SL]
                  refine wpAnyM_pure (i:=8) (oi:=_) (v:=?_) rfl (by kernel_rfl) (fun _ _ _ h => h) (Or.inl ⟨by kernel_rfl,?_⟩) (by assumption) ?_
                  rotate_left
                  · intro w' hSw;go_simp;try with_reducible rfl
                  try simp only [Act.put,SL]
                  refine wpAnyM_pure (i:=9) (oi:=_) (v:=?_) rfl (by kernel_rfl) (fun _ _ _ h => h) (Or.inl ⟨by kernel_rfl,?_⟩) (by assumption) ?_
                  rotate_left
                  · intro w' hSw;go_simp;try with_reducible rfl
                  try simp only [Act.put,SL]
                  refine wpAnyM_pure (i:=10) (oi:=_) (v:=?_) rfl (by kernel_rfl) (fun _ _ _ h => h) (Or.inl ⟨by kernel_rfl,?_⟩) (by assumption) ?_
                  rotate_left
                  · intro w' hSw
                    try rw [show (Instr.slice 54 (.slice (some ⟨gO,0,none⟩) n cap) (some (.int .i64 (at_:Int))) none none).run Tryz.prog w' = _ from hFr w']
                    have hSl':=hFr w';go_simp
                    try with_reducible rfl
                  try simp only [Act.put,SL]
                  refine wpAnyM_twoS (i:=0) (j:=6) (o:=_) (o':=_) rfl rfl (by kernel_rfl) (fun KC hKC => ?_) (fun KC hKC => ?_)
                  · refine step_build0 rfl rfl ?_
                    have bA:Below D.heap.size D (D.alloc (.cells #[] 66)):=(Below.refl _ _).alloc (Nat.le_refl _) _;refine hKC _ _ (range_below rg9 bA hpD) ?_;clear hKC KC
                    try simp only [Act.put,SL]
                    have VL:=View.lit0 (E:=layRec) (t:=66) (fun i => x0 (l.getD i 0)) co D hi;have zA1:D.heap.size < (D.alloc (.cells #[] 66)).heap.size:=(box_new D #[] 66).lt;obtain ⟨D1,hD1⟩:∃ x,x = D.alloc (.cells #[] 66):=⟨_,rfl⟩;rw [← hD1] at bA VL zA1 ⊢;clear hD1;refine wpAnyM_twoS (i:=4) (j:=6) (o:=_) (o':=_) rfl rfl (by kernel_rfl) (fun KC hKC => ?_) (fun KC hKC => ?_)
                    · skip
                      obtain ⟨v4,w4,cv4,runv4,V4,bw4⟩:=ins_up (lo:=lo) HUS.out hUz hAU bA hiD (by omega) VL;refine step_run2 rfl (.tmp 55) (.tmp 58) rfl (by simp [Act.eval,Act.put]) (by simp [Act.eval,Act.put]) runv4 ?_;have b4D:=bA.trans bw4;refine hKC _ _ (range_below rg9 b4D hpD) ?_;clear hKC KC
                      try simp only [Act.put,SL]
                      refine wpAnyM_oneS (i:=6) (o:=_) rfl (by kernel_rfl) (fun KC hKC => ?_);refine step_build1R rfl (.tmp 60) rfl HRd.out (by simp [Act.eval,Act.put]) ?_;have b6:Below w4.heap.size w4 (w4.alloc (.cells cR.toArray 66)):=(Below.refl _ _).alloc (Nat.le_refl _) _;have b6D:=b4D.trans (b6.mono b4D.size);refine hKC _ _ (range_below rg9 b6D hpD) ?_;clear hKC KC
                      try simp only [Act.put,SL]
                      have V6:=V4.below b6 (by have:=b4D.size;omega);have X6:Box (w4.alloc (.cells cR.toArray 66)) w4.heap.size cR.toArray 66:=box_new _ _ _;obtain ⟨v7,w7,cv7,runv7,V7,bw7⟩:=ins_one b6D hiD (by omega) V6 X6 (layRec.rd_below HRd.out b6D hiD);refine wpAnyM_one (i:=7) (o:=_) rfl (by kernel_rfl) (by kernel_rfl) (fun KC hKC => ?_);refine step_run2 rfl (.tmp 59) (.tmp 61) rfl (by simp [Act.eval,Act.put]) (by simp [Act.eval,Act.put]) runv7 ?_;refine hKC _ _ ?_;clear hKC KC
                      try simp only [Act.put,SL]
                      have b7D:=b6D.trans bw7;obtain ⟨v8,w8,cv8,runv8,V8,bw8⟩:=ins_rest HFS.out hFz hAF b7D hiD (by omega) V7;refine wpAnyM_one (i:=11) (o:=_) rfl (by kernel_rfl) (by kernel_rfl) (fun KC hKC => ?_);refine step_run2 rfl (.tmp 62) (.tmp 65) rfl (by simp [Act.eval,Act.put]) (by simp [Act.eval,Act.put]) runv8 ?_;refine hKC _ _ ?_;clear hKC KC
                      try simp only [Act.put,SL]
                      refine wpAnyM_pureL (i:=12) (oi:=_) (v:=?_) rfl (by kernel_rfl) (fun _ _ _ h => h) (Or.inl ⟨by kernel_rfl,?_⟩) ?_
                      rotate_left
                      · intro w' hSw;go_simp;try with_reducible rfl
                      try simp only [Act.put,SL]
                      refine wpAnyM_done (by kernel_rfl) ?_ _
                      have HV8:Hid (View layRec 66 w8 D.heap.size hi v8 (l.take at_ ++ M :: l.drop at_).length (fun i => x0 ((l.take at_ ++ M :: l.drop at_).getD i 0)) cv8):=by
                        show View _ _ _ _ _ _ _ _ _
                        rw [ins_len l M at_ hatL,← HN.out];exact V8.congr (fun i _ => ins_getD x0 l M at_ hatL i)
                      have HB8:Hid (Below w.heap.size w w8):=HBD.out.trans ((b7D.trans bw8).mono (by omega));have z8:D.heap.size ≤ w8.heap.size:=(b7D.trans bw8).size
                      have HLn:Hid ((l.take at_ ++ M :: l.drop at_).length ≤ L0 + (i + 1)):=by
                        show (l.take at_ ++ M :: l.drop at_).length ≤ L0 + (i + 1)
                        rw [ins_len l M at_ hatL,← HN.out];omega
                      clear V8 V7 bw7 bw8 b7D hHeld runv7 runv8 hUr hFr hUz hFz hAU hAF rg9 HUS HFS HRd HBD;go_wp2
                      go_roundw
                      case rel => exact ⟨i + 1,D.heap.size,l.take at_ ++ M :: l.drop at_,cv8,by omega,by go_num,by omega,z8,by rw [← Nat.add_assoc,← HMM.out];exact HCN.out,HLn.out,HV8.out,HB8.out⟩
                      case measure => simp [intOf];omega
                    · refine step_build1R rfl (.tmp 60) rfl HRd.out (by simp [Act.eval,Act.put]) ?_
                      have b6:Below D1.heap.size D1 (D1.alloc (.cells cR.toArray 66)):=(Below.refl _ _).alloc (Nat.le_refl _) _;have b6D:=bA.trans (b6.mono bA.size);refine hKC _ _ (range_below rg9 b6D hpD) ?_;clear hKC KC
                      try simp only [Act.put,SL]
                      have VL6:=VL.below b6 (by have:=bA.size;omega);have X6:Box (D1.alloc (.cells cR.toArray 66)) D1.heap.size cR.toArray 66:=box_new _ _ _;have z6:D1.heap.size < (D1.alloc (.cells cR.toArray 66)).heap.size:=X6.lt;have zA:=bA.size;obtain ⟨D2,hD2⟩:∃ x,x = D1.alloc (.cells cR.toArray 66):=⟨_,rfl⟩;rw [← hD2] at b6 b6D VL6 X6 z6 ⊢;clear hD2;have XK:=X6;obtain ⟨v4,w4,cv4,runv4,⟨V4,X4⟩,bw4⟩:=ins_up4 HUS.out hUz hAU b6D hiD (by omega) VL6 X6 (fun h => by simp [Value.ownBlock] at h;omega);refine wpAnyM_oneS (i:=4) (o:=_) rfl (by kernel_rfl) (fun KC hKC => ?_);refine step_run2 rfl (.tmp 55) (.tmp 58) rfl (by simp [Act.eval,Act.put]) (by simp [Act.eval,Act.put]) runv4 ?_;have b4D:=b6D.trans bw4;refine hKC _ _ (range_below rg9 b4D hpD) ?_;clear hKC KC
                      try simp only [Act.put,SL]
                      obtain ⟨v7,w7,cv7,runv7,V7,bw7⟩:=ins_one b4D hiD (by omega) V4 X4 (layRec.rd_below HRd.out b4D hiD);refine wpAnyM_one (i:=7) (o:=_) rfl (by kernel_rfl) (by kernel_rfl) (fun KC hKC => ?_);refine step_run2 rfl (.tmp 59) (.tmp 61) rfl (by simp [Act.eval,Act.put]) (by simp [Act.eval,Act.put]) runv7 ?_;refine hKC _ _ ?_;clear hKC KC
                      try simp only [Act.put,SL]
                      have b7D:=b4D.trans bw7;obtain ⟨v8,w8,cv8,runv8,V8,bw8⟩:=ins_rest HFS.out hFz hAF b7D hiD (by omega) V7;refine wpAnyM_one (i:=11) (o:=_) rfl (by kernel_rfl) (by kernel_rfl) (fun KC hKC => ?_);refine step_run2 rfl (.tmp 62) (.tmp 65) rfl (by simp [Act.eval,Act.put]) (by simp [Act.eval,Act.put]) runv8 ?_;refine hKC _ _ ?_;clear hKC KC
                      try simp only [Act.put,SL]
                      refine wpAnyM_pureL (i:=12) (oi:=_) (v:=?_) rfl (by kernel_rfl) (fun _ _ _ h => h) (Or.inl ⟨by kernel_rfl,?_⟩) ?_
                      rotate_left
                      · intro w' hSw;go_simp;try with_reducible rfl
                      try simp only [Act.put,SL]
                      refine wpAnyM_done (by kernel_rfl) ?_ _
                      have HV8:Hid (View layRec 66 w8 D.heap.size hi v8 (l.take at_ ++ M :: l.drop at_).length (fun i => x0 ((l.take at_ ++ M :: l.drop at_).getD i 0)) cv8):=by
                        show View _ _ _ _ _ _ _ _ _
                        rw [ins_len l M at_ hatL,← HN.out];exact V8.congr (fun i _ => ins_getD x0 l M at_ hatL i)
                      have HB8:Hid (Below w.heap.size w w8):=HBD.out.trans ((b7D.trans bw8).mono (by omega));have z8:D.heap.size ≤ w8.heap.size:=(b7D.trans bw8).size
                      have HLn:Hid ((l.take at_ ++ M :: l.drop at_).length ≤ L0 + (i + 1)):=by
                        show (l.take at_ ++ M :: l.drop at_).length ≤ L0 + (i + 1)
                        rw [ins_len l M at_ hatL,← HN.out];omega
                      clear V8 V7 bw7 bw8 b7D hHeld runv7 runv8 hUr hFr hUz hFz hAU hAF rg9 HUS HFS HRd HBD;go_wp2
                      go_roundw
                      case rel => exact ⟨i + 1,D.heap.size,l.take at_ ++ M :: l.drop at_,cv8,by omega,by go_num,by omega,z8,by rw [← Nat.add_assoc,← HMM.out];exact HCN.out,HLn.out,HV8.out,HB8.out⟩
                      case measure => simp [intOf];omega
                  · refine step_build1R rfl (.tmp 60) rfl HRd.out (by simp [Act.eval,Act.put]) ?_
                    have bA:Below D.heap.size D (D.alloc (.cells cR.toArray 66)):=(Below.refl _ _).alloc (Nat.le_refl _) _;refine hKC _ _ (range_below rg9 bA hpD) ?_;clear hKC KC
                    try simp only [Act.put,SL]
                    have XA:Box (D.alloc (.cells cR.toArray 66)) D.heap.size cR.toArray 66:=box_new _ _ _;have zA:D.heap.size < (D.alloc (.cells cR.toArray 66)).heap.size:=XA.lt;obtain ⟨D1,hD1⟩:∃ x,x = D.alloc (.cells cR.toArray 66):=⟨_,rfl⟩;rw [← hD1] at bA XA zA ⊢;clear hD1;refine wpAnyM_oneS (i:=0) (o:=_) rfl (by kernel_rfl) (fun KC hKC => ?_);refine step_build0 rfl rfl ?_;have b6:Below D1.heap.size D1 (D1.alloc (.cells #[] 66)):=(Below.refl _ _).alloc (Nat.le_refl _) _;have b6D:=bA.trans (b6.mono bA.size);refine hKC _ _ (range_below rg9 b6D hpD) ?_;clear hKC KC
                    try simp only [Act.put,SL]
                    have VL:=(View.lit0 (E:=layRec) (t:=66) (fun i => x0 (l.getD i 0)) co D1 hi).weakL (lo':=D.heap.size) (by omega);have X6:=XA.below b6 zA;obtain ⟨D2,hD2⟩:∃ x,x = D1.alloc (.cells #[] 66):=⟨_,rfl⟩;rw [← hD2] at b6 b6D VL X6 ⊢;clear hD2;obtain ⟨v4,w4,cv4,runv4,⟨V4,X4⟩,bw4⟩:=ins_up4 HUS.out hUz hAU b6D hiD (by omega) VL X6 (fun h => by simp [Value.ownBlock] at h;omega);refine wpAnyM_oneS (i:=4) (o:=_) rfl (by kernel_rfl) (fun KC hKC => ?_);refine step_run2 rfl (.tmp 55) (.tmp 58) rfl (by simp [Act.eval,Act.put]) (by simp [Act.eval,Act.put]) runv4 ?_;have b4D:=b6D.trans bw4;refine hKC _ _ (range_below rg9 b4D hpD) ?_;clear hKC KC
                    try simp only [Act.put,SL]
                    obtain ⟨v7,w7,cv7,runv7,V7,bw7⟩:=ins_one b4D hiD (by omega) V4 X4 (layRec.rd_below HRd.out b4D hiD);refine wpAnyM_one (i:=7) (o:=_) rfl (by kernel_rfl) (by kernel_rfl) (fun KC hKC => ?_);refine step_run2 rfl (.tmp 59) (.tmp 61) rfl (by simp [Act.eval,Act.put]) (by simp [Act.eval,Act.put]) runv7 ?_;refine hKC _ _ ?_;clear hKC KC
                    try simp only [Act.put,SL]
                    have b7D:=b4D.trans bw7;obtain ⟨v8,w8,cv8,runv8,V8,bw8⟩:=ins_rest HFS.out hFz hAF b7D hiD (by omega) V7;refine wpAnyM_one (i:=11) (o:=_) rfl (by kernel_rfl) (by kernel_rfl) (fun KC hKC => ?_);refine step_run2 rfl (.tmp 62) (.tmp 65) rfl (by simp [Act.eval,Act.put]) (by simp [Act.eval,Act.put]) runv8 ?_;refine hKC _ _ ?_;clear hKC KC
                    try simp only [Act.put,SL]
                    refine wpAnyM_pureL (i:=12) (oi:=_) (v:=?_) rfl (by kernel_rfl) (fun _ _ _ h => h) (Or.inl ⟨by kernel_rfl,?_⟩) ?_
                    rotate_left
                    · intro w' hSw;go_simp;try with_reducible rfl
                    try simp only [Act.put,SL]
                    refine wpAnyM_done (by kernel_rfl) ?_ _
                    have HV8:Hid (View layRec 66 w8 D.heap.size hi v8 (l.take at_ ++ M :: l.drop at_).length (fun i => x0 ((l.take at_ ++ M :: l.drop at_).getD i 0)) cv8):=by
                      show View _ _ _ _ _ _ _ _ _
                      rw [ins_len l M at_ hatL,← HN.out];exact V8.congr (fun i _ => ins_getD x0 l M at_ hatL i)
                    have HB8:Hid (Below w.heap.size w w8):=HBD.out.trans ((b7D.trans bw8).mono (by omega));have z8:D.heap.size ≤ w8.heap.size:=(b7D.trans bw8).size
                    have HLn:Hid ((l.take at_ ++ M :: l.drop at_).length ≤ L0 + (i + 1)):=by
                      show (l.take at_ ++ M :: l.drop at_).length ≤ L0 + (i + 1)
                      rw [ins_len l M at_ hatL,← HN.out];omega
                    clear V8 V7 bw7 bw8 b7D hHeld runv7 runv8 hUr hFr hUz hFz hAU hAF rg9 HUS HFS HRd HBD;go_wp2
                    go_roundw
                    case rel => exact ⟨i + 1,D.heap.size,l.take at_ ++ M :: l.drop at_,cv8,by omega,by go_num,by omega,z8,by rw [← Nat.add_assoc,← HMM.out];exact HCN.out,HLn.out,HV8.out,HB8.out⟩
                    case measure => simp [intOf];omega
        · obtain rfl:i = m:=by omega
          clear hrs hlt2;go_wp2
          go_roundw
          case rel => exact ⟨T + 1,lo,l,co,by omega,by go_num,hlo,hlow,by rw [HLS.out];exact HCt.out,by rw [HLS.out,← HN.out];exact hLl,by rw [← HN.out];exact HV.out,HBW.out⟩
          case measure => simp [intOf];omega
    · obtain rfl:T = 2:=by omega
      clear hlt bw;go_wp2;go_ret;exact ⟨_,l,co,lo,rfl,HCt.out,hlo,HV.out,HBW.out⟩
end Go.Proofs.YtfoidpcoiankoaaGreat
namespace Go.Proofs.YtfoidpcoiankoaaGreat
open Go.RowKit F256
set_option maxHeartbeats 1000000 in
theorem index_any (v:Value) (n:Nat) (g:Nat → Int) (hi:Nat) (x:Int) (w:World) (r:RdI w hi v n g) :
    Calls Tryz.prog 106 #[v,.int .i64 x] w fun e w' => ∃ z:Int,e = .returned (.int .i64 z) ∧ (0 ≤ z ↔ ∃ t,t < n ∧ g t = x) ∧ w' = w:=by
  obtain ⟨ao,cap,rfl,hm,hc⟩:=r;unfold maxLen at hm
  go_enter Tryz.func106,Tryz.ntmps106
  go_wp2
  go_loop [8] (fun i => ∃ k:Nat,k ≤ n ∧ i = .int .i64 k ∧ ∀ i,i < k → g i ≠ x) (fun i => n - (intOf i).toNat)
  case atStart => exact ⟨0,Nat.zero_le _,rfl,fun i hi => by omega⟩
  case round =>
    obtain ⟨k,hk,rfl,hall⟩:=hrel;have HALL:Hid (∀ i,i < k → g i ≠ x):=hall;clear hall
    by_cases hlt:k < n
    · obtain ⟨b,off,rfl,hblt,hcell⟩:=hc (by omega)
      have hck:w.cell? ⟨b,off + k,none⟩ = some (.int .i64 (g k)):=hcell k hlt;obtain ⟨y,hy⟩:∃ y,y = g k:=⟨_,rfl⟩;have HY:Hid (y = g k):=hy;rw [← hy] at hck;clear hc hcell hy
      by_cases heq:x = y
      · have HP:Hid (0 ≤ (k:Int) ↔ ∃ t,t < n ∧ g t = x):=⟨fun _ => ⟨k,hlt,by rw [← HY.out,heq]⟩,fun _ => by omega⟩
        have te:(x == y) = true:=by simp [heq]
        clear heq;go_wp2;go_ret;exact ⟨_,rfl,HP.out,rfl⟩
      · have te:(x == y) = false:=by simp [heq]
        have HN:Hid (g k ≠ x):=by show g k ≠ x;rw [← HY.out];exact fun h => heq h.symm
        clear heq;go_wp2
        go_round
        case rel => exact ⟨k + 1,by omega,by go_num,fun i hi => by
                      by_cases c:i = k
                      · rw [c];exact HN.out
                      · exact HALL.out i (by omega)⟩
        case measure => simp [intOf];omega
    · obtain rfl:k = n:=by omega
      have HP:Hid (0 ≤ (-1:Int) ↔ ∃ t,t < k ∧ g t = x):=⟨fun h => by omega,fun ⟨t,ht,he⟩ => absurd he (HALL.out t ht)⟩;clear hc;go_wp2;go_ret;exact ⟨-1,rfl,HP.out,rfl⟩
theorem contains_any (v:Value) (n:Nat) (g:Nat → Int) (hi:Nat) (x:Int) (w:World) (r:RdI w hi v n g) :
    Calls Tryz.prog 72 #[v,.int .i64 x] w (BoolP (∃ t,t < n ∧ g t = x) w):=by
  have C:=index_any v n g hi x w r;obtain ⟨ao,cap,rfl,hm,hc⟩:=r;clear hc hm;have HI:Hid (Calls Tryz.prog 106 #[.slice ao n cap,.int .i64 x] w fun e w' => ∃ z:Int,e = .returned (.int .i64 z) ∧ (0 ≤ z ↔ ∃ t,t < n ∧ g t = x) ∧ w' = w):=C;clear C;obtain ⟨P,hP⟩:∃ P:Prop,P = ∃ t,t < n ∧ g t = x:=⟨_,rfl⟩;rw [← hP] at HI ⊢;clear hP
  go_enter Tryz.func72,Tryz.ntmps72
  go_wp2_with fail
  refine HI.out.mono ?_;rintro e w1 ⟨z,rfl,hz,hw1⟩;obtain rfl:=hw1.symm;have HZ:Hid (0 ≤ z ↔ P):=hz;clear hz HI
  by_cases h0:0 ≤ z
  · have HP:Hid P:=HZ.out.mp h0
    go_wp2;go_ret;exact boolYes rfl HP.out (Below.refl _ _)
  · have HP:Hid (¬ P):=fun h => h0 (HZ.out.mpr h)
    have td:decide (0 ≤ z) = false:=by simp;omega
    clear h0;go_wp2;go_ret;exact boolNo rfl HP.out (Below.refl _ _)
end Go.Proofs.YtfoidpcoiankoaaGreat
namespace Go.Proofs.YtfoidpcoiankoaaGreat
open Go.RowKit F256
theorem nearest_any (x a b:Int) (w:World) :
    Calls Tryz.prog 118 #[.int .i64 x,.int .i64 a,.int .i64 b] w fun e w' => e = .returned (.int .i64 (max a (min x b))) ∧ w' = w:=by
  go_enter Tryz.func118,Tryz.ntmps118
  go_wp2;go_ret;exact ⟨rfl,rfl⟩
def nearZ (x a b:Int):Int:=max a (min x b)
theorem nearZ_iff (x a b:Int) (h:a ≤ b):x = nearZ x a b ↔ a ≤ x ∧ x ≤ b:=by
  unfold nearZ;omega
theorem nearest_z (x a b:Int) (w:World) :
    Calls Tryz.prog 118 #[.int .i64 x,.int .i64 a,.int .i64 b] w fun e w' => e = .returned (.int .i64 (nearZ x a b)) ∧ w' = w:=nearest_any x a b w
set_option maxRecDepth 20000 in
set_option maxHeartbeats 8000000 in
theorem nearestShape_any (a0 a1 a2 a3 a4 a5 a6 a7 a8:Int) (w:World) :
    Calls Tryz.prog 90 #[.agg #[.int .i64 a0,.int .i64 a1,.int .i64 a2,.int .i64 a3,.int .i64 a4,.int .i64 a5,.int .i64 a6,.int .i64 a7,.int .i64 a8]] w fun e w' => e = .returned (.agg #[.int .i64 (nearZ a0 1 4),.int .i64 (nearZ a1 0 2),.int .i64 (nearZ a2 1 3),.int .i64 (nearZ a3 0 2),.int .i64 (nearZ a4 1 6),.int .i64 (nearZ a5 1 6),.int .i64 (nearZ a6 1 4),.int .i64 (nearZ a7 1 6),.int .i64 (nearZ a8 0 400)]) ∧ Below w.heap.size w w':=by
  go_enter Tryz.func90,Tryz.ntmps90
  go_wp2_with fail
  have XA:=(box_new w #[.int .i64 a0,.int .i64 a1,.int .i64 a2,.int .i64 a3,.int .i64 a4,.int .i64 a5,.int .i64 a6,.int .i64 a7,.int .i64 a8] 33).allocd (.cells #[.int .i64 0,.int .i64 0,.int .i64 0,.int .i64 0,.int .i64 0,.int .i64 0,.int .i64 0,.int .i64 0,.int .i64 0] 33);have XZ:=box_new (w.alloc (.cells #[.int .i64 a0,.int .i64 a1,.int .i64 a2,.int .i64 a3,.int .i64 a4,.int .i64 a5,.int .i64 a6,.int .i64 a7,.int .i64 a8] 33)) #[.int .i64 0,.int .i64 0,.int .i64 0,.int .i64 0,.int .i64 0,.int .i64 0,.int .i64 0,.int .i64 0,.int .i64 0] 33
  have hz:(w.alloc (.cells #[.int .i64 a0,.int .i64 a1,.int .i64 a2,.int .i64 a3,.int .i64 a4,.int .i64 a5,.int .i64 a6,.int .i64 a7,.int .i64 a8] 33)).heap.size = w.heap.size + 1:=by simp
  rw [hz] at XZ;have BA:Below w.heap.size w ((w.alloc (.cells #[.int .i64 a0,.int .i64 a1,.int .i64 a2,.int .i64 a3,.int .i64 a4,.int .i64 a5,.int .i64 a6,.int .i64 a7,.int .i64 a8] 33)).alloc (.cells #[.int .i64 0,.int .i64 0,.int .i64 0,.int .i64 0,.int .i64 0,.int .i64 0,.int .i64 0,.int .i64 0,.int .i64 0] 33)):=((Below.refl _ _).alloc (Nat.le_refl _) _).alloc (by simp) _;obtain ⟨wA,hwA⟩:∃ x,x = (w.alloc (.cells #[.int .i64 a0,.int .i64 a1,.int .i64 a2,.int .i64 a3,.int .i64 a4,.int .i64 a5,.int .i64 a6,.int .i64 a7,.int .i64 a8] 33)).alloc (.cells #[.int .i64 0,.int .i64 0,.int .i64 0,.int .i64 0,.int .i64 0,.int .i64 0,.int .i64 0,.int .i64 0,.int .i64 0] 33):=⟨_,rfl⟩;rw [← hwA] at XA XZ BA ⊢;clear hwA hz;refine wp_region_still_tail 28 (by kernel_rfl) (by kernel_rfl) ?_;have XA':Box { wA with drawn:=wA.drawn + 1 } w.heap.size #[.int .i64 a0,.int .i64 a1,.int .i64 a2,.int .i64 a3,.int .i64 a4,.int .i64 a5,.int .i64 a6,.int .i64 a7,.int .i64 a8] 33:=XA;have XZ':Box { wA with drawn:=wA.drawn + 1 } (w.heap.size + 1) #[.int .i64 0,.int .i64 0,.int .i64 0,.int .i64 0,.int .i64 0,.int .i64 0,.int .i64 0,.int .i64 0,.int .i64 0] 33:=XZ;have BA':Below w.heap.size w { wA with drawn:=wA.drawn + 1 }:=⟨BA.os,BA.tape,BA.output,BA.size,BA.block⟩;obtain ⟨wB,hwB⟩:∃ x:World,x = { wA with drawn:=wA.drawn + 1 }:=⟨_,rfl⟩;rw [← hwB] at XA' XZ' BA' ⊢;clear XA XZ BA hwB;obtain ⟨x0,x1,x2,x3,x4,x5,x6,x7,x8⟩:=box9 XA';obtain ⟨y0,y1,y2,y3,y4,y5,y6,y7,y8⟩:=box9 XZ'
  simp only [List.take_succ_cons,List.take_zero,List.drop_succ_cons,List.drop_zero]
  still_step
  still_step
  still_call (nearest_z _ _ _ _)
  still_step
  still_step
  still_call (nearest_z _ _ _ _)
  still_step
  still_step
  still_call (nearest_z _ _ _ _)
  still_step
  still_step
  still_call (nearest_z _ _ _ _)
  still_step
  still_step
  still_call (nearest_z _ _ _ _)
  still_step
  still_step
  still_call (nearest_z _ _ _ _)
  still_step
  still_step
  still_call (nearest_z _ _ _ _)
  still_step
  still_step
  still_call (nearest_z _ _ _ _)
  still_step
  still_step
  still_call (nearest_z _ _ _ _)
  still_step
  refine wpStill_nil ?_;have z0:wB.frozen? ⟨w.heap.size + 1,0,none⟩ = false:=XZ'.frozen 0;have z1:wB.frozen? ⟨w.heap.size + 1,1,none⟩ = false:=XZ'.frozen 1;have z2:wB.frozen? ⟨w.heap.size + 1,2,none⟩ = false:=XZ'.frozen 2;have z3:wB.frozen? ⟨w.heap.size + 1,3,none⟩ = false:=XZ'.frozen 3;have z4:wB.frozen? ⟨w.heap.size + 1,4,none⟩ = false:=XZ'.frozen 4;have z5:wB.frozen? ⟨w.heap.size + 1,5,none⟩ = false:=XZ'.frozen 5;have z6:wB.frozen? ⟨w.heap.size + 1,6,none⟩ = false:=XZ'.frozen 6;have z7:wB.frozen? ⟨w.heap.size + 1,7,none⟩ = false:=XZ'.frozen 7;have z8:wB.frozen? ⟨w.heap.size + 1,8,none⟩ = false:=XZ'.frozen 8;go_wp2;refine bodyPost_ret (v:=.agg #[.int .i64 (nearZ a0 1 4),.int .i64 (nearZ a1 0 2),.int .i64 (nearZ a2 1 3),.int .i64 (nearZ a3 0 2),.int .i64 (nearZ a4 1 6),.int .i64 (nearZ a5 1 6),.int .i64 (nearZ a6 1 4),.int .i64 (nearZ a7 1 6),.int .i64 (nearZ a8 0 400)]) (by simp [results,Tryz.results90,go_sem,y0,y1,y2,y3,y4,y5,y6,y7,y8]) rfl ⟨rfl,?_⟩;exact (((((((((BA'.setCell (Nat.le_succ _) _).setCell (Nat.le_succ _) _).setCell (Nat.le_succ _) _).setCell (Nat.le_succ _) _).setCell (Nat.le_succ _) _).setCell (Nat.le_succ _) _).setCell (Nat.le_succ _) _).setCell (Nat.le_succ _) _).setCell (Nat.le_succ _) _)
end Go.Proofs.YtfoidpcoiankoaaGreat
namespace Go.Proofs.YtfoidpcoiankoaaGreat
open Go.RowKit F256
theorem shape_eq_yes (a0 a1 a2 a3 a4 a5 a6 a7 a8:Int) (w:World):(Op.equalIn 10000 33 (.agg #[.int .i64 a0,.int .i64 a1,.int .i64 a2,.int .i64 a3,.int .i64 a4,.int .i64 a5,.int .i64 a6,.int .i64 a7,.int .i64 a8]) (.agg #[.int .i64 a0,.int .i64 a1,.int .i64 a2,.int .i64 a3,.int .i64 a4,.int .i64 a5,.int .i64 a6,.int .i64 a7,.int .i64 a8])).run Tryz.prog w = .ok true w:=by
  have u3:=Tryz.underlying2;rw [show (10000:Nat) = 9999 + 1 from rfl,run_equalIn_agg w 9999 33 _ _ (by kernel_rfl) (by kernel_rfl)]
  simp only [Program.fieldsOf,Tryz.underlying33]
  go_simp
theorem shape_eq_no (a0 a1 a2 a3 a4 a5 a6 a7 a8 b0 b1 b2 b3 b4 b5 b6 b7 b8:Int) (h:¬ (a0 = b0 ∧ a1 = b1 ∧ a2 = b2 ∧ a3 = b3 ∧ a4 = b4 ∧ a5 = b5 ∧ a6 = b6 ∧ a7 = b7 ∧ a8 = b8)) (w:World):(Op.equalIn 10000 33 (.agg #[.int .i64 a0,.int .i64 a1,.int .i64 a2,.int .i64 a3,.int .i64 a4,.int .i64 a5,.int .i64 a6,.int .i64 a7,.int .i64 a8]) (.agg #[.int .i64 b0,.int .i64 b1,.int .i64 b2,.int .i64 b3,.int .i64 b4,.int .i64 b5,.int .i64 b6,.int .i64 b7,.int .i64 b8])).run Tryz.prog w = .ok false w:=by
  have u3:=Tryz.underlying2;rw [show (10000:Nat) = 9999 + 1 from rfl,run_equalIn_agg w 9999 33 _ _ (by kernel_rfl) (by kernel_rfl)]
  simp only [Program.fieldsOf,Tryz.underlying33]
  have H:Hid (¬ (a0 = b0 ∧ a1 = b1 ∧ a2 = b2 ∧ a3 = b3 ∧ a4 = b4 ∧ a5 = b5 ∧ a6 = b6 ∧ a7 = b7 ∧ a8 = b8)):=h;clear h;go_simp;exact fun h0 h1 h2 h3 h4 h5 h6 h7 h8 => H.out ⟨h0,h1,h2,h3,h4,h5,h6,h7,h8⟩
theorem ok_near (s:Nat → Int):OkShape s ↔ s 0 = nearZ (s 0) 1 4 ∧ s 1 = nearZ (s 1) 0 2 ∧ s 2 = nearZ (s 2) 1 3 ∧ s 3 = nearZ (s 3) 0 2 ∧ s 4 = nearZ (s 4) 1 6 ∧ s 5 = nearZ (s 5) 1 6 ∧ s 6 = nearZ (s 6) 1 4 ∧ s 7 = nearZ (s 7) 1 6 ∧ s 8 = nearZ (s 8) 0 400:=by
  unfold OkShape Shp3 Shp;rw [nearZ_iff (s 0) 1 4 (by omega),nearZ_iff (s 1) 0 2 (by omega),nearZ_iff (s 2) 1 3 (by omega),nearZ_iff (s 3) 0 2 (by omega),nearZ_iff (s 4) 1 6 (by omega),nearZ_iff (s 5) 1 6 (by omega),nearZ_iff (s 6) 1 4 (by omega),nearZ_iff (s 7) 1 6 (by omega),nearZ_iff (s 8) 0 400 (by omega)];omega
set_option maxHeartbeats 4000000 in
theorem implShape_any (s:Nat → Int) (w:World) :
    Calls Tryz.prog 54 #[shapeV s] w fun e w' => ∃ x,e = .returned (.int .i64 x) ∧ ShFAns s x ∧ Below w.heap.size w w':=by
  have HK:Hid (OkShape s ↔ s 0 = nearZ (s 0) 1 4 ∧ s 1 = nearZ (s 1) 0 2 ∧ s 2 = nearZ (s 2) 1 3 ∧ s 3 = nearZ (s 3) 0 2 ∧ s 4 = nearZ (s 4) 1 6 ∧ s 5 = nearZ (s 5) 1 6 ∧ s 6 = nearZ (s 6) 1 4 ∧ s 7 = nearZ (s 7) 1 6 ∧ s 8 = nearZ (s 8) 0 400):=ok_near s;unfold shapeV;obtain ⟨a0,h0⟩:∃ a,a = s 0:=⟨_,rfl⟩;obtain ⟨a1,h1⟩:∃ a,a = s 1:=⟨_,rfl⟩;obtain ⟨a2,h2⟩:∃ a,a = s 2:=⟨_,rfl⟩;obtain ⟨a3,h3⟩:∃ a,a = s 3:=⟨_,rfl⟩;obtain ⟨a4,h4⟩:∃ a,a = s 4:=⟨_,rfl⟩;obtain ⟨a5,h5⟩:∃ a,a = s 5:=⟨_,rfl⟩;obtain ⟨a6,h6⟩:∃ a,a = s 6:=⟨_,rfl⟩;obtain ⟨a7,h7⟩:∃ a,a = s 7:=⟨_,rfl⟩;obtain ⟨a8,h8⟩:∃ a,a = s 8:=⟨_,rfl⟩;rw [← h0,← h1,← h2,← h3,← h4,← h5,← h6,← h7,← h8]
  have HK2:Hid (OkShape s ↔ a0 = nearZ a0 1 4 ∧ a1 = nearZ a1 0 2 ∧ a2 = nearZ a2 1 3 ∧ a3 = nearZ a3 0 2 ∧ a4 = nearZ a4 1 6 ∧ a5 = nearZ a5 1 6 ∧ a6 = nearZ a6 1 4 ∧ a7 = nearZ a7 1 6 ∧ a8 = nearZ a8 0 400):=by
    show OkShape s ↔ _
    rw [h0,h1,h2,h3,h4,h5,h6,h7,h8];exact HK.out
  clear HK h0 h1 h2 h3 h4 h5 h6 h7 h8;have CN:=nearestShape_any a0 a1 a2 a3 a4 a5 a6 a7 a8;have XA:=box_new w #[.int .i64 a0,.int .i64 a1,.int .i64 a2,.int .i64 a3,.int .i64 a4,.int .i64 a5,.int .i64 a6,.int .i64 a7,.int .i64 a8] 33;obtain ⟨x0,x1,x2,x3,x4,x5,x6,x7,x8⟩:=box9 XA;have HX:Hid (Box (w.alloc (.cells #[.int .i64 a0,.int .i64 a1,.int .i64 a2,.int .i64 a3,.int .i64 a4,.int .i64 a5,.int .i64 a6,.int .i64 a7,.int .i64 a8] 33)) w.heap.size #[.int .i64 a0,.int .i64 a1,.int .i64 a2,.int .i64 a3,.int .i64 a4,.int .i64 a5,.int .i64 a6,.int .i64 a7,.int .i64 a8] 33):=XA;have HB:Hid (Below w.heap.size w (w.alloc (.cells #[.int .i64 a0,.int .i64 a1,.int .i64 a2,.int .i64 a3,.int .i64 a4,.int .i64 a5,.int .i64 a6,.int .i64 a7,.int .i64 a8] 33))):=bnew (Below.refl _ _);obtain ⟨wA,hwA⟩:∃ x,x = w.alloc (.cells #[.int .i64 a0,.int .i64 a1,.int .i64 a2,.int .i64 a3,.int .i64 a4,.int .i64 a5,.int .i64 a6,.int .i64 a7,.int .i64 a8] 33):=⟨_,rfl⟩;rw [← hwA] at x0 x1 x2 x3 x4 x5 x6 x7 x8 HX HB;clear XA
  by_cases ok:OkShape s
  · have HO:Hid (OkShape s):=ok
    obtain ⟨e0,e1,e2,e3,e4,e5,e6,e7,e8⟩:=HK2.out.mp ok;rw [← e0,← e1,← e2,← e3,← e4,← e5,← e6,← e7,← e8] at CN;have heq:=shape_eq_yes a0 a1 a2 a3 a4 a5 a6 a7 a8;clear e0 e1 e2 e3 e4 e5 e6 e7 e8 ok
    go_enter Tryz.func54,Tryz.ntmps54
    go_wp2_with fail
    rw [← hwA];clear hwA
    go_region_with (go_at_call 90;refine (CN _).mono ?_;rintro ee w2 ⟨rfl,hb2⟩;have hB2:Below wA.heap.size wA w2:=⟨hb2.os,hb2.tape,hb2.output,hb2.size,hb2.block⟩;obtain ⟨y0,y1,y2,y3,y4,y5,y6,y7,y8⟩:=box9 (HX.out.below hB2 HX.out.lt))
    all_goals
      go_wp2;go_ret;exact ⟨0,rfl,.inr ⟨rfl,HO.out⟩,HB.out.trans (hB2.mono HB.out.size)⟩
  · have HO:Hid (¬ OkShape s):=ok
    have hno:¬ (a0 = nearZ a0 1 4 ∧ a1 = nearZ a1 0 2 ∧ a2 = nearZ a2 1 3 ∧ a3 = nearZ a3 0 2 ∧ a4 = nearZ a4 1 6 ∧ a5 = nearZ a5 1 6 ∧ a6 = nearZ a6 1 4 ∧ a7 = nearZ a7 1 6 ∧ a8 = nearZ a8 0 400):=fun h => ok (HK2.out.mpr h);have heq:=shape_eq_no a0 a1 a2 a3 a4 a5 a6 a7 a8 (nearZ a0 1 4) (nearZ a1 0 2) (nearZ a2 1 3) (nearZ a3 0 2) (nearZ a4 1 6) (nearZ a5 1 6) (nearZ a6 1 4) (nearZ a7 1 6) (nearZ a8 0 400) hno;clear hno ok
    go_enter Tryz.func54,Tryz.ntmps54
    go_wp2_with fail
    rw [← hwA];clear hwA
    go_region_with (go_at_call 90;refine (CN _).mono ?_;rintro ee w2 ⟨rfl,hb2⟩;have hB2:Below wA.heap.size wA w2:=⟨hb2.os,hb2.tape,hb2.output,hb2.size,hb2.block⟩;obtain ⟨y0,y1,y2,y3,y4,y5,y6,y7,y8⟩:=box9 (HX.out.below hB2 HX.out.lt))
    all_goals
      go_wp2;go_ret;exact ⟨3,rfl,.inl ⟨rfl,HO.out⟩,HB.out.trans (hB2.mono HB.out.size)⟩
end Go.Proofs.YtfoidpcoiankoaaGreat