/- slices.symMergeCmpFunc over records. -/
import Derived.Test.YtcdnhhdknkhnkaaGreatZPmissial
import Derived.Test.YtcdnhhdknkhnkaaGreatZPmissiaj
import Derived.Test.YtcdnhhdknkhnkaaGreatZPmissiai
import Derived.Test.YtcdnhhdknkhnkaaGreatZPmissiah
import Derived.Deep.DeepCutAuto
set_option linter.unusedVariables false
set_option linter.unusedSimpArgs false
namespace Go.Proofs.YtcdnhhdknkhnkaaGreat
open Go.RowKit F256
theorem symMerge_n (x0 : Nat → RecD) (enc : Nat → List Value) (N blk cap lo hi : Nat) (hlo : hi ≤ lo) (hN : N < 1000000000) : ∀ (n : Nat) (p : Nat → Nat) (w : World) (a m b : Nat), b - a ≤ n → RowsV x0 enc N blk cap lo hi w p → a < m → m < b → b ≤ N → (∀ i j, a ≤ i → i < m → m ≤ j → j < b → p i < p j) → Sym.Srt (numL x0) p a m → Sym.Srt (numL x0) p m b → Calls Tryz.prog 135 #[.slice (some ⟨blk, 0, none⟩) N cap, .int .i64 a, .int .i64 m, .int .i64 b, .func (.func 72) #[] #[]] w (fun e w' => e = .returned (.tuple #[]) ∧ ∃ q, RowsV x0 enc N blk cap lo hi w' q ∧ Sym.Re a b p q ∧ Sym.Srt (numL x0) q a b ∧ ChgL [blk] w w')
  | 0, p, w, a, m, b, h, V, ham, hmb, hb, ht, h1, h2 => by omega
  | n + 1, p, w, a, m, b, h, V, ham, hmb, hb, ht, h1, h2 => by
    have IH : ∀ (p' : Nat → Nat) (w' : World) (a' m' b' : Nat), b' - a' < b - a → RowsV x0 enc N blk cap lo hi w' p' → a' < m' → m' < b' → b' ≤ N → (∀ i j, a' ≤ i → i < m' → m' ≤ j → j < b' → p' i < p' j) → Sym.Srt (numL x0) p' a' m' → Sym.Srt (numL x0) p' m' b' → Calls Tryz.prog 135 #[.slice (some ⟨blk, 0, none⟩) N cap, .int .i64 a', .int .i64 m', .int .i64 b', .func (.func 72) #[] #[]] w' (fun e w'' => e = .returned (.tuple #[]) ∧ ∃ q, RowsV x0 enc N blk cap lo hi w'' q ∧ Sym.Re a' b' p' q ∧ Sym.Srt (numL x0) q a' b' ∧ ChgL [blk] w' w'') := fun p' w' a' m' b' h' V' => symMerge_n x0 enc N blk cap lo hi hlo hN n p' w' a' m' b' (by omega) V'
    by_cases c1 : m = a + 1
    · exact symMerge_1 x0 enc p N blk cap lo hi w V hlo hN a m b ham hmb hb ht h1 h2 c1
    · by_cases c2 : b = m + 1
      · exact symMerge_2 x0 enc p N blk cap lo hi w V hlo hN a m b ham hmb hb ht h1 h2 c1 c2
      · by_cases c3 : (a + b) / 2 < m
        · exact symMerge_3a x0 enc p N blk cap lo hi w V hlo hN a m b _ ham hmb hb ht h1 h2 c1 c2 rfl c3 IH
        · exact symMerge_3b x0 enc p N blk cap lo hi w V hlo hN a m b _ ham hmb hb ht h1 h2 c1 c2 rfl (by omega) IH
theorem symMerge_any (x0 : Nat → RecD) (enc : Nat → List Value) (p : Nat → Nat) (N blk cap lo hi : Nat) (w : World) (V : RowsV x0 enc N blk cap lo hi w p) (hlo : hi ≤ lo) (hN : N < 1000000000) (a m b : Nat) (ham : a < m) (hmb : m < b) (hb : b ≤ N) (htag : ∀ i j, a ≤ i → i < m → m ≤ j → j < b → p i < p j) (hs1 : Sym.Srt (numL x0) p a m) (hs2 : Sym.Srt (numL x0) p m b) : Calls Tryz.prog 135 #[.slice (some ⟨blk, 0, none⟩) N cap, .int .i64 a, .int .i64 m, .int .i64 b, .func (.func 72) #[] #[]] w (fun e w' => e = .returned (.tuple #[]) ∧ ∃ q, RowsV x0 enc N blk cap lo hi w' q ∧ Sym.Re a b p q ∧ Sym.Srt (numL x0) q a b ∧ ChgL [blk] w w') := symMerge_n x0 enc N blk cap lo hi hlo hN (b - a) p w a m b (Nat.le_refl _) V ham hmb hb htag hs1 hs2
end Go.Proofs.YtcdnhhdknkhnkaaGreat
namespace Go.Proofs.YtcdnhhdknkhnkaaGreat
open Go.RowKit F256
structure Good (lt : Nat → Nat → Prop) (q : Nat → Nat) (a b : Nat) : Prop where
  srt : Sym.Srt lt q a b
  own : ∀ i, a ≤ i → i < b → a ≤ q i ∧ q i < b
theorem Good.congr {lt : Nat → Nat → Prop} {q q' : Nat → Nat} {a b : Nat} (h : Good lt q a b) (e : ∀ i, a ≤ i → i < b → q' i = q i) : Good lt q' a b := ⟨h.srt.congr e, fun i h1 h2 => by rw [e i h1 h2]; exact h.own i h1 h2⟩
inductive Blks (lt : Nat → Nat → Prop) (q : Nat → Nat) (s N : Nat) : Nat → Prop
  | nil {a : Nat} (h : N ≤ a) : Blks lt q s N a
  | cons {a : Nat} (h : a < N) (g : Good lt q a (min (a + s) N)) (r : Blks lt q s N (a + s)) : Blks lt q s N a
theorem Blks.congr {lt : Nat → Nat → Prop} {q q' : Nat → Nat} {s N a : Nat} (h : Blks lt q s N a) (e : ∀ i, a ≤ i → q' i = q i) : Blks lt q' s N a := by
  induction h with
  | nil h => exact .nil h
  | cons h g r ih => exact .cons h (g.congr fun i h1 _ => e i h1) (ih fun i h1 => e i (by omega))
inductive Done (lt : Nat → Nat → Prop) (q : Nat → Nat) (s : Nat) : Nat → Prop
  | zero : Done lt q s 0
  | snoc {a : Nat} (r : Done lt q s a) (g : Good lt q a (a + s)) : Done lt q s (a + s)
theorem Done.congr {lt : Nat → Nat → Prop} {q q' : Nat → Nat} {s a : Nat} (h : Done lt q s a) (e : ∀ i, i < a → q' i = q i) : Done lt q' s a := by
  induction h with
  | zero => exact .zero
  | snoc r g ih => exact .snoc (ih fun i h1 => e i (by omega)) (g.congr fun i _ h2 => e i h2)
theorem Done.app {lt : Nat → Nat → Prop} {q : Nat → Nat} {s N a : Nat} (hs : 0 < s) (h : Done lt q s a) (hN : a ≤ N) (b : Blks lt q s N a) : Blks lt q s N 0 := by
  induction h with
  | zero => exact b
  | snoc r g ih => exact ih (by omega) (.cons (by omega) (by rw [Nat.min_eq_left hN]; exact g) b)
theorem Blks.last {lt : Nat → Nat → Prop} {q : Nat → Nat} {s N a : Nat} (g : Good lt q a N) (h : N ≤ a + s) : Blks lt q s N a := by
  by_cases c : a < N
  · exact .cons c (by rw [Nat.min_eq_right h]; exact g) (.nil h)
  · exact .nil (by omega)
theorem Blks.all {lt : Nat → Nat → Prop} {q : Nat → Nat} {s N : Nat} (h : Blks lt q s N 0) (hs : N ≤ s) : Sym.Srt lt q 0 N := by
  cases h with
  | nil h => exact fun i j _ _ h3 => by omega
  | cons h g r =>
    have := g.srt
    rw [Nat.min_eq_right (by omega)] at this
    exact this
theorem Blks.open {lt : Nat → Nat → Prop} {q : Nat → Nat} {s N a : Nat} (h : Blks lt q s N a) (ha : a < N) : Good lt q a (min (a + s) N) ∧ Blks lt q s N (a + s) := by
  cases h with
  | nil h => omega
  | cons h g r => exact ⟨g, r⟩
theorem Good.merged {lt : Nat → Nat → Prop} {q q' : Nat → Nat} {a m b : Nat} (g1 : Good lt q a m) (g2 : Good lt q m b) (am : a ≤ m) (mb : m ≤ b) (k : Sym.Re a b q q') (s : Sym.Srt lt q' a b) : Good lt q' a b := ⟨s, fun i h1 h2 => by
  obtain ⟨j, hj, e⟩ := k.from ⟨h1, h2⟩
  rw [e]
  by_cases c : j < m
  · have := g1.own j hj.1 c
    omega
  · have := g2.own j (by omega) hj.2
    omega⟩
theorem Good.tags {lt : Nat → Nat → Prop} {q : Nat → Nat} {a m b : Nat} (g1 : Good lt q a m) (g2 : Good lt q m b) : ∀ i j, a ≤ i → i < m → m ≤ j → j < b → q i < q j := fun i j h1 h2 h3 h4 => by
  have := g1.own i h1 h2
  have := g2.own j h3 h4
  omega
theorem Good.fresh {lt : Nat → Nat → Prop} {q q' : Nat → Nat} {a b : Nat} (e : ∀ i, a ≤ i → q i = i) (k : Sym.Re a b q q') (s : Sym.Srt lt q' a b) : Good lt q' a b := ⟨s, fun i h1 h2 => by
  obtain ⟨j, hj, e1⟩ := k.from ⟨h1, h2⟩
  rw [e1, e j hj.1]
  exact hj⟩
end Go.Proofs.YtcdnhhdknkhnkaaGreat
namespace Go.Proofs.YtcdnhhdknkhnkaaGreat
open Go.RowKit F256
set_option maxHeartbeats 16000000 in
set_option maxRecDepth 1000000 in
theorem stable_any (x0 : Nat → RecD) (enc : Nat → List Value) (N blk cap lo hi : Nat) (w : World) (V : RowsV x0 enc N blk cap lo hi w (fun i => i)) (hlo : hi ≤ lo) (hN : N < 1000000000) :
    Calls Tryz.prog 110 #[.slice (some ⟨blk, 0, none⟩) N cap, .int .i64 N, .func (.func 72) #[] #[]] w (fun e w' => e = .returned (.tuple #[]) ∧ ∃ q, RowsV x0 enc N blk cap lo hi w' q ∧ Sym.Re 0 N (fun i => i) q ∧ Sym.Srt (numL x0) q 0 N ∧ ChgL [blk] w w') := by
  have HV0 : Hid (RowsV x0 enc N blk cap lo hi w (fun i => i)) := V
  clear V
  go_enter Tryz.func110, Tryz.ntmps110
  go_wp2
  go_loopw [7, 8] (fun va vb wr => ∃ (a B : Nat) (q : Nat → Nat), B = a + 20 ∧ a ≤ N ∧ va = .int .i64 a ∧ vb = .int .i64 B ∧ RowsV x0 enc N blk cap lo hi wr q ∧ Done (numL x0) q 20 a ∧ (∀ i, a ≤ i → q i = i) ∧ Sym.Re 0 N (fun i => i) q ∧ ChgL [blk] w wr) (fun va _ _ => N - (intOf va).toNat)
  case atStart => exact ⟨0, 20, (fun i => i), rfl, Nat.zero_le _, by go_num, by go_num, HV0.out, .zero, fun i _ => rfl, Sym.Re.refl _ _ _, ChgL.refl _ _⟩
  case round =>
    obtain ⟨a, B, q, hB, haN, rfl, rfl, V, hD, hid, hRe, C⟩ := hrel
    have HC : Hid (ChgL [blk] w wr) := C
    have HD : Hid (Done (numL x0) q 20 a) := hD
    have HI : Hid (∀ i, a ≤ i → q i = i) := hid
    have HRe : Hid (Sym.Re 0 N (fun i => i) q) := hRe
    have HB : Hid (B = a + 20) := hB
    clear C hD hid hRe
    have w1 : IntKind.i64.wrap ((B : Int) + 20) = ((B + 20 : Nat) : Int) := by rw [IntKind.wrap_i64]; omega
    by_cases hlt : B ≤ N
    · have t1 : (B : Int) ≤ (N : Int) := by omega
      have CS := insertion_any x0 enc q N blk cap lo hi wr V hlo hN a B (by omega) hlt (fun i j h1 h2 h3 => by rw [HI.out i h1, HI.out j (by omega)]; exact h2)
      clear V hB
      go_wp2_with fail
      refine CS.mono ?_
      rintro ee w2 ⟨rfl, q2, V2, hRe2, hS2, C2⟩
      have HV2 : Hid (RowsV x0 enc N blk cap lo hi w2 q2) := V2
      have HRe2 : Hid (Sym.Re a B q q2) := hRe2
      have HS2 : Hid (Sym.Srt (numL x0) q2 a B) := hS2
      have HC2 : Hid (ChgL [blk] w w2) := HC.out.trans C2
      clear V2 hRe2 hS2 C2 CS
      go_wp2
      go_roundw
      case rel =>
        have hB := HB.out
        have hk := HRe2.out
        exact ⟨B, B + 20, q2, rfl, hlt, rfl, by go_num, HV2.out, by rw [hB] at hk ⊢; exact .snoc (HD.out.congr fun i h1 => hk.out (.inl h1)) (Good.fresh HI.out hk (by rw [← hB]; exact HS2.out)), fun i h1 => by rw [hk.out (.inr h1)]; exact HI.out i (by omega), HRe.out.trans (hk.mono (Nat.zero_le _) hlt), HC2.out⟩
      case measure => have hB := HB.out; simp [intOf]; omega
    · have HNL : Hid (¬ B ≤ N) := hlt
      have f1 : decide ((B : Int) ≤ (N : Int)) = false := decide_eq_false (by omega)
      have g1 : decide (B ≤ N) = false := decide_eq_false hlt
      have CS := insertion_any x0 enc q N blk cap lo hi wr V hlo hN a N haN (Nat.le_refl _) (fun i j h1 h2 h3 => by rw [HI.out i h1, HI.out j (by omega)]; exact h2)
      clear V hB w1 hlt
      go_wp2_with fail
      refine CS.mono ?_
      rintro ee w2 ⟨rfl, q2, V2, hRe2, hS2, C2⟩
      have HV2 : Hid (RowsV x0 enc N blk cap lo hi w2 q2) := V2
      have HRe2 : Hid (Sym.Re a N q q2) := hRe2
      have HS2 : Hid (Sym.Srt (numL x0) q2 a N) := hS2
      have HC2 : Hid (ChgL [blk] w w2) := HC.out.trans C2
      clear V2 hRe2 hS2 C2 CS
      have HBl : Hid (Blks (numL x0) q2 20 N 0) := Done.app (by decide) (HD.out.congr fun i h1 => HRe2.out.out (.inl h1)) haN (Blks.last (Good.fresh HI.out HRe2.out HS2.out) (by have h1 := HB.out; have h2 := HNL.out; omega))
      have HReN : Hid (Sym.Re 0 N (fun i => i) q2) := HRe.out.trans (HRe2.out.mono (Nat.zero_le _) (Nat.le_refl _))
      clear HD HI HRe HRe2 HS2 HC HNL HB f1 g1
      go_wp2
      go_loopw [6] (fun vs wr => ∃ (s : Nat) (q : Nat → Nat), 20 ≤ s ∧ s < 2000000000 ∧ vs = .int .i64 s ∧ RowsV x0 enc N blk cap lo hi wr q ∧ Blks (numL x0) q s N 0 ∧ Sym.Re 0 N (fun i => i) q ∧ ChgL [blk] w wr) (fun vs _ => N - (intOf vs).toNat)
      case atStart => exact ⟨20, q2, Nat.le_refl _, by decide, by go_num, HV2.out, HBl.out, HReN.out, HC2.out⟩
      case round =>
        obtain ⟨s, q3, hs20, hs2, rfl, V, hBl, hRe, C⟩ := hrel
        have HVs : Hid (RowsV x0 enc N blk cap lo hi wr q3) := V
        have HCs : Hid (ChgL [blk] w wr) := C
        have HBs : Hid (Blks (numL x0) q3 s N 0) := hBl
        have HRes : Hid (Sym.Re 0 N (fun i => i) q3) := hRe
        clear C hBl hRe V HV2 HBl HReN HC2
        by_cases hlt : s < N
        · have t2 : (s : Int) < (N : Int) := by omega
          obtain ⟨T, hT⟩ : ∃ T, T = 2 * s := ⟨_, rfl⟩
          have HT : Hid (T = 2 * s) := hT
          have w2 : IntKind.i64.wrap (2 * (s : Int)) = (T : Int) := by rw [IntKind.wrap_i64]; omega
          have w3 : IntKind.i64.wrap ((s : Int) * 2) = (T : Int) := by rw [IntKind.wrap_i64]; omega
          clear hT
          go_wp2
          go_loopw [7, 8] (fun va vb wr => ∃ (a B : Nat) (q : Nat → Nat), B = a + T ∧ a ≤ N ∧ va = .int .i64 a ∧ vb = .int .i64 B ∧ RowsV x0 enc N blk cap lo hi wr q ∧ Done (numL x0) q T a ∧ Blks (numL x0) q s N a ∧ Sym.Re 0 N (fun i => i) q ∧ ChgL [blk] w wr) (fun va _ _ => N - (intOf va).toNat)
          case atStart => exact ⟨0, T, q3, by omega, Nat.zero_le _, by go_num, by go_num, HVs.out, .zero, HBs.out, HRes.out, HCs.out⟩
          case round =>
            obtain ⟨a, B, q4, hB, haN, rfl, rfl, V, hD, hBl, hRe, C⟩ := hrel
            have hT := HT.out
            have HC : Hid (ChgL [blk] w wr) := C
            have HD : Hid (Done (numL x0) q4 T a) := hD
            have HBl : Hid (Blks (numL x0) q4 s N a) := hBl
            have HRe : Hid (Sym.Re 0 N (fun i => i) q4) := hRe
            have HB : Hid (B = a + T) := hB
            have HV4 : Hid (RowsV x0 enc N blk cap lo hi wr q4) := V
            clear C hD hBl hRe HVs HBs HRes HCs V
            obtain ⟨M, hM⟩ : ∃ M, M = a + s := ⟨_, rfl⟩
            have HM : Hid (M = a + s) := hM
            have w4 : IntKind.i64.wrap ((a : Int) + (s : Int)) = (M : Int) := by rw [IntKind.wrap_i64]; omega
            have w5 : IntKind.i64.wrap ((B : Int) + (T : Int)) = ((B + T : Nat) : Int) := by rw [IntKind.wrap_i64]; omega
            by_cases hle : B ≤ N
            · have t3 : (B : Int) ≤ (N : Int) := by omega
              have o1 := HBl.out.open (by omega)
              rw [← hM] at o1
              have o2 := o1.2.open (by omega)
              rw [Nat.min_eq_left (by omega)] at o1
              rw [show M + s = B by omega, Nat.min_eq_left hle] at o2
              have HG1 : Hid (Good (numL x0) q4 a M) := o1.1
              have HG2 : Hid (Good (numL x0) q4 M B) := o2.1
              have HBr : Hid (Blks (numL x0) q4 s N B) := o2.2
              have CS := symMerge_any x0 enc q4 N blk cap lo hi wr HV4.out hlo hN a M B (by omega) (by omega) hle (HG1.out.tags HG2.out) HG1.out.srt HG2.out.srt
              clear o1 o2 hB hM hT
              go_wp2_with fail
              refine CS.mono ?_
              rintro ee w9 ⟨rfl, q5, V2, hRe2, hS2, C2⟩
              have HV2 : Hid (RowsV x0 enc N blk cap lo hi w9 q5) := V2
              have HRe2 : Hid (Sym.Re a B q4 q5) := hRe2
              have HS2 : Hid (Sym.Srt (numL x0) q5 a B) := hS2
              have HC2 : Hid (ChgL [blk] w w9) := HC.out.trans C2
              clear V2 hRe2 hS2 C2 CS
              go_wp2
              go_roundw
              case rel =>
                have hB := HB.out
                have hM := HM.out
                have hT := HT.out
                have hk := HRe2.out
                exact ⟨B, B + T, q5, rfl, hle, rfl, by go_num, HV2.out, by
                  have g := HG1.out.merged HG2.out (by omega) (by omega) hk HS2.out
                  rw [hB] at hk g ⊢
                  exact .snoc (HD.out.congr fun i h1 => hk.out (.inl h1)) g, HBr.out.congr (fun i h1 => hk.out (.inr h1)), HRe.out.trans (hk.mono (Nat.zero_le _) hle), HC2.out⟩
              case measure => have hB := HB.out; have hT := HT.out; simp [intOf]; omega
            · have HNL : Hid (¬ B ≤ N) := hle
              have f1 : decide ((B : Int) ≤ (N : Int)) = false := decide_eq_false (by omega)
              have g1 : decide (B ≤ N) = false := decide_eq_false hle
              by_cases hm : M < N
              · have t3 : (M : Int) < (N : Int) := by omega
                have o1 := HBl.out.open (by omega)
                rw [← hM] at o1
                have o2 := o1.2.open (by omega)
                rw [Nat.min_eq_left (by omega)] at o1
                rw [Nat.min_eq_right (by omega)] at o2
                have HG1 : Hid (Good (numL x0) q4 a M) := o1.1
                have HG2 : Hid (Good (numL x0) q4 M N) := o2.1
                have CS := symMerge_any x0 enc q4 N blk cap lo hi wr HV4.out hlo hN a M N (by omega) hm (Nat.le_refl _) (HG1.out.tags HG2.out) HG1.out.srt HG2.out.srt
                clear o1 o2 hB hM hT hle
                go_wp2_with fail
                refine CS.mono ?_
                rintro ee w9 ⟨rfl, q5, V2, hRe2, hS2, C2⟩
                have HV2 : Hid (RowsV x0 enc N blk cap lo hi w9 q5) := V2
                have HRe2 : Hid (Sym.Re a N q4 q5) := hRe2
                have HS2 : Hid (Sym.Srt (numL x0) q5 a N) := hS2
                have HC2 : Hid (ChgL [blk] w w9) := HC.out.trans C2
                clear V2 hRe2 hS2 C2 CS
                go_wp2
                go_roundw
                case rel =>
                  have hB := HB.out
                  have hM := HM.out
                  have hT := HT.out
                  have hNL := HNL.out
                  have hk := HRe2.out
                  exact ⟨T, q5, by omega, by omega, by go_num, HV2.out, Done.app (by omega) (HD.out.congr fun i h1 => hk.out (.inl h1)) haN (Blks.last (HG1.out.merged HG2.out (by omega) (by omega) hk HS2.out) (by omega)), HRe.out.trans (hk.mono (Nat.zero_le _) (Nat.le_refl _)), HC2.out⟩
                case measure => have hT := HT.out; simp [intOf]; omega
              · have f2 : decide ((M : Int) < (N : Int)) = false := decide_eq_false (by omega)
                have g2 : decide (M < N) = false := decide_eq_false hm
                have HBT : Hid (Blks (numL x0) q4 T N a) := (by
                  by_cases c : a < N
                  · have o1 := (HBl.out.open c).1
                    rw [Nat.min_eq_right (by omega)] at o1
                    exact Blks.last o1 (by omega)
                  · exact .nil (by omega) : Blks (numL x0) q4 T N a)
                clear hB hM hT hle hm
                go_wp2
                go_roundw
                case rel => have hT := HT.out; exact ⟨T, q4, by omega, by omega, by go_num, HV4.out, Done.app (by omega) HD.out haN HBT.out, HRe.out, HC.out⟩
                case measure => have hT := HT.out; simp [intOf]; omega
        · have f2 : decide ((s : Int) < (N : Int)) = false := decide_eq_false (by omega)
          have g2 : decide (s < N) = false := decide_eq_false hlt
          have HNL : Hid (N ≤ s) := (by omega : N ≤ s)
          clear hlt
          go_wp2
          go_end0
          exact ⟨rfl, q3, HVs.out, HRes.out, HBs.out.all HNL.out, HCs.out⟩
end Go.Proofs.YtcdnhhdknkhnkaaGreat
namespace Go.Proofs.YtcdnhhdknkhnkaaGreat
open Go.RowKit F256
set_option maxHeartbeats 8000000 in
set_option maxRecDepth 1000000 in
theorem sortStable_any (x0 : Nat → RecD) (enc : Nat → List Value) (N blk cap lo hi : Nat) (w : World) (V : RowsV x0 enc N blk cap lo hi w (fun i => i)) (hlo : hi ≤ lo) (hN : N < 1000000000) :
    Calls Tryz.prog 71 #[.slice (some ⟨blk, 0, none⟩) N cap, .func (.func 72) #[] #[]] w (fun e w' => e = .returned (.tuple #[]) ∧ ∃ q, RowsV x0 enc N blk cap lo hi w' q ∧ Sym.Re 0 N (fun i => i) q ∧ Sym.Srt (numL x0) q 0 N ∧ ChgL [blk] w w') := by
  have CS := stable_any x0 enc N blk cap lo hi w V hlo hN
  clear V
  go_enter Tryz.func71, Tryz.ntmps71
  go_wp2_with fail
  refine CS.mono ?_
  rintro ee w2 ⟨rfl, q, V2, hRe, hS, C⟩
  have HV2 : Hid (RowsV x0 enc N blk cap lo hi w2 q) := V2
  have HRe : Hid (Sym.Re 0 N (fun i => i) q) := hRe
  have HS : Hid (Sym.Srt (numL x0) q 0 N) := hS
  have HC : Hid (ChgL [blk] w w2) := C
  clear V2 hRe hS C CS
  go_wp2
  go_end0
  exact ⟨rfl, q, HV2.out, HRe.out, HS.out, HC.out⟩
set_option maxHeartbeats 8000000 in
set_option maxRecDepth 1000000 in
theorem insertion_nil (w : World) : Calls Tryz.prog 134 #[.slice none 0 0, .int .i64 0, .int .i64 0, .func (.func 72) #[] #[]] w (fun e w' => e = .returned (.tuple #[]) ∧ Below w.heap.size w w') := by
  go_enter Tryz.func134, Tryz.ntmps134
  go_wp2
  go_loopw [8] (fun vi wr => vi = .int .i64 1 ∧ Below w.heap.size w wr) (fun _ _ => 0)
  case atStart => exact ⟨by go_num, ⟨rfl, rfl, rfl, Nat.le_refl _, fun _ _ => rfl⟩⟩
  case round =>
    obtain ⟨rfl, hb⟩ := hrel
    go_wp2
    go_end0
    exact ⟨rfl, hb⟩
set_option maxHeartbeats 8000000 in
set_option maxRecDepth 1000000 in
theorem stable_nil (w : World) : Calls Tryz.prog 110 #[.slice none 0 0, .int .i64 0, .func (.func 72) #[] #[]] w (fun e w' => e = .returned (.tuple #[]) ∧ Below w.heap.size w w') := by
  have CS := insertion_nil w
  go_enter Tryz.func110, Tryz.ntmps110
  go_wp2
  go_loopw [7, 8] (fun va vb wr => va = .int .i64 0 ∧ vb = .int .i64 20 ∧ wr = w) (fun _ _ _ => 0)
  case atStart => exact ⟨by go_num, by go_num, rfl⟩
  case round =>
    obtain ⟨rfl, rfl, rfl⟩ := hrel
    go_wp2_with fail
    refine CS.mono ?_
    rintro ee w2 ⟨rfl, hb⟩
    have HB : Hid (Below wr.heap.size wr w2) := hb
    clear hb CS
    go_wp2
    go_loopw [6] (fun vs w' => vs = .int .i64 20 ∧ Below wr.heap.size wr w') (fun _ _ => 0)
    case atStart => exact ⟨by go_num, HB.out⟩
    case round =>
      obtain ⟨rfl, hb⟩ := hrel
      go_wp2
      go_end0
      exact ⟨rfl, hb⟩
set_option maxHeartbeats 8000000 in
set_option maxRecDepth 1000000 in
theorem sortStable_nil (w : World) : Calls Tryz.prog 71 #[.slice none 0 0, .func (.func 72) #[] #[]] w (fun e w' => e = .returned (.tuple #[]) ∧ Below w.heap.size w w') := by
  have CS := stable_nil w
  go_enter Tryz.func71, Tryz.ntmps71
  go_wp2_with fail
  refine CS.mono ?_
  rintro ee w2 ⟨rfl, hb⟩
  go_wp2
  go_end0
  exact ⟨rfl, hb⟩
end Go.Proofs.YtcdnhhdknkhnkaaGreat
namespace Go.Proofs.YtcdnhhdknkhnkaaGreat
open Go.RowKit F256
theorem size_Rec : (Tryz.prog.info? 92).map (·.size) = some 9 := by kernel_rfl
set_option maxHeartbeats 8000000 in
set_option maxRecDepth 100000 in
theorem hasOne_any (a r : RecD) (ca cr : List Value) (hi p : Nat) (w : World) (ha : layRec.rd w hi a ca) (hr : layRec.rd w hi r cr) (hB : Box w p cr.toArray 92) (hhi : hi ≤ w.heap.size) :
    Calls Tryz.prog 114 #[.agg ca.toArray, .pointer (some ⟨p, 0, none⟩)] w (BoolP (SameR a r) w) := by
  have hpl := hB.lt
  have B0 := one_new w ca.toArray 92
  have HB0 : Hid (Below w.heap.size w (w.alloc (.cells ca.toArray 92))) := B0.bel
  have X1 : Box (w.alloc (.cells ca.toArray 92)) w.heap.size ca.toArray 92 := B0.b1
  have X2 : Box (w.alloc (.cells ca.toArray 92)) p cr.toArray 92 := hB.below B0.bel hpl
  have CS := implSame_any a r ca cr hi hi (w.alloc (.cells ca.toArray 92)) (layRec.rd_below ha B0.bel hhi) (layRec.rd_below hr B0.bel hhi) (Nat.le_trans hhi B0.bel.size) (Nat.le_trans hhi B0.bel.size)
  obtain ⟨a6, ak6, a7, ak7, a8, ak8, rfl, -⟩ := Rec_rd ha
  obtain ⟨b6, bk6, b7, bk7, b8, bk8, rfl, -⟩ := Rec_rd hr
  clear B0 hB
  go_enter Tryz.func114, Tryz.ntmps114
  go_wp2_with (first | (refine wp_loadBox 92 (.tmp 2) rfl rfl (w.heap.size) rfl (cs := [.int .i64 a.kind, .int .i64 a.seq, .string a.name, .int .i64 a.length, .int .i64 a.group, .int .i64 a.row, .slice a6 a.rows.1 ak6, .slice a7 a.data.1 ak7, .slice a8 a.delta.1 ak8]) X1 Tryz.underlying92 size_Rec rfl ?_) | (refine wp_loadBox 92 (.tmp 1) rfl rfl p rfl (cs := [.int .i64 r.kind, .int .i64 r.seq, .string r.name, .int .i64 r.length, .int .i64 r.group, .int .i64 r.row, .slice b6 r.rows.1 bk6, .slice b7 r.data.1 bk7, .slice b8 r.delta.1 bk8]) X2 Tryz.underlying92 size_Rec rfl ?_))
  refine CS.mono ?_
  rintro e w1 ⟨t, rfl, ht, b1⟩
  have HB1 : Hid (Below w.heap.size w w1) := HB0.out.trans (b1.mono HB0.out.size)
  have HT : Hid (t = true ↔ SameR a r) := ht
  clear CS b1 ht X1 X2
  go_wp2
  go_ret
  exact ⟨t, rfl, HT.out, HB1.out⟩
set_option maxHeartbeats 8000000 in
set_option maxRecDepth 100000 in
theorem indexSame_any (v : Value) (m : Nat) (y : Nat → RecD) (r : RecD) (cr : List Value) (hi p : Nat) (w : World) (h : (layRec.slice 92).rd w hi (m, y) [v]) (hr : layRec.rd w hi r cr) (hB : Box w p cr.toArray 92) (hhi : hi ≤ w.heap.size) (hm : m ≤ 1048576) :
    Calls Tryz.prog 119 #[v, .func (.func 114) #[] #[.pointer (some ⟨p, 0, none⟩)]] w fun e w' => ((e = .returned (.int .i64 (-1)) ∧ ∀ i, i < m → ¬ SameR (y i) r) ∨ ∃ i : Nat, i < m ∧ e = .returned (.int .i64 (i : Int)) ∧ SameR (y i) r) ∧ Below w.heap.size w w' := by
  obtain ⟨ao, cap, e, hmm, hc⟩ := h
  obtain rfl : v = .slice ao m cap := by simpa using e
  have hpl := hB.lt
  have HBx : Hid (Box w p cr.toArray 92) := hB
  have HR : Hid (layRec.rd w hi r cr) := hr
  have HCC := hc
  have HC : Hid (m ≠ 0 → ∃ b off, ao = some ⟨b, off, none⟩ ∧ b < hi ∧ ∀ i, i < m → ∃ ce, layRec.rd w hi (y i) ce ∧ ∀ j, j < layRec.sz → w.cell? ⟨b, off + (i * layRec.sz + j), none⟩ = ce[j]?) := hc
  clear hB hr e hmm hc HCC
  go_enter Tryz.func119, Tryz.ntmps119
  go_wp2
  go_loopw [8] (fun z wr => ∃ k : Nat, k ≤ m ∧ z = .int .i64 k ∧ (∀ t, t < k → ¬ SameR (y t) r) ∧ Below w.heap.size w wr) (fun z _ => m - (intOf z).toNat)
  case atStart => exact ⟨0, Nat.zero_le _, rfl, fun t ht => by omega, Below.refl _ _⟩
  case round =>
    obtain ⟨k, hk, rfl, hall, hbl⟩ := hrel
    obtain ⟨wx, rfl⟩ : ∃ y, y = wr := ⟨_, rfl⟩
    have HALL : Hid (∀ t, t < k → ¬ SameR (y t) r) := hall
    have HBL : Hid (Below w.heap.size w wx) := hbl
    have zx := hbl.size
    clear hall
    by_cases hlt : k < m
    · obtain ⟨b, off, rfl, hbh, hel⟩ := HC.out (by omega)
      obtain ⟨ce, hy, hcell⟩ := elem_rd (t := 92) hel hbl hhi hbh hlt
      have CS := hasOne_any (y k) r ce cr hi p wx hy (layRec.rd_below HR.out hbl hhi) (HBx.out.below hbl hpl) (by omega)
      obtain ⟨c6, ck6, c7, ck7, c8, ck8, rfl, -⟩ := Rec_rd hy
      have hcell : ∀ j, j < 9 → wx.cell? ⟨b, off + (k * 9 + j), none⟩ = [.int .i64 (y k).kind, .int .i64 (y k).seq, .string (y k).name, .int .i64 (y k).length, .int .i64 (y k).group, .int .i64 (y k).row, .slice c6 (y k).rows.1 ck6, .slice c7 (y k).data.1 ck7, .slice c8 (y k).delta.1 ck8][j]? := hcell
      have s_0 : wx.cell? ⟨b, off + k * 9, none⟩ = some (.int .i64 (y k).kind) := by have := hcell 0 (by decide); rw [← Nat.add_assoc] at this; exact this
      have s_1 : wx.cell? ⟨b, off + k * 9 + 1, none⟩ = some (.int .i64 (y k).seq) := by have := hcell 1 (by decide); rw [← Nat.add_assoc] at this; exact this
      have s_2 : wx.cell? ⟨b, off + k * 9 + 2, none⟩ = some (.string (y k).name) := by have := hcell 2 (by decide); rw [← Nat.add_assoc] at this; exact this
      have s_3 : wx.cell? ⟨b, off + k * 9 + 3, none⟩ = some (.int .i64 (y k).length) := by have := hcell 3 (by decide); rw [← Nat.add_assoc] at this; exact this
      have s_4 : wx.cell? ⟨b, off + k * 9 + 4, none⟩ = some (.int .i64 (y k).group) := by have := hcell 4 (by decide); rw [← Nat.add_assoc] at this; exact this
      have s_5 : wx.cell? ⟨b, off + k * 9 + 5, none⟩ = some (.int .i64 (y k).row) := by have := hcell 5 (by decide); rw [← Nat.add_assoc] at this; exact this
      have s_6 : wx.cell? ⟨b, off + k * 9 + 6, none⟩ = some (.slice c6 (y k).rows.1 ck6) := by have := hcell 6 (by decide); rw [← Nat.add_assoc] at this; exact this
      have s_7 : wx.cell? ⟨b, off + k * 9 + 7, none⟩ = some (.slice c7 (y k).data.1 ck7) := by have := hcell 7 (by decide); rw [← Nat.add_assoc] at this; exact this
      have s_8 : wx.cell? ⟨b, off + k * 9 + 8, none⟩ = some (.slice c8 (y k).delta.1 ck8) := by have := hcell 8 (by decide); rw [← Nat.add_assoc] at this; exact this
      have i1 : (0 : Int) ≤ (k : Int) := by omega
      have i2 : (k : Int) < (m : Int) := by omega
      clear hbl hcell hel
      go_wp2_with fail
      refine CS.mono ?_
      rintro e w5 ⟨t, rfl, ht, b5⟩
      have B5 : Hid (Below w.heap.size w w5) := HBL.out.trans (b5.mono zx)
      have HT : Hid (t = true ↔ SameR (y k) r) := ht
      clear b5 CS ht hy
      cases t with
      | true =>
        go_wp2
        go_ret
        exact ⟨.inr ⟨k, hlt, rfl, HT.out.1 (by simp)⟩, B5.out⟩
      | false =>
        go_wp2
        go_roundw
        case rel => exact ⟨k + 1, by omega, by go_num, fun t ht => by
                      by_cases c : t = k
                      · rw [c]; intro hs; exact absurd (HT.out.2 hs) (by simp)
                      · exact HALL.out t (by omega), B5.out⟩
        case measure => simp [intOf]; omega
    · obtain rfl : k = m := by omega
      clear hbl
      go_wp2
      go_ret
      exact ⟨.inl ⟨rfl, HALL.out⟩, HBL.out⟩
set_option maxHeartbeats 8000000 in
set_option maxRecDepth 100000 in
theorem containsSame_any (v : Value) (m : Nat) (y : Nat → RecD) (r : RecD) (cr : List Value) (hi p : Nat) (w : World) (h : (layRec.slice 92).rd w hi (m, y) [v]) (hr : layRec.rd w hi r cr) (hB : Box w p cr.toArray 92) (hhi : hi ≤ w.heap.size) (hm : m ≤ 1048576) :
    Calls Tryz.prog 113 #[v, .func (.func 114) #[] #[.pointer (some ⟨p, 0, none⟩)]] w (BoolP (∃ i, i < m ∧ SameR (y i) r) w) := by
  have CS := indexSame_any v m y r cr hi p w h hr hB hhi hm
  clear h hr hB
  go_enter Tryz.func113, Tryz.ntmps113
  go_wp2_with fail
  refine CS.mono ?_
  rintro e w1 ⟨⟨rfl, hn⟩ | ⟨i, hi', rfl, hs⟩, b1⟩
  · have HN : Hid (∀ i, i < m → ¬ SameR (y i) r) := hn
    have HB : Hid (Below w.heap.size w w1) := b1
    clear hn b1 CS
    go_wp2
    go_ret
    exact boolNo rfl (fun ⟨i, h1, h2⟩ => HN.out i h1 h2) HB.out
  · have HS : Hid (SameR (y i) r) := hs
    have HB : Hid (Below w.heap.size w w1) := b1
    have hd : decide ((0 : Int) ≤ (i : Int)) = true := by simp
    clear hs b1 CS
    go_wp2
    go_ret
    exact boolYes (by simp) ⟨i, hi', HS.out⟩ HB.out
set_option maxHeartbeats 8000000 in
set_option maxRecDepth 100000 in
theorem hasRec_any (v : Value) (m : Nat) (y : Nat → RecD) (r : RecD) (cr : List Value) (hi : Nat) (w : World) (h : (layRec.slice 92).rd w hi (m, y) [v]) (hr : layRec.rd w hi r cr) (hhi : hi ≤ w.heap.size) (hm : m ≤ 1048576) :
    Calls Tryz.prog 73 #[v, .agg cr.toArray] w (BoolP (∃ i, i < m ∧ SameR (y i) r) w) := by
  have B0 := one_new w cr.toArray 92
  have HB0 : Hid (Below w.heap.size w (w.alloc (.cells cr.toArray 92))) := B0.bel
  have CS := containsSame_any v m y r cr hi w.heap.size (w.alloc (.cells cr.toArray 92)) (Lay.rd_below _ h B0.bel hhi) (layRec.rd_below hr B0.bel hhi) B0.b1 (Nat.le_trans hhi B0.bel.size) hm
  obtain ⟨b6, bk6, b7, bk7, b8, bk8, rfl, -⟩ := Rec_rd hr
  clear B0 h
  go_enter Tryz.func73, Tryz.ntmps73
  go_wp2_with fail
  refine CS.mono ?_
  rintro e w1 ⟨t, rfl, ht, b1⟩
  have HB1 : Hid (Below w.heap.size w w1) := HB0.out.trans (b1.mono HB0.out.size)
  have HT : Hid (t = true ↔ ∃ i, i < m ∧ SameR (y i) r) := ht
  clear CS b1 ht
  go_wp2
  go_ret
  exact ⟨t, rfl, HT.out, HB1.out⟩
end Go.Proofs.YtcdnhhdknkhnkaaGreat
namespace Go.Proofs.YtcdnhhdknkhnkaaGreat
open Go.RowKit F256
theorem el_Rec : ElInfo layRec 30 92 128 [.int .i64 0, .int .i64 0, .string ByteArray.empty, .int .i64 0, .int .i64 0, .int .i64 0, .slice none 0 0, .slice none 0 0, .slice none 0 0] := ⟨by decide, rfl, Tryz.underlying30, by kernel_rfl, by decide⟩
set_option maxHeartbeats 8000000 in
set_option maxRecDepth 20000 in
theorem copyRec_is : ToV layRec szRecD 70 := fun cs d hi w r hhi hn => by
  obtain ⟨ao6, cap6, ao7, cap7, ao8, cap8, rfl, h6, h7, h8, k0, k1, k2, k3, k4, k5⟩ := Rec_rd r
  clear r
  unfold szRecD at hn
  have R6 : Hid (layInts.rd w hi d.rows [.slice ao6 d.rows.1 cap6]) := h6
  have R7 : Hid (layBytes.rd w hi d.data [.slice ao7 d.data.1 cap7]) := h7
  have R8 : Hid (layBytes.rd w hi d.delta [.slice ao8 d.delta.1 cap8]) := h8
  clear h6 h7 h8
  have Q0 : Hid (-9223372036854775808 ≤ d.kind ∧ d.kind ≤ 9223372036854775807) := k0
  have Q1 : Hid (-9223372036854775808 ≤ d.seq ∧ d.seq ≤ 9223372036854775807) := k1
  have Q2 : Hid (d.name.size ≤ maxLen) := k2
  have Q3 : Hid (-9223372036854775808 ≤ d.length ∧ d.length ≤ 9223372036854775807) := k3
  have Q4 : Hid (-9223372036854775808 ≤ d.group ∧ d.group ≤ 9223372036854775807) := k4
  have Q5 : Hid (-9223372036854775808 ≤ d.row ∧ d.row ≤ 9223372036854775807) := k5
  clear k0 k1 k2 k3 k4 k5
  have T0 := two_newb w #[.int .i64 d.kind, .int .i64 d.seq, .string d.name, .int .i64 d.length, .int .i64 d.group, .int .i64 d.row, .slice ao6 d.rows.1 cap6, .slice ao7 d.data.1 cap7, .slice ao8 d.delta.1 cap8] #[.int .i64 0, .int .i64 0, .string ByteArray.empty, .int .i64 0, .int .i64 0, .int .i64 0, .slice none 0 0, .slice none 0 0, .slice none 0 0] 92 92
  go_enter Tryz.func70, Tryz.ntmps70
  go_wp2_with fail
  refine (copyInts_is _ d.rows hi _ (layInts.rd_below R6.out T0.bel hhi) (Nat.le_trans hhi T0.bel.size) (by omega)).mono ?_
  rintro e w1 ⟨v0, rfl, o0, b0⟩
  obtain ⟨bo6, bcap6, hv⟩ := ints_formT o0
  obtain rfl := one_eq hv
  clear hv
  have T0c := T0.call b0
  have z0 := T0.b2.lt
  have y0 := b0.size
  have c0_6 : w1.cell? ⟨w.heap.size, 6, none⟩ = some (.slice ao6 d.rows.1 cap6) := T0c.b1.cell 6
  have c0f_6 : w1.frozen? ⟨w.heap.size, 6, none⟩ = false := T0c.b1.frozen 6
  have T1x : Two w (w1.setCell ⟨w.heap.size, 6, none⟩ (.slice bo6 d.rows.1 bcap6)) #[.int .i64 d.kind, .int .i64 d.seq, .string d.name, .int .i64 d.length, .int .i64 d.group, .int .i64 d.row, .slice bo6 d.rows.1 bcap6, .slice ao7 d.data.1 cap7, .slice ao8 d.delta.1 cap8] #[.int .i64 0, .int .i64 0, .string ByteArray.empty, .int .i64 0, .int .i64 0, .int .i64 0, .slice none 0 0, .slice none 0 0, .slice none 0 0] 92 92 := ⟨T0c.b1.stL [.slice bo6 d.rows.1 bcap6] 6, T0c.b2.seto _ _ (by omega), T0c.bel.setCell (Nat.le_refl _) _⟩
  have O6_0 := (o0.stN w.heap.size 6 [.slice bo6 d.rows.1 bcap6] (by omega))
  have e1 : (w1.setCell ⟨w.heap.size, 6, none⟩ (.slice bo6 d.rows.1 bcap6)).heap.size = w1.heap.size := by simp
  clear o0 b0 
  go_upto_region 2 with fail
  obtain ⟨W1, hW1⟩ : ∃ x, x = w1.setCell ⟨w.heap.size, 6, none⟩ (.slice bo6 d.rows.1 bcap6) := ⟨_, rfl⟩
  have O6 : Hid (OwnT layInts W1 (w.heap.size + 1 + 1) (w1.heap.size) d.rows [.slice bo6 d.rows.1 bcap6]) := by rw [hW1]; exact OwnT.weaken O6_0 (by simp) (Nat.le_refl _)
  rw [← hW1] at T1x e1 ⊢
  clear hW1 O6_0 T0c c0_6 c0f_6
  have a1_7 : W1.cell? ⟨w.heap.size, 7, none⟩ = some (.slice ao7 d.data.1 cap7) := T1x.b1.cell 7
  go_wp2_with fail
  refine (copyBytes_is _ d.data hi _ (layBytes.rd_below R7.out T1x.bel hhi) (Nat.le_trans hhi T1x.bel.size) (by omega)).mono ?_
  rintro e w2 ⟨v1, rfl, o1, b1⟩
  obtain ⟨bo7, bcap7, hv⟩ := bytes_formT o1
  obtain rfl := one_eq hv
  clear hv
  have T1c := T1x.call b1
  have z1 := T1x.b2.lt
  have y1 := b1.size
  have c1_7 : w2.cell? ⟨w.heap.size, 7, none⟩ = some (.slice ao7 d.data.1 cap7) := T1c.b1.cell 7
  have c1f_7 : w2.frozen? ⟨w.heap.size, 7, none⟩ = false := T1c.b1.frozen 7
  have T2x : Two w (w2.setCell ⟨w.heap.size, 7, none⟩ (.slice bo7 d.data.1 bcap7)) #[.int .i64 d.kind, .int .i64 d.seq, .string d.name, .int .i64 d.length, .int .i64 d.group, .int .i64 d.row, .slice bo6 d.rows.1 bcap6, .slice bo7 d.data.1 bcap7, .slice ao8 d.delta.1 cap8] #[.int .i64 0, .int .i64 0, .string ByteArray.empty, .int .i64 0, .int .i64 0, .int .i64 0, .slice none 0 0, .slice none 0 0, .slice none 0 0] 92 92 := ⟨T1c.b1.stL [.slice bo7 d.data.1 bcap7] 7, T1c.b2.seto _ _ (by omega), T1c.bel.setCell (Nat.le_refl _) _⟩
  have O6_1 := (O6.out.call b1).stN w.heap.size 7 [.slice bo7 d.data.1 bcap7] (by omega)
  have O7_1 := (o1.stN w.heap.size 7 [.slice bo7 d.data.1 bcap7] (by omega))
  have e2 : (w2.setCell ⟨w.heap.size, 7, none⟩ (.slice bo7 d.data.1 bcap7)).heap.size = w2.heap.size := by simp
  clear o1 b1 O6 T1x a1_7
  go_upto_region 3 with fail
  obtain ⟨W2, hW2⟩ : ∃ x, x = w2.setCell ⟨w.heap.size, 7, none⟩ (.slice bo7 d.data.1 bcap7) := ⟨_, rfl⟩
  have O6 : Hid (OwnT layInts W2 (w.heap.size + 1 + 1) (w1.heap.size) d.rows [.slice bo6 d.rows.1 bcap6]) := by rw [hW2]; exact O6_1
  have O7 : Hid (OwnT layBytes W2 (W1.heap.size) (w2.heap.size) d.data [.slice bo7 d.data.1 bcap7]) := by rw [hW2]; exact O7_1
  rw [← hW2] at T2x e2 ⊢
  clear hW2 O6_1 O7_1 T1c c1_7 c1f_7
  have a2_8 : W2.cell? ⟨w.heap.size, 8, none⟩ = some (.slice ao8 d.delta.1 cap8) := T2x.b1.cell 8
  go_wp2_with fail
  refine (copyBytes_is _ d.delta hi _ (layBytes.rd_below R8.out T2x.bel hhi) (Nat.le_trans hhi T2x.bel.size) (by omega)).mono ?_
  rintro e w3 ⟨v2, rfl, o2, b2⟩
  obtain ⟨bo8, bcap8, hv⟩ := bytes_formT o2
  obtain rfl := one_eq hv
  clear hv
  have T2c := T2x.call b2
  have z2 := T2x.b2.lt
  have y2 := b2.size
  have c2_8 : w3.cell? ⟨w.heap.size, 8, none⟩ = some (.slice ao8 d.delta.1 cap8) := T2c.b1.cell 8
  have c2f_8 : w3.frozen? ⟨w.heap.size, 8, none⟩ = false := T2c.b1.frozen 8
  have T3x : Two w (w3.setCell ⟨w.heap.size, 8, none⟩ (.slice bo8 d.delta.1 bcap8)) #[.int .i64 d.kind, .int .i64 d.seq, .string d.name, .int .i64 d.length, .int .i64 d.group, .int .i64 d.row, .slice bo6 d.rows.1 bcap6, .slice bo7 d.data.1 bcap7, .slice bo8 d.delta.1 bcap8] #[.int .i64 0, .int .i64 0, .string ByteArray.empty, .int .i64 0, .int .i64 0, .int .i64 0, .slice none 0 0, .slice none 0 0, .slice none 0 0] 92 92 := ⟨T2c.b1.stL [.slice bo8 d.delta.1 bcap8] 8, T2c.b2.seto _ _ (by omega), T2c.bel.setCell (Nat.le_refl _) _⟩
  have O6_2 := (O6.out.call b2).stN w.heap.size 8 [.slice bo8 d.delta.1 bcap8] (by omega)
  have O7_2 := (O7.out.call b2).stN w.heap.size 8 [.slice bo8 d.delta.1 bcap8] (by omega)
  have O8_2 := (o2.stN w.heap.size 8 [.slice bo8 d.delta.1 bcap8] (by omega))
  have e3 : (w3.setCell ⟨w.heap.size, 8, none⟩ (.slice bo8 d.delta.1 bcap8)).heap.size = w3.heap.size := by simp
  clear o2 b2 O6 O7 T2x a2_8
  go_upto_region 4 with fail
  obtain ⟨W3, hW3⟩ : ∃ x, x = w3.setCell ⟨w.heap.size, 8, none⟩ (.slice bo8 d.delta.1 bcap8) := ⟨_, rfl⟩
  have O6 : Hid (OwnT layInts W3 (w.heap.size + 1 + 1) (w1.heap.size) d.rows [.slice bo6 d.rows.1 bcap6]) := by rw [hW3]; exact O6_2
  have O7 : Hid (OwnT layBytes W3 (W1.heap.size) (w2.heap.size) d.data [.slice bo7 d.data.1 bcap7]) := by rw [hW3]; exact O7_2
  have O8 : Hid (OwnT layBytes W3 (W2.heap.size) (w3.heap.size) d.delta [.slice bo8 d.delta.1 bcap8]) := by rw [hW3]; exact O8_2
  rw [← hW3] at T3x e3 ⊢
  clear hW3 O6_2 O7_2 O8_2 T2c c2_8 c2f_8
  have y_0 : W3.cell? ⟨w.heap.size, 0, none⟩ = some (.int .i64 d.kind) := T3x.b1.cell 0
  have y_1 : W3.cell? ⟨w.heap.size, 1, none⟩ = some (.int .i64 d.seq) := T3x.b1.cell 1
  have y_2 : W3.cell? ⟨w.heap.size, 2, none⟩ = some (.string d.name) := T3x.b1.cell 2
  have y_3 : W3.cell? ⟨w.heap.size, 3, none⟩ = some (.int .i64 d.length) := T3x.b1.cell 3
  have y_4 : W3.cell? ⟨w.heap.size, 4, none⟩ = some (.int .i64 d.group) := T3x.b1.cell 4
  have y_5 : W3.cell? ⟨w.heap.size, 5, none⟩ = some (.int .i64 d.row) := T3x.b1.cell 5
  have y_6 : W3.cell? ⟨w.heap.size, 6, none⟩ = some (.slice bo6 d.rows.1 bcap6) := T3x.b1.cell 6
  have y_7 : W3.cell? ⟨w.heap.size, 7, none⟩ = some (.slice bo7 d.data.1 bcap7) := T3x.b1.cell 7
  have y_8 : W3.cell? ⟨w.heap.size, 8, none⟩ = some (.slice bo8 d.delta.1 bcap8) := T3x.b1.cell 8
  have r_0 : W3.cell? ⟨w.heap.size + 1, 0, none⟩ = some (.int .i64 0) := T3x.b2.cell 0
  have rf_0 : W3.frozen? ⟨w.heap.size + 1, 0, none⟩ = false := T3x.b2.frozen 0
  have r_1 : W3.cell? ⟨w.heap.size + 1, 1, none⟩ = some (.int .i64 0) := T3x.b2.cell 1
  have rf_1 : W3.frozen? ⟨w.heap.size + 1, 1, none⟩ = false := T3x.b2.frozen 1
  have r_2 : W3.cell? ⟨w.heap.size + 1, 2, none⟩ = some (.string ByteArray.empty) := T3x.b2.cell 2
  have rf_2 : W3.frozen? ⟨w.heap.size + 1, 2, none⟩ = false := T3x.b2.frozen 2
  have r_3 : W3.cell? ⟨w.heap.size + 1, 3, none⟩ = some (.int .i64 0) := T3x.b2.cell 3
  have rf_3 : W3.frozen? ⟨w.heap.size + 1, 3, none⟩ = false := T3x.b2.frozen 3
  have r_4 : W3.cell? ⟨w.heap.size + 1, 4, none⟩ = some (.int .i64 0) := T3x.b2.cell 4
  have rf_4 : W3.frozen? ⟨w.heap.size + 1, 4, none⟩ = false := T3x.b2.frozen 4
  have r_5 : W3.cell? ⟨w.heap.size + 1, 5, none⟩ = some (.int .i64 0) := T3x.b2.cell 5
  have rf_5 : W3.frozen? ⟨w.heap.size + 1, 5, none⟩ = false := T3x.b2.frozen 5
  have r_6 : W3.cell? ⟨w.heap.size + 1, 6, none⟩ = some (.slice none 0 0) := T3x.b2.cell 6
  have rf_6 : W3.frozen? ⟨w.heap.size + 1, 6, none⟩ = false := T3x.b2.frozen 6
  have r_7 : W3.cell? ⟨w.heap.size + 1, 7, none⟩ = some (.slice none 0 0) := T3x.b2.cell 7
  have rf_7 : W3.frozen? ⟨w.heap.size + 1, 7, none⟩ = false := T3x.b2.frozen 7
  have r_8 : W3.cell? ⟨w.heap.size + 1, 8, none⟩ = some (.slice none 0 0) := T3x.b2.cell 8
  have rf_8 : W3.frozen? ⟨w.heap.size + 1, 8, none⟩ = false := T3x.b2.frozen 8
  have HB : Hid (Below w.heap.size w W3) := T3x.bel
  have zz := T3x.b2.lt
  clear T3x
  go_wp2
  refine bodyPost_ret (v := .agg #[.int .i64 d.kind, .int .i64 d.seq, .string d.name, .int .i64 d.length, .int .i64 d.group, .int .i64 d.row, .slice bo6 d.rows.1 bcap6, .slice bo7 d.data.1 bcap7, .slice bo8 d.delta.1 bcap8]) (by simp [results, Tryz.results70, go_sem, r_0, y_0, r_1, y_1, r_2, y_2, r_3, y_3, r_4, y_4, r_5, y_5, r_6, y_6, r_7, y_7, r_8, y_8]) rfl ?_
  have F : OwnT layRec W3 (w.heap.size + 1 + 1) w3.heap.size d ([.int .i64 d.kind] ++ ([.int .i64 d.seq] ++ ([.string d.name] ++ ([.int .i64 d.length] ++ ([.int .i64 d.group] ++ ([.int .i64 d.row] ++ ([.slice bo6 d.rows.1 bcap6] ++ ([.slice bo7 d.data.1 bcap7] ++ [.slice bo8 d.delta.1 bcap8])))))))) := OwnT.conv (OwnT.pre (A := layI) (a := d.kind) (c := [.int .i64 d.kind]) ⟨rfl, Q0.out, rfl⟩ (OwnT.pre (A := layI) (a := d.seq) (c := [.int .i64 d.seq]) ⟨rfl, Q1.out, rfl⟩ (OwnT.pre (A := layS) (a := d.name) (c := [.string d.name]) ⟨rfl, Q2.out, rfl⟩ (OwnT.pre (A := layI) (a := d.length) (c := [.int .i64 d.length]) ⟨rfl, Q3.out, rfl⟩ (OwnT.pre (A := layI) (a := d.group) (c := [.int .i64 d.group]) ⟨rfl, Q4.out, rfl⟩ (OwnT.pre (A := layI) (a := d.row) (c := [.int .i64 d.row]) ⟨rfl, Q5.out, rfl⟩ (OwnT.two O6.out (OwnT.two O7.out O8.out (by omega) (by omega) (by omega)) (by omega) (by omega) (by omega))))))))
  refine ⟨[.int .i64 d.kind, .int .i64 d.seq, .string d.name, .int .i64 d.length, .int .i64 d.group, .int .i64 d.row, .slice bo6 d.rows.1 bcap6, .slice bo7 d.data.1 bcap7, .slice bo8 d.delta.1 bcap8], rfl, ?_, ?_⟩
  · exact OwnT.finb (F.weaken (Nat.le_refl _) (by omega)) (b := w.heap.size + 1) (by omega) (by omega) 0 [.int .i64 d.kind, .int .i64 d.seq, .string d.name, .int .i64 d.length, .int .i64 d.group, .int .i64 d.row, .slice bo6 d.rows.1 bcap6, .slice bo7 d.data.1 bcap7, .slice bo8 d.delta.1 bcap8] _ rfl
  · exact HB.out.trans (stN_below (by omega) [.int .i64 d.kind, .int .i64 d.seq, .string d.name, .int .i64 d.length, .int .i64 d.group, .int .i64 d.row, .slice bo6 d.rows.1 bcap6, .slice bo7 d.data.1 bcap7, .slice bo8 d.delta.1 bcap8] 0)
set_option maxHeartbeats 8000000 in
set_option maxRecDepth 20000 in
theorem copyRecS_is : ToF (layRec.slice 92) (szSl szRecD) 69 70 := fun v d hi w h hhi hn => by
  obtain ⟨n, x⟩ := d
  obtain ⟨ao, cap, hv, hm, hc⟩ := h
  cases hv
  have hn1 := szSl_n hn
  have hn2 : ∀ i, i < n → szRecD (x i) ≤ 1048576 := fun i hi => szSl_at hn hi
  simp only at hn1 hm hc
  clear hn
  go_enter Tryz.func69, Tryz.ntmps69
  go_wp2_with (at_make; refine wp_makeT layRec [.int .i64 0, .int .i64 0, .string ByteArray.empty, .int .i64 0, .int .i64 0, .int .i64 0, .slice none 0 0, .slice none 0 0, .slice none 0 0] _ 92 128 (el_Rec).hs rfl Tryz.underlying30 (el_Rec).hi x (fun _ => []) _ rfl _ _ rfl _ _ n rfl rfl rfl rfl (by omega) (by omega) ?_; intro w1 sp1 hb1)
  go_loopw [12] (fun i wr => ∃ k : Nat, k ≤ n ∧ i = .int .i64 k ∧ ∃ ce Ls, SlP layRec 92 wr w.heap.size w.heap.size n n k x ce Ls ∧ Below w.heap.size w wr) (fun i _ => n - (intOf i).toNat)
  case atStart => exact ⟨0, Nat.zero_le _, rfl, _, _, sp1, hb1⟩
  case round =>
    clear sp1 hb1
    obtain ⟨k, hk, rfl, ce, Ls, sp, hb⟩ := hrel
    by_cases hlt : k < n
    · obtain ⟨b, off, rfl, hblt, hel⟩ := hc (by omega)
      obtain ⟨ck, hrk, hcell⟩ := elem_rd (t := 0) hel hb hhi hblt hlt
      obtain ⟨ao6, cap6, ao7, cap7, ao8, cap8, rfl, -⟩ := Rec_rd hrk
      have c0 : wr.cell? ⟨b, off + k * 9, none⟩ = some (.int .i64 (x k).kind) := hcell 0 (by decide)
      have c1 : wr.cell? ⟨b, off + k * 9 + 1, none⟩ = some (.int .i64 (x k).seq) := hcell 1 (by decide)
      have c2 : wr.cell? ⟨b, off + k * 9 + 2, none⟩ = some (.string (x k).name) := hcell 2 (by decide)
      have c3 : wr.cell? ⟨b, off + k * 9 + 3, none⟩ = some (.int .i64 (x k).length) := hcell 3 (by decide)
      have c4 : wr.cell? ⟨b, off + k * 9 + 4, none⟩ = some (.int .i64 (x k).group) := hcell 4 (by decide)
      have c5 : wr.cell? ⟨b, off + k * 9 + 5, none⟩ = some (.int .i64 (x k).row) := hcell 5 (by decide)
      have c6 : wr.cell? ⟨b, off + k * 9 + 6, none⟩ = some (.slice ao6 (x k).rows.1 cap6) := hcell 6 (by decide)
      have c7 : wr.cell? ⟨b, off + k * 9 + 7, none⟩ = some (.slice ao7 (x k).data.1 cap7) := hcell 7 (by decide)
      have c8 : wr.cell? ⟨b, off + k * 9 + 8, none⟩ = some (.slice ao8 (x k).delta.1 cap8) := hcell 8 (by decide)
      clear hc hel hcell
      go_wp2_with fail
      refine (copyRec_is _ (x k) hi wr hrk (Nat.le_trans hhi hb.size) (hn2 k hlt)).mono ?_
      rintro e w2 ⟨cs', rfl, o2, hb2⟩
      obtain ⟨bao6, bcap6, bao7, bcap7, bao8, bcap8, rfl⟩ := Rec_cells o2
      obtain ⟨z0, s0⟩ := sp.some hb2 hlt (show 0 < layRec.sz by decide)
      have s0 : w2.cell? ⟨w.heap.size, k * 9, none⟩ = some z0 := s0
      have sf0 := (sp.below hb2).frozen (k * 9)
      obtain ⟨z1, s1⟩ := sp.some hb2 hlt (show 1 < layRec.sz by decide)
      have s1 : w2.cell? ⟨w.heap.size, k * 9 + 1, none⟩ = some z1 := s1
      have sf1 := (sp.below hb2).frozen (k * 9 + 1)
      obtain ⟨z2, s2⟩ := sp.some hb2 hlt (show 2 < layRec.sz by decide)
      have s2 : w2.cell? ⟨w.heap.size, k * 9 + 2, none⟩ = some z2 := s2
      have sf2 := (sp.below hb2).frozen (k * 9 + 2)
      obtain ⟨z3, s3⟩ := sp.some hb2 hlt (show 3 < layRec.sz by decide)
      have s3 : w2.cell? ⟨w.heap.size, k * 9 + 3, none⟩ = some z3 := s3
      have sf3 := (sp.below hb2).frozen (k * 9 + 3)
      obtain ⟨z4, s4⟩ := sp.some hb2 hlt (show 4 < layRec.sz by decide)
      have s4 : w2.cell? ⟨w.heap.size, k * 9 + 4, none⟩ = some z4 := s4
      have sf4 := (sp.below hb2).frozen (k * 9 + 4)
      obtain ⟨z5, s5⟩ := sp.some hb2 hlt (show 5 < layRec.sz by decide)
      have s5 : w2.cell? ⟨w.heap.size, k * 9 + 5, none⟩ = some z5 := s5
      have sf5 := (sp.below hb2).frozen (k * 9 + 5)
      obtain ⟨z6, s6⟩ := sp.some hb2 hlt (show 6 < layRec.sz by decide)
      have s6 : w2.cell? ⟨w.heap.size, k * 9 + 6, none⟩ = some z6 := s6
      have sf6 := (sp.below hb2).frozen (k * 9 + 6)
      obtain ⟨z7, s7⟩ := sp.some hb2 hlt (show 7 < layRec.sz by decide)
      have s7 : w2.cell? ⟨w.heap.size, k * 9 + 7, none⟩ = some z7 := s7
      have sf7 := (sp.below hb2).frozen (k * 9 + 7)
      obtain ⟨z8, s8⟩ := sp.some hb2 hlt (show 8 < layRec.sz by decide)
      have s8 : w2.cell? ⟨w.heap.size, k * 9 + 8, none⟩ = some z8 := s8
      have sf8 := (sp.below hb2).frozen (k * 9 + 8)
      have N := sp.next hb2 hlt o2 hb.size
      have N2 : Below w.heap.size w (stN w2 w.heap.size (k * layRec.sz) [.int .i64 (x k).kind, .int .i64 (x k).seq, .string (x k).name, .int .i64 (x k).length, .int .i64 (x k).group, .int .i64 (x k).row, .slice bao6 (x k).rows.1 bcap6, .slice bao7 (x k).data.1 bcap7, .slice bao8 (x k).delta.1 bcap8]) := (hb.trans (hb2.mono hb.size)).trans (stN_below (Nat.le_refl _) _ _)
      clear o2 hb2 sp hb
      go_wp2_with fail
      go_roundw
      case rel =>
        obtain ⟨ce', Ls', N⟩ := N
        exact ⟨k + 1, by omega, by go_num, ce', Ls', N, N2⟩
      case measure => simp [intOf]; omega
    · obtain rfl : k = n := by omega
      go_wp2
      go_ret
      exact ⟨_, rfl, sp.done (Nat.le_refl _), hb⟩
end Go.Proofs.YtcdnhhdknkhnkaaGreat