/- The weights do what they are for: the place want is the weighed sum of the places hv. No Go in sight. -/
import Derived.Test.YtcepcjkfdonclaaZPnewarab
import Derived.Test.YtcepcjkfdonclaaZPnewaraa
import Derived.Deep.RegionLaw
import Derived.Laws.CopyOwn
import Derived.Deep.DeepCutAuto
import Derived.BigQuiet
import Derived.Deep.QuietTactic
set_option linter.unusedVariables false
set_option linter.unusedSimpArgs false
namespace Go.Proofs.Ytcepcjkfdonclaa
open F256
end Go.Proofs.Ytcepcjkfdonclaa
namespace Go.Proofs.Ytcepcjkfdonclaa
end Go.Proofs.Ytcepcjkfdonclaa
namespace Go.Proofs.Ytcepcjkfdonclaa
open Go.RowKit F256
end Go.Proofs.Ytcepcjkfdonclaa
namespace Go.Proofs.Ytcepcjkfdonclaa
open Go.RowKit F256
theorem l1In_yes (v a b:Int) (h1:a ≤ v) (h2:v ≤ b) (w:World) :
    Calls Try.prog 21 #[.int .i64 v,.int .i64 a,.int .i64 b] w fun e w' => e = .returned (.bool true) ∧ w' = w:=by
  go_enter Try.func21,Try.ntmps21
  go_wp2;go_ret;exact ⟨rfl,rfl⟩
theorem l1In_no (v a b:Int) (h:v < a ∨ b < v) (w:World) :
    Calls Try.prog 21 #[.int .i64 v,.int .i64 a,.int .i64 b] w fun e w' => e = .returned (.bool false) ∧ w' = w:=by
  by_cases h1:v < a
  · have hd:decide (a ≤ v) = false:=by simp;omega
    go_enter Try.func21,Try.ntmps21
    go_wp2;go_ret;exact ⟨rfl,rfl⟩
  · have h2:b < v:=by omega
    have h3:a ≤ v:=by omega
    have hd:decide (v ≤ b) = false:=by simp;omega
    go_enter Try.func21,Try.ntmps21
    go_wp2;go_ret;exact ⟨rfl,rfl⟩
end Go.Proofs.Ytcepcjkfdonclaa
namespace Go.Proofs.Ytcepcjkfdonclaa
open Go.RowKit F256
end Go.Proofs.Ytcepcjkfdonclaa
namespace Go.Proofs.Ytcepcjkfdonclaa
open Go.RowKit F256
end Go.Proofs.Ytcepcjkfdonclaa
namespace Go.Proofs.Ytcepcjkfdonclaa
open Go.RowKit F256
structure Bld (w wr:World) (lo:Nat) (v:Value) (k:Nat) (n:Nat → Nat) (f:Mat) (e:Nat → Value):Prop where
  row:wr.ownsRow lo 66 1 v k (valsOf k e)
  notnil:v ≠ nilS
  each:∀ i,i < k → Own wr lo wr.heap.size (e i) (n i) (f i)
  apart:∀ i j,i < k → j < k → i ≠ j → ∀ b,(e i).ownBlock = some b → (e j).ownBlock ≠ some b
  bel:Below lo w wr
  le:lo ≤ wr.heap.size
structure BldR (wr:World) (lo hi:Nat) (v:Value) (k:Nat) (n:Nat → Nat) (f:Mat) (e:Nat → Value):Prop where
  row:wr.ownsRow lo 66 1 v k (valsOf k e)
  notnil:v ≠ nilS
  low:∀ b,v.ownBlock = some b → b < hi
  each:∀ i,i < k → Own wr lo hi (e i) (n i) (f i)
  apart:∀ i j,i < k → j < k → i ≠ j → ∀ b,(e i).ownBlock = some b → (e j).ownBlock ≠ some b
  le:lo ≤ hi
  le2:hi ≤ wr.heap.size
end Go.Proofs.Ytcepcjkfdonclaa
namespace Go.Proofs.Ytcepcjkfdonclaa
open Go.RowKit F256
def BoolP (P:Prop) (w:World) (e:Ending) (w':World):Prop:=∃ b:Bool,e = .returned (.bool b) ∧ (b = true ↔ P) ∧ Below w.heap.size w w'
theorem boolYes {P:Prop} {w:World} {e:Ending} {w':World} (he:e = .returned (.bool true)) (h:P) (hb:Below w.heap.size w w'):BoolP P w e w':=⟨true,he,⟨fun _ => h,fun _ => rfl⟩,hb⟩
theorem boolNo {P:Prop} {w:World} {e:Ending} {w':World} (he:e = .returned (.bool false)) (h:¬ P) (hb:Below w.heap.size w w'):BoolP P w e w':=⟨false,he,⟨fun h => (by cases h),fun hh => absurd hh h⟩,hb⟩
def Shp (d s:Int):Prop:=1 ≤ d ∧ d ≤ 3 ∧ 0 ≤ s ∧ s ≤ 2
theorem l2Shape_any (d s:Int) (w:World) :
    Calls Try.prog 20 #[.int .i64 d,.int .i64 s] w (BoolP (Shp d s) w):=by
  by_cases h1:1 ≤ d ∧ d ≤ 3
  · by_cases h2:0 ≤ s ∧ s ≤ 2
    · go_enter Try.func20,Try.ntmps20
      go_wp2_with fail
      refine (l1In_yes d 1 3 h1.1 h1.2 _).mono ?_;rintro e w1 ⟨rfl,rfl⟩
      go_wp2_with fail
      refine (l1In_yes s 0 2 h2.1 h2.2 _).mono ?_;rintro e w1 ⟨rfl,rfl⟩;go_wp2;go_ret;exact boolYes rfl ⟨h1.1,h1.2,h2.1,h2.2⟩ (Below.refl _ _)
    · go_enter Try.func20,Try.ntmps20
      go_wp2_with fail
      refine (l1In_yes d 1 3 h1.1 h1.2 _).mono ?_;rintro e w1 ⟨rfl,rfl⟩
      go_wp2_with fail
      refine (l1In_no s 0 2 (by omega) _).mono ?_;rintro e w1 ⟨rfl,rfl⟩;go_wp2;go_ret;exact boolNo rfl (fun h => h2 ⟨h.2.2.1,h.2.2.2⟩) (Below.refl _ _)
  · go_enter Try.func20,Try.ntmps20
    go_wp2_with fail
    refine (l1In_no d 1 3 (by omega) _).mono ?_;rintro e w1 ⟨rfl,rfl⟩;go_wp2;go_ret;exact boolNo rfl (fun h => h1 ⟨h.1,h.2.1⟩) (Below.refl _ _)
end Go.Proofs.Ytcepcjkfdonclaa
namespace Go.Proofs.Ytcepcjkfdonclaa
open Go.RowKit F256
def RiseP (n:Nat) (g:Nat → Int) (most:Int):Prop:=∀ i,i < n → 0 ≤ g i ∧ g i ≤ most ∧ (0 < i → g (i - 1) < g i)
end Go.Proofs.Ytcepcjkfdonclaa
namespace Go.Proofs.Ytcepcjkfdonclaa
open F256
def Shp3 (d s:Int):Prop:=1 ≤ d ∧ d ≤ 4 ∧ 0 ≤ s ∧ s ≤ 2
end Go.Proofs.Ytcepcjkfdonclaa
namespace Go.Proofs.Ytcepcjkfdonclaa
open Go.RowKit F256
structure BldO (wr:World) (lo hi:Nat) (v:Value) (k:Nat) (n:Nat → Nat) (f:Mat) (e:Nat → Value):Prop where
  row:wr.ownsRow lo 66 1 v k (valsOf k e)
  low:∀ b,v.ownBlock = some b → b < hi
  each:∀ i,i < k → Own wr lo hi (e i) (n i) (f i)
  apart:∀ i j,i < k → j < k → i ≠ j → ∀ b,(e i).ownBlock = some b → (e j).ownBlock ≠ some b
  le:lo ≤ hi
  le2:hi ≤ wr.heap.size
end Go.Proofs.Ytcepcjkfdonclaa
namespace Go.Proofs.Ytcepcjkfdonclaa
open Go.RowKit F256
theorem l3Shape_any (d s:Int) (w:World) :
    Calls Try.prog 19 #[.int .i64 d,.int .i64 s] w (BoolP (Shp3 d s) w):=by
  by_cases h1:1 ≤ d ∧ d ≤ 4
  · by_cases h2:0 ≤ s ∧ s ≤ 2
    · go_enter Try.func19,Try.ntmps19
      go_wp2_with fail
      refine (l1In_yes d 1 4 h1.1 h1.2 _).mono ?_;rintro e w1 ⟨rfl,rfl⟩
      go_wp2_with fail
      refine (l1In_yes s 0 2 h2.1 h2.2 _).mono ?_;rintro e w1 ⟨rfl,rfl⟩;go_wp2;go_ret;exact boolYes rfl ⟨h1.1,h1.2,h2.1,h2.2⟩ (Below.refl _ _)
    · go_enter Try.func19,Try.ntmps19
      go_wp2_with fail
      refine (l1In_yes d 1 4 h1.1 h1.2 _).mono ?_;rintro e w1 ⟨rfl,rfl⟩
      go_wp2_with fail
      refine (l1In_no s 0 2 (by omega) _).mono ?_;rintro e w1 ⟨rfl,rfl⟩;go_wp2;go_ret;exact boolNo rfl (fun h => h2 ⟨h.2.2.1,h.2.2.2⟩) (Below.refl _ _)
  · go_enter Try.func19,Try.ntmps19
    go_wp2_with fail
    refine (l1In_no d 1 4 (by omega) _).mono ?_;rintro e w1 ⟨rfl,rfl⟩;go_wp2;go_ret;exact boolNo rfl (fun h => h1 ⟨h.1,h.2.1⟩) (Below.refl _ _)
end Go.Proofs.Ytcepcjkfdonclaa
namespace Go.Proofs.Ytcepcjkfdonclaa
open Go.RowKit F256
set_option maxHeartbeats 2000000 in
theorem toShape_any (s:Nat → Int) (w:World) :
    Calls Try.prog 5 #[shapeV s] w fun e w' => e = .returned (shapeV s) ∧ Below w.heap.size w w':=by
  unfold shapeV;obtain ⟨a0,h0⟩:∃ a,a = s 0:=⟨_,rfl⟩;obtain ⟨a1,h1⟩:∃ a,a = s 1:=⟨_,rfl⟩;obtain ⟨a2,h2⟩:∃ a,a = s 2:=⟨_,rfl⟩;obtain ⟨a3,h3⟩:∃ a,a = s 3:=⟨_,rfl⟩;obtain ⟨a4,h4⟩:∃ a,a = s 4:=⟨_,rfl⟩;obtain ⟨a5,h5⟩:∃ a,a = s 5:=⟨_,rfl⟩;obtain ⟨a6,h6⟩:∃ a,a = s 6:=⟨_,rfl⟩;obtain ⟨a7,h7⟩:∃ a,a = s 7:=⟨_,rfl⟩;obtain ⟨a8,h8⟩:∃ a,a = s 8:=⟨_,rfl⟩;rw [← h0,← h1,← h2,← h3,← h4,← h5,← h6,← h7,← h8];clear h0 h1 h2 h3 h4 h5 h6 h7 h8
  go_enter Try.func5,Try.ntmps5
  go_wp2;refine bodyPost_ret (v:=.agg #[.int .i64 a0,.int .i64 a1,.int .i64 a2,.int .i64 a3,.int .i64 a4,.int .i64 a5,.int .i64 a6,.int .i64 a7,.int .i64 a8]) (by simp [results,Try.results5,go_sem]) rfl ⟨rfl,?_⟩;exact (((Below.refl _ _).alloc (Nat.le_refl _) _).alloc (by simp) _).alloc (by simp <;> omega) _
def OkShape (s:Nat → Int):Prop:=Shp3 (s 0) (s 1) ∧ Shp (s 2) (s 3) ∧ (1 ≤ s 4 ∧ s 4 ≤ 6) ∧ (1 ≤ s 5 ∧ s 5 ≤ 6) ∧ (1 ≤ s 6 ∧ s 6 ≤ 4) ∧ (1 ≤ s 7 ∧ s 7 ≤ 6) ∧ (0 ≤ s 8 ∧ s 8 ≤ 400)
def ShFAns (s:Nat → Int) (x:Int):Prop:=(x = 3 ∧ ¬ OkShape s) ∨ (x = 0 ∧ OkShape s)
theorem box9 {w:World} {b:Nat} {t:TypeId} {a0 a1 a2 a3 a4 a5 a6 a7 a8:Value} (h:Box w b #[a0,a1,a2,a3,a4,a5,a6,a7,a8] t) :
    w.cell? ⟨b,0,none⟩ = some a0 ∧ w.cell? ⟨b,1,none⟩ = some a1 ∧ w.cell? ⟨b,2,none⟩ = some a2 ∧ w.cell? ⟨b,3,none⟩ = some a3 ∧ w.cell? ⟨b,4,none⟩ = some a4 ∧ w.cell? ⟨b,5,none⟩ = some a5 ∧ w.cell? ⟨b,6,none⟩ = some a6 ∧ w.cell? ⟨b,7,none⟩ = some a7 ∧ w.cell? ⟨b,8,none⟩ = some a8 :=
  ⟨h.cell 0,h.cell 1,h.cell 2,h.cell 3,h.cell 4,h.cell 5,h.cell 6,h.cell 7,h.cell 8⟩
set_option maxHeartbeats 4000000 in
theorem specShape_any (s:Nat → Int) (w:World) :
    Calls Try.prog 10 #[shapeV s] w fun e w' => ∃ x,e = .returned (.int .i64 x) ∧ ShFAns s x ∧ Below w.heap.size w w':=by
  unfold shapeV;have HOK:Hid (OkShape s ↔ OkShape s):=Iff.rfl;unfold OkShape at HOK;obtain ⟨a0,h0⟩:∃ a,a = s 0:=⟨_,rfl⟩;obtain ⟨a1,h1⟩:∃ a,a = s 1:=⟨_,rfl⟩;obtain ⟨a2,h2⟩:∃ a,a = s 2:=⟨_,rfl⟩;obtain ⟨a3,h3⟩:∃ a,a = s 3:=⟨_,rfl⟩;obtain ⟨a4,h4⟩:∃ a,a = s 4:=⟨_,rfl⟩;obtain ⟨a5,h5⟩:∃ a,a = s 5:=⟨_,rfl⟩;obtain ⟨a6,h6⟩:∃ a,a = s 6:=⟨_,rfl⟩;obtain ⟨a7,h7⟩:∃ a,a = s 7:=⟨_,rfl⟩;obtain ⟨a8,h8⟩:∃ a,a = s 8:=⟨_,rfl⟩
  have HIFF:Hid (OkShape s ↔ (Shp3 a0 a1 ∧ Shp a2 a3 ∧ (1 ≤ a4 ∧ a4 ≤ 6) ∧ (1 ≤ a5 ∧ a5 ≤ 6) ∧ (1 ≤ a6 ∧ a6 ≤ 4) ∧ (1 ≤ a7 ∧ a7 ≤ 6) ∧ (0 ≤ a8 ∧ a8 ≤ 400))):=by
    show OkShape s ↔ _
    rw [h0,h1,h2,h3,h4,h5,h6,h7,h8];exact Iff.rfl
  rw [← h0,← h1,← h2,← h3,← h4,← h5,← h6,← h7,← h8];clear h0 h1 h2 h3 h4 h5 h6 h7 h8 HOK
  go_enter Try.func10,Try.ntmps10
  go_wp2_with fail
  refine (l3Shape_any a0 a1 _).mono ?_;rintro e w1 ⟨b1,rfl,hb1,b1'⟩;have X1:Box w1 w.heap.size #[.int .i64 a0,.int .i64 a1,.int .i64 a2,.int .i64 a3,.int .i64 a4,.int .i64 a5,.int .i64 a6,.int .i64 a7,.int .i64 a8] 24:=(box_new w _ _).below b1' (by simp);have B1:Below w.heap.size w w1:=bnew b1';have H1:Hid (b1 = true ↔ Shp3 a0 a1):=hb1;have z1:=X1.lt;obtain ⟨x0,x1,x2,x3,x4,x5,x6,x7,x8⟩:=box9 X1;clear hb1 b1'
  cases b1 with
  | false =>
    have HNO:Hid (¬ OkShape s):=fun h => by have:=H1.out.mpr (HIFF.out.mp h).1;cases this
    clear H1;go_wp2;go_ret;exact ⟨3,rfl,.inl ⟨rfl,HNO.out⟩,B1⟩
  | true =>
    have HS1:Hid (Shp3 a0 a1):=H1.out.mp rfl;clear H1
    go_wp2_with fail
    refine (l2Shape_any a2 a3 _).mono ?_;rintro e w2 ⟨b2,rfl,hb2,b2'⟩;have X2:=X1.below b2' z1;have B2:Below w.heap.size w w2:=B1.trans (b2'.mono B1.size);have H2:Hid (b2 = true ↔ Shp a2 a3):=hb2;clear x0 x1 x2 x3 x4 x5 x6 x7 x8;obtain ⟨x0,x1,x2,x3,x4,x5,x6,x7,x8⟩:=box9 X2;clear hb2 b2' X1 B1
    cases b2 with
    | false =>
      have HNO:Hid (¬ OkShape s):=fun h => by have:=H2.out.mpr (HIFF.out.mp h).2.1;cases this
      clear H2;go_wp2;go_ret;exact ⟨3,rfl,.inl ⟨rfl,HNO.out⟩,B2⟩
    | true =>
      have HS2:Hid (Shp a2 a3):=H2.out.mp rfl;clear H2
      by_cases c4:1 ≤ a4 ∧ a4 ≤ 6
      · by_cases c5:1 ≤ a5 ∧ a5 ≤ 6
        · by_cases c6:1 ≤ a6 ∧ a6 ≤ 4
          · by_cases c7:1 ≤ a7 ∧ a7 ≤ 6
            · by_cases c8:0 ≤ a8 ∧ a8 ≤ 400
              · have HY:Hid (OkShape s):=HIFF.out.mpr ⟨HS1.out,HS2.out,c4,c5,c6,c7,c8⟩
                go_wp2_with fail
                refine (l1In_yes a4 1 6 c4.1 c4.2 _).mono ?_;rintro e w3 ⟨rfl,hw⟩;obtain rfl:=hw.symm
                go_wp2_with fail
                refine (l1In_yes a5 1 6 c5.1 c5.2 _).mono ?_;rintro e w3 ⟨rfl,hw⟩;obtain rfl:=hw.symm
                go_wp2_with fail
                refine (l1In_yes a6 1 4 c6.1 c6.2 _).mono ?_;rintro e w3 ⟨rfl,hw⟩;obtain rfl:=hw.symm
                go_wp2_with fail
                refine (l1In_yes a7 1 6 c7.1 c7.2 _).mono ?_;rintro e w3 ⟨rfl,hw⟩;obtain rfl:=hw.symm
                go_wp2_with fail
                refine (l1In_yes a8 0 400 c8.1 c8.2 _).mono ?_;rintro e w3 ⟨rfl,hw⟩;obtain rfl:=hw.symm;go_wp2;go_ret;exact ⟨0,rfl,.inr ⟨rfl,HY.out⟩,B2⟩
              · have HN:Hid (¬ OkShape s):=fun h => c8 (HIFF.out.mp h).2.2.2.2.2.2
                have c8':a8 < 0 ∨ 400 < a8:=by omega
                clear c8
                go_wp2_with fail
                refine (l1In_yes a4 1 6 c4.1 c4.2 _).mono ?_;rintro e w3 ⟨rfl,hw⟩;obtain rfl:=hw.symm
                go_wp2_with fail
                refine (l1In_yes a5 1 6 c5.1 c5.2 _).mono ?_;rintro e w3 ⟨rfl,hw⟩;obtain rfl:=hw.symm
                go_wp2_with fail
                refine (l1In_yes a6 1 4 c6.1 c6.2 _).mono ?_;rintro e w3 ⟨rfl,hw⟩;obtain rfl:=hw.symm
                go_wp2_with fail
                refine (l1In_yes a7 1 6 c7.1 c7.2 _).mono ?_;rintro e w3 ⟨rfl,hw⟩;obtain rfl:=hw.symm
                go_wp2_with fail
                refine (l1In_no a8 0 400 c8' _).mono ?_;rintro e w3 ⟨rfl,hw⟩;obtain rfl:=hw.symm;go_wp2;go_ret;exact ⟨3,rfl,.inl ⟨rfl,HN.out⟩,B2⟩
            · have HN:Hid (¬ OkShape s):=fun h => c7 (HIFF.out.mp h).2.2.2.2.2.1
              have c7':a7 < 1 ∨ 6 < a7:=by omega
              clear c7
              go_wp2_with fail
              refine (l1In_yes a4 1 6 c4.1 c4.2 _).mono ?_;rintro e w3 ⟨rfl,hw⟩;obtain rfl:=hw.symm
              go_wp2_with fail
              refine (l1In_yes a5 1 6 c5.1 c5.2 _).mono ?_;rintro e w3 ⟨rfl,hw⟩;obtain rfl:=hw.symm
              go_wp2_with fail
              refine (l1In_yes a6 1 4 c6.1 c6.2 _).mono ?_;rintro e w3 ⟨rfl,hw⟩;obtain rfl:=hw.symm
              go_wp2_with fail
              refine (l1In_no a7 1 6 c7' _).mono ?_;rintro e w3 ⟨rfl,hw⟩;obtain rfl:=hw.symm;go_wp2;go_ret;exact ⟨3,rfl,.inl ⟨rfl,HN.out⟩,B2⟩
          · have HN:Hid (¬ OkShape s):=fun h => c6 (HIFF.out.mp h).2.2.2.2.1
            have c6':a6 < 1 ∨ 4 < a6:=by omega
            clear c6
            go_wp2_with fail
            refine (l1In_yes a4 1 6 c4.1 c4.2 _).mono ?_;rintro e w3 ⟨rfl,hw⟩;obtain rfl:=hw.symm
            go_wp2_with fail
            refine (l1In_yes a5 1 6 c5.1 c5.2 _).mono ?_;rintro e w3 ⟨rfl,hw⟩;obtain rfl:=hw.symm
            go_wp2_with fail
            refine (l1In_no a6 1 4 c6' _).mono ?_;rintro e w3 ⟨rfl,hw⟩;obtain rfl:=hw.symm;go_wp2;go_ret;exact ⟨3,rfl,.inl ⟨rfl,HN.out⟩,B2⟩
        · have HN:Hid (¬ OkShape s):=fun h => c5 (HIFF.out.mp h).2.2.2.1
          have c5':a5 < 1 ∨ 6 < a5:=by omega
          clear c5
          go_wp2_with fail
          refine (l1In_yes a4 1 6 c4.1 c4.2 _).mono ?_;rintro e w3 ⟨rfl,hw⟩;obtain rfl:=hw.symm
          go_wp2_with fail
          refine (l1In_no a5 1 6 c5' _).mono ?_;rintro e w3 ⟨rfl,hw⟩;obtain rfl:=hw.symm;go_wp2;go_ret;exact ⟨3,rfl,.inl ⟨rfl,HN.out⟩,B2⟩
      · have HN:Hid (¬ OkShape s):=fun h => c4 (HIFF.out.mp h).2.2.1
        have c4':a4 < 1 ∨ 6 < a4:=by omega
        clear c4
        go_wp2_with fail
        refine (l1In_no a4 1 6 c4' _).mono ?_;rintro e w3 ⟨rfl,hw⟩;obtain rfl:=hw.symm;go_wp2;go_ret;exact ⟨3,rfl,.inl ⟨rfl,HN.out⟩,B2⟩
end Go.Proofs.Ytcepcjkfdonclaa
namespace Go.Proofs.Ytcepcjkfdonclaa
open Go.RowKit F256
set_option maxHeartbeats 8000000 in
set_option maxRecDepth 20000 in
theorem eqBlock_is:EqV layBlock 74:=fun c1 c2 d h1 h2 w r1 r2 u1 u2 => by
  obtain ⟨ao1,cap1,rfl,g1,-⟩:=Block_rd r1;obtain ⟨bao1,bcap1,rfl,q1,-⟩:=Block_rd r2;clear r1 r2;have G1:Hid (layBytes.rd w h1 d.bytes [.slice ao1 d.bytes.1 cap1]):=g1;have E1:Hid (layBytes.rd w h2 d.bytes [.slice bao1 d.bytes.1 bcap1]):=q1;clear g1 q1
  go_enter Try.func74,Try.ntmps74
  go_wp2_with fail
  have T0:=two_newb w #[.int .i64 d.stamp,.slice ao1 d.bytes.1 cap1] #[.int .i64 d.stamp,.slice bao1 d.bytes.1 bcap1] 68 68;refine (eqBytes_is _ _ d.bytes h1 h2 _ (layBytes.rd_below G1.out T0.bel u1) (layBytes.rd_below E1.out T0.bel u2) (Nat.le_trans u1 T0.bel.size) (Nat.le_trans u2 T0.bel.size)).mono ?_;rintro e w1 ⟨rfl,b1⟩;have T1:Two w w1 #[.int .i64 d.stamp,.slice ao1 d.bytes.1 cap1] #[.int .i64 d.stamp,.slice bao1 d.bytes.1 bcap1] 68 68:=T0.call b1;clear T0 b1;have B:Hid (Below w.heap.size w w1):=T1.bel;clear T1;go_wp2;go_ret;exact ⟨rfl,B.out⟩
set_option maxHeartbeats 4000000 in
theorem eqBlockS_is:EqS (layBlock.slice 68) 72:=fun v1 v2 d h1 h2 w r1 r2 u1 u2 => by
  obtain ⟨n,x⟩:=d;obtain ⟨ao,cap,hv,hm,hc⟩:=r1
  cases hv
  obtain ⟨ao',cap',hv',hm',hc'⟩:=r2
  cases hv'
  simp only at hm hc hc'
  unfold maxLen at hm;clear hm'
  go_enter Try.func72,Try.ntmps72
  go_wp2
  go_loopw [5] (fun i wr => ∃ k:Nat,k ≤ n ∧ i = .int .i64 k ∧ Below w.heap.size w wr) (fun i _ => n - (intOf i).toNat)
  case atStart => exact ⟨0,Nat.zero_le _,rfl,Below.refl _ _⟩
  case round =>
    obtain ⟨k,hk,rfl,hb⟩:=hrel
    by_cases hlt:k < n
    · obtain ⟨b,off,rfl,hblt,hel⟩:=hc (by omega)
      obtain ⟨b',off',rfl,hblt',hel'⟩:=hc' (by omega);obtain ⟨ck,hrk,hcell⟩:=elem_rd (t:=0) hel (below_drewN hb 1) u1 hblt hlt;obtain ⟨ck',hrk',hcell'⟩:=elem_rd (t:=0) hel' (below_drewN hb 1) u2 hblt' hlt;obtain ⟨ao1,cap1,rfl,-⟩:=Block_rd hrk;obtain ⟨bao1,bcap1,rfl,-⟩:=Block_rd hrk';have c0:wr.cell? ⟨b,off + k * 2,none⟩ = some (.int .i64 (x k).stamp):=hcell 0 (by decide);have c1:wr.cell? ⟨b,off + k * 2 + 1,none⟩ = some (.slice ao1 (x k).bytes.1 cap1):=hcell 1 (by decide);have e0:wr.cell? ⟨b',off' + k * 2,none⟩ = some (.int .i64 (x k).stamp):=hcell' 0 (by decide);have e1:wr.cell? ⟨b',off' + k * 2 + 1,none⟩ = some (.slice bao1 (x k).bytes.1 bcap1):=hcell' 1 (by decide);have C1:=eqBlock_is _ _ (x k) h1 h2 (wr.drewN 1) hrk hrk' (Nat.le_trans u1 hb.size) (Nat.le_trans u2 hb.size);clear hc hc' hel hel' hcell hcell' hrk hrk';go_wp2
      go_region_with (go_at_call 74;refine C1.mono ?_;rintro ee w2 ⟨rfl,hb2⟩)
      all_goals
        have R':Below w.heap.size w w2:=hb.trans ((below_drewN (Below.refl wr.heap.size wr) 1).trans hb2 |>.mono hb.size);clear hb2;go_wp2
        go_roundw
        case rel => exact ⟨k + 1,by omega,by go_num,R'⟩
        case measure => simp [intOf];omega
    · obtain rfl:k = n:=by omega
      go_wp2;go_ret;exact ⟨rfl,hb⟩
set_option maxHeartbeats 8000000 in
set_option maxRecDepth 20000 in
theorem eqDrive_is:EqV layDrive 67:=fun c1 c2 d h1 h2 w r1 r2 u1 u2 => by
  obtain ⟨ao1,cap1,rfl,g1⟩:=Drive_rd r1;obtain ⟨bao1,bcap1,rfl,q1⟩:=Drive_rd r2;clear r1 r2;have G1:Hid ((layBlock.slice 68).rd w h1 d.blocks [.slice ao1 d.blocks.1 cap1]):=g1;have E1:Hid ((layBlock.slice 68).rd w h2 d.blocks [.slice bao1 d.blocks.1 bcap1]):=q1;clear g1 q1
  go_enter Try.func67,Try.ntmps67
  go_wp2_with fail
  have T0:=two_newb w #[.bool d.wiped,.slice ao1 d.blocks.1 cap1] #[.bool d.wiped,.slice bao1 d.blocks.1 bcap1] 58 58;refine (eqBlockS_is _ _ d.blocks h1 h2 _ ((layBlock.slice 68).rd_below G1.out T0.bel u1) ((layBlock.slice 68).rd_below E1.out T0.bel u2) (Nat.le_trans u1 T0.bel.size) (Nat.le_trans u2 T0.bel.size)).mono ?_;rintro e w1 ⟨rfl,b1⟩;have T1:Two w w1 #[.bool d.wiped,.slice ao1 d.blocks.1 cap1] #[.bool d.wiped,.slice bao1 d.blocks.1 bcap1] 58 58:=T0.call b1;clear T0 b1;have B:Hid (Below w.heap.size w w1):=T1.bel;clear T1;go_wp2;go_ret;exact ⟨rfl,B.out⟩
set_option maxHeartbeats 4000000 in
theorem eqDriveS_is:EqS (layDrive.slice 58) 56:=fun v1 v2 d h1 h2 w r1 r2 u1 u2 => by
  obtain ⟨n,x⟩:=d;obtain ⟨ao,cap,hv,hm,hc⟩:=r1
  cases hv
  obtain ⟨ao',cap',hv',hm',hc'⟩:=r2
  cases hv'
  simp only at hm hc hc'
  unfold maxLen at hm;clear hm'
  go_enter Try.func56,Try.ntmps56
  go_wp2
  go_loopw [5] (fun i wr => ∃ k:Nat,k ≤ n ∧ i = .int .i64 k ∧ Below w.heap.size w wr) (fun i _ => n - (intOf i).toNat)
  case atStart => exact ⟨0,Nat.zero_le _,rfl,Below.refl _ _⟩
  case round =>
    obtain ⟨k,hk,rfl,hb⟩:=hrel
    by_cases hlt:k < n
    · obtain ⟨b,off,rfl,hblt,hel⟩:=hc (by omega)
      obtain ⟨b',off',rfl,hblt',hel'⟩:=hc' (by omega);obtain ⟨ck,hrk,hcell⟩:=elem_rd (t:=0) hel (below_drewN hb 1) u1 hblt hlt;obtain ⟨ck',hrk',hcell'⟩:=elem_rd (t:=0) hel' (below_drewN hb 1) u2 hblt' hlt;obtain ⟨ao1,cap1,rfl,-⟩:=Drive_rd hrk;obtain ⟨bao1,bcap1,rfl,-⟩:=Drive_rd hrk';have c0:wr.cell? ⟨b,off + k * 2,none⟩ = some (.bool (x k).wiped):=hcell 0 (by decide);have c1:wr.cell? ⟨b,off + k * 2 + 1,none⟩ = some (.slice ao1 (x k).blocks.1 cap1):=hcell 1 (by decide);have e0:wr.cell? ⟨b',off' + k * 2,none⟩ = some (.bool (x k).wiped):=hcell' 0 (by decide);have e1:wr.cell? ⟨b',off' + k * 2 + 1,none⟩ = some (.slice bao1 (x k).blocks.1 bcap1):=hcell' 1 (by decide);have C1:=eqDrive_is _ _ (x k) h1 h2 (wr.drewN 1) hrk hrk' (Nat.le_trans u1 hb.size) (Nat.le_trans u2 hb.size);clear hc hc' hel hel' hcell hcell' hrk hrk';go_wp2
      go_region_with (go_at_call 67;refine C1.mono ?_;rintro ee w2 ⟨rfl,hb2⟩)
      all_goals
        have R':Below w.heap.size w w2:=hb.trans ((below_drewN (Below.refl wr.heap.size wr) 1).trans hb2 |>.mono hb.size);clear hb2;go_wp2
        go_roundw
        case rel => exact ⟨k + 1,by omega,by go_num,R'⟩
        case measure => simp [intOf];omega
    · obtain rfl:k = n:=by omega
      go_wp2;go_ret;exact ⟨rfl,hb⟩
set_option maxHeartbeats 4000000 in
theorem eqDriveSS_is:EqS ((layDrive.slice 58).slice 55) 38:=fun v1 v2 d h1 h2 w r1 r2 u1 u2 => by
  obtain ⟨n,x⟩:=d;obtain ⟨ao,cap,hv,hm,hc⟩:=r1
  cases hv
  obtain ⟨ao',cap',hv',hm',hc'⟩:=r2
  cases hv'
  simp only at hm hc hc'
  unfold maxLen at hm;clear hm'
  go_enter Try.func38,Try.ntmps38
  go_wp2
  go_loopw [5] (fun i wr => ∃ k:Nat,k ≤ n ∧ i = .int .i64 k ∧ Below w.heap.size w wr) (fun i _ => n - (intOf i).toNat)
  case atStart => exact ⟨0,Nat.zero_le _,rfl,Below.refl _ _⟩
  case round =>
    obtain ⟨k,hk,rfl,hb⟩:=hrel
    by_cases hlt:k < n
    · obtain ⟨b,off,rfl,hblt,hel⟩:=hc (by omega)
      obtain ⟨b',off',rfl,hblt',hel'⟩:=hc' (by omega);obtain ⟨ck,hrk,hcell⟩:=elem_rd (t:=0) hel (below_drewN hb 1) u1 hblt hlt;obtain ⟨ck',hrk',hcell'⟩:=elem_rd (t:=0) hel' (below_drewN hb 1) u2 hblt' hlt;obtain ⟨ao9,cap9,rfl⟩:=sl_form hrk;obtain ⟨bao9,bcap9,rfl⟩:=sl_form hrk'
      have c0:wr.cell? ⟨b,off + k,none⟩ = some (.slice ao9 (x k).1 cap9):=by
        have h:=hcell 0 (show 0 < 1 by decide);rw [show (layDrive.slice 58).sz = 1 from rfl,Nat.mul_one,Nat.add_zero] at h;exact h
      have e0:wr.cell? ⟨b',off' + k,none⟩ = some (.slice bao9 (x k).1 bcap9):=by
        have h:=hcell' 0 (show 0 < 1 by decide);rw [show (layDrive.slice 58).sz = 1 from rfl,Nat.mul_one,Nat.add_zero] at h;exact h
      have C1:=eqDriveS_is _ _ (x k) h1 h2 (wr.drewN 1) hrk hrk' (Nat.le_trans u1 hb.size) (Nat.le_trans u2 hb.size);clear hc hc' hel hel' hcell hcell' hrk hrk';go_wp2
      go_region_with (go_at_call 56;refine C1.mono ?_;rintro ee w2 ⟨rfl,hb2⟩)
      all_goals
        have R':Below w.heap.size w w2:=hb.trans ((below_drewN (Below.refl wr.heap.size wr) 1).trans hb2 |>.mono hb.size);clear hb2;go_wp2
        go_roundw
        case rel => exact ⟨k + 1,by omega,by go_num,R'⟩
        case measure => simp [intOf];omega
    · obtain rfl:k = n:=by omega
      go_wp2;go_ret;exact ⟨rfl,hb⟩
end Go.Proofs.Ytcepcjkfdonclaa
namespace Go.Proofs.Ytcepcjkfdonclaa
open Go.RowKit F256
set_option maxHeartbeats 8000000 in
set_option maxRecDepth 20000 in
theorem eqRec_is:EqV layRec 73:=fun c1 c2 d h1 h2 w r1 r2 u1 u2 => by
  obtain ⟨ao6,cap6,ao7,cap7,ao8,cap8,rfl,g6,g7,g8,-⟩:=Rec_rd r1;obtain ⟨bao6,bcap6,bao7,bcap7,bao8,bcap8,rfl,q6,q7,q8,-⟩:=Rec_rd r2;clear r1 r2;have G6:Hid (layInts.rd w h1 d.rows [.slice ao6 d.rows.1 cap6]):=g6;have E6:Hid (layInts.rd w h2 d.rows [.slice bao6 d.rows.1 bcap6]):=q6;have G7:Hid (layBytes.rd w h1 d.data [.slice ao7 d.data.1 cap7]):=g7;have E7:Hid (layBytes.rd w h2 d.data [.slice bao7 d.data.1 bcap7]):=q7;have G8:Hid (layBytes.rd w h1 d.delta [.slice ao8 d.delta.1 cap8]):=g8;have E8:Hid (layBytes.rd w h2 d.delta [.slice bao8 d.delta.1 bcap8]):=q8;clear g6 q6 g7 q7 g8 q8
  go_enter Try.func73,Try.ntmps73
  go_wp2_with fail
  have T0:=two_newb w #[.int .i64 d.kind,.int .i64 d.seq,.string d.name,.int .i64 d.length,.int .i64 d.group,.int .i64 d.row,.slice ao6 d.rows.1 cap6,.slice ao7 d.data.1 cap7,.slice ao8 d.delta.1 cap8] #[.int .i64 d.kind,.int .i64 d.seq,.string d.name,.int .i64 d.length,.int .i64 d.group,.int .i64 d.row,.slice bao6 d.rows.1 bcap6,.slice bao7 d.data.1 bcap7,.slice bao8 d.delta.1 bcap8] 104 104;refine (eqInts_is _ _ d.rows h1 h2 _ (layInts.rd_below G6.out T0.bel u1) (layInts.rd_below E6.out T0.bel u2) (Nat.le_trans u1 T0.bel.size) (Nat.le_trans u2 T0.bel.size)).mono ?_;rintro e w1 ⟨rfl,b1⟩;have T1:Two w w1 #[.int .i64 d.kind,.int .i64 d.seq,.string d.name,.int .i64 d.length,.int .i64 d.group,.int .i64 d.row,.slice ao6 d.rows.1 cap6,.slice ao7 d.data.1 cap7,.slice ao8 d.delta.1 cap8] #[.int .i64 d.kind,.int .i64 d.seq,.string d.name,.int .i64 d.length,.int .i64 d.group,.int .i64 d.row,.slice bao6 d.rows.1 bcap6,.slice bao7 d.data.1 bcap7,.slice bao8 d.delta.1 bcap8] 104 104:=T0.call b1;clear T0 b1;have x1_7:w1.cell? ⟨w.heap.size,7,none⟩ = some (.slice ao7 d.data.1 cap7):=T1.b1.cell 7;have y1_7:w1.cell? ⟨w.heap.size + 1,7,none⟩ = some (.slice bao7 d.data.1 bcap7):=T1.b2.cell 7
  go_wp2_with fail
  refine (eqBytes_is _ _ d.data h1 h2 _ (layBytes.rd_below G7.out T1.bel u1) (layBytes.rd_below E7.out T1.bel u2) (Nat.le_trans u1 T1.bel.size) (Nat.le_trans u2 T1.bel.size)).mono ?_;rintro e w2 ⟨rfl,b2⟩;have T2:Two w w2 #[.int .i64 d.kind,.int .i64 d.seq,.string d.name,.int .i64 d.length,.int .i64 d.group,.int .i64 d.row,.slice ao6 d.rows.1 cap6,.slice ao7 d.data.1 cap7,.slice ao8 d.delta.1 cap8] #[.int .i64 d.kind,.int .i64 d.seq,.string d.name,.int .i64 d.length,.int .i64 d.group,.int .i64 d.row,.slice bao6 d.rows.1 bcap6,.slice bao7 d.data.1 bcap7,.slice bao8 d.delta.1 bcap8] 104 104:=T1.call b2;clear T1 b2;have x2_8:w2.cell? ⟨w.heap.size,8,none⟩ = some (.slice ao8 d.delta.1 cap8):=T2.b1.cell 8;have y2_8:w2.cell? ⟨w.heap.size + 1,8,none⟩ = some (.slice bao8 d.delta.1 bcap8):=T2.b2.cell 8
  go_wp2_with fail
  refine (eqBytes_is _ _ d.delta h1 h2 _ (layBytes.rd_below G8.out T2.bel u1) (layBytes.rd_below E8.out T2.bel u2) (Nat.le_trans u1 T2.bel.size) (Nat.le_trans u2 T2.bel.size)).mono ?_;rintro e w3 ⟨rfl,b3⟩;have T3:Two w w3 #[.int .i64 d.kind,.int .i64 d.seq,.string d.name,.int .i64 d.length,.int .i64 d.group,.int .i64 d.row,.slice ao6 d.rows.1 cap6,.slice ao7 d.data.1 cap7,.slice ao8 d.delta.1 cap8] #[.int .i64 d.kind,.int .i64 d.seq,.string d.name,.int .i64 d.length,.int .i64 d.group,.int .i64 d.row,.slice bao6 d.rows.1 bcap6,.slice bao7 d.data.1 bcap7,.slice bao8 d.delta.1 bcap8] 104 104:=T2.call b3;clear T2 b3;have B:Hid (Below w.heap.size w w3):=T3.bel;clear T3;go_wp2;go_ret;exact ⟨rfl,B.out⟩
set_option maxHeartbeats 4000000 in
theorem eqRecS_is:EqS (layRec.slice 104) 68:=fun v1 v2 d h1 h2 w r1 r2 u1 u2 => by
  obtain ⟨n,x⟩:=d;obtain ⟨ao,cap,hv,hm,hc⟩:=r1
  cases hv
  obtain ⟨ao',cap',hv',hm',hc'⟩:=r2
  cases hv'
  simp only at hm hc hc'
  unfold maxLen at hm;clear hm'
  go_enter Try.func68,Try.ntmps68
  go_wp2
  go_loopw [5] (fun i wr => ∃ k:Nat,k ≤ n ∧ i = .int .i64 k ∧ Below w.heap.size w wr) (fun i _ => n - (intOf i).toNat)
  case atStart => exact ⟨0,Nat.zero_le _,rfl,Below.refl _ _⟩
  case round =>
    obtain ⟨k,hk,rfl,hb⟩:=hrel
    by_cases hlt:k < n
    · obtain ⟨b,off,rfl,hblt,hel⟩:=hc (by omega)
      obtain ⟨b',off',rfl,hblt',hel'⟩:=hc' (by omega);obtain ⟨ck,hrk,hcell⟩:=elem_rd (t:=0) hel (below_drewN hb 1) u1 hblt hlt;obtain ⟨ck',hrk',hcell'⟩:=elem_rd (t:=0) hel' (below_drewN hb 1) u2 hblt' hlt;obtain ⟨ao6,cap6,ao7,cap7,ao8,cap8,rfl,-⟩:=Rec_rd hrk;obtain ⟨bao6,bcap6,bao7,bcap7,bao8,bcap8,rfl,-⟩:=Rec_rd hrk';have c0:wr.cell? ⟨b,off + k * 9,none⟩ = some (.int .i64 (x k).kind):=hcell 0 (by decide);have c1:wr.cell? ⟨b,off + k * 9 + 1,none⟩ = some (.int .i64 (x k).seq):=hcell 1 (by decide);have c2:wr.cell? ⟨b,off + k * 9 + 2,none⟩ = some (.string (x k).name):=hcell 2 (by decide);have c3:wr.cell? ⟨b,off + k * 9 + 3,none⟩ = some (.int .i64 (x k).length):=hcell 3 (by decide);have c4:wr.cell? ⟨b,off + k * 9 + 4,none⟩ = some (.int .i64 (x k).group):=hcell 4 (by decide);have c5:wr.cell? ⟨b,off + k * 9 + 5,none⟩ = some (.int .i64 (x k).row):=hcell 5 (by decide);have c6:wr.cell? ⟨b,off + k * 9 + 6,none⟩ = some (.slice ao6 (x k).rows.1 cap6):=hcell 6 (by decide);have c7:wr.cell? ⟨b,off + k * 9 + 7,none⟩ = some (.slice ao7 (x k).data.1 cap7):=hcell 7 (by decide);have c8:wr.cell? ⟨b,off + k * 9 + 8,none⟩ = some (.slice ao8 (x k).delta.1 cap8):=hcell 8 (by decide);have e0:wr.cell? ⟨b',off' + k * 9,none⟩ = some (.int .i64 (x k).kind):=hcell' 0 (by decide);have e1:wr.cell? ⟨b',off' + k * 9 + 1,none⟩ = some (.int .i64 (x k).seq):=hcell' 1 (by decide);have e2:wr.cell? ⟨b',off' + k * 9 + 2,none⟩ = some (.string (x k).name):=hcell' 2 (by decide);have e3:wr.cell? ⟨b',off' + k * 9 + 3,none⟩ = some (.int .i64 (x k).length):=hcell' 3 (by decide);have e4:wr.cell? ⟨b',off' + k * 9 + 4,none⟩ = some (.int .i64 (x k).group):=hcell' 4 (by decide);have e5:wr.cell? ⟨b',off' + k * 9 + 5,none⟩ = some (.int .i64 (x k).row):=hcell' 5 (by decide);have e6:wr.cell? ⟨b',off' + k * 9 + 6,none⟩ = some (.slice bao6 (x k).rows.1 bcap6):=hcell' 6 (by decide);have e7:wr.cell? ⟨b',off' + k * 9 + 7,none⟩ = some (.slice bao7 (x k).data.1 bcap7):=hcell' 7 (by decide);have e8:wr.cell? ⟨b',off' + k * 9 + 8,none⟩ = some (.slice bao8 (x k).delta.1 bcap8):=hcell' 8 (by decide);have C1:=eqRec_is _ _ (x k) h1 h2 (wr.drewN 1) hrk hrk' (Nat.le_trans u1 hb.size) (Nat.le_trans u2 hb.size);clear hc hc' hel hel' hcell hcell' hrk hrk';go_wp2
      go_region_with (go_at_call 73;refine C1.mono ?_;rintro ee w2 ⟨rfl,hb2⟩)
      all_goals
        have R':Below w.heap.size w w2:=hb.trans ((below_drewN (Below.refl wr.heap.size wr) 1).trans hb2 |>.mono hb.size);clear hb2;go_wp2
        go_roundw
        case rel => exact ⟨k + 1,by omega,by go_num,R'⟩
        case measure => simp [intOf];omega
    · obtain rfl:k = n:=by omega
      go_wp2;go_ret;exact ⟨rfl,hb⟩
set_option maxHeartbeats 8000000 in
set_option maxRecDepth 20000 in
theorem eqTape_is:EqV layTape 57:=fun c1 c2 d h1 h2 w r1 r2 u1 u2 => by
  obtain ⟨ao1,cap1,rfl,g1⟩:=Tape_rd r1;obtain ⟨bao1,bcap1,rfl,q1⟩:=Tape_rd r2;clear r1 r2;have G1:Hid ((layRec.slice 104).rd w h1 d.recs [.slice ao1 d.recs.1 cap1]):=g1;have E1:Hid ((layRec.slice 104).rd w h2 d.recs [.slice bao1 d.recs.1 bcap1]):=q1;clear g1 q1
  go_enter Try.func57,Try.ntmps57
  go_wp2_with fail
  have T0:=two_newb w #[.bool d.wiped,.slice ao1 d.recs.1 cap1] #[.bool d.wiped,.slice bao1 d.recs.1 bcap1] 88 88;refine (eqRecS_is _ _ d.recs h1 h2 _ ((layRec.slice 104).rd_below G1.out T0.bel u1) ((layRec.slice 104).rd_below E1.out T0.bel u2) (Nat.le_trans u1 T0.bel.size) (Nat.le_trans u2 T0.bel.size)).mono ?_;rintro e w1 ⟨rfl,b1⟩;have T1:Two w w1 #[.bool d.wiped,.slice ao1 d.recs.1 cap1] #[.bool d.wiped,.slice bao1 d.recs.1 bcap1] 88 88:=T0.call b1;clear T0 b1;have B:Hid (Below w.heap.size w w1):=T1.bel;clear T1;go_wp2;go_ret;exact ⟨rfl,B.out⟩
set_option maxHeartbeats 4000000 in
theorem eqTapeS_is:EqS (layTape.slice 88) 40:=fun v1 v2 d h1 h2 w r1 r2 u1 u2 => by
  obtain ⟨n,x⟩:=d;obtain ⟨ao,cap,hv,hm,hc⟩:=r1
  cases hv
  obtain ⟨ao',cap',hv',hm',hc'⟩:=r2
  cases hv'
  simp only at hm hc hc'
  unfold maxLen at hm;clear hm'
  go_enter Try.func40,Try.ntmps40
  go_wp2
  go_loopw [5] (fun i wr => ∃ k:Nat,k ≤ n ∧ i = .int .i64 k ∧ Below w.heap.size w wr) (fun i _ => n - (intOf i).toNat)
  case atStart => exact ⟨0,Nat.zero_le _,rfl,Below.refl _ _⟩
  case round =>
    obtain ⟨k,hk,rfl,hb⟩:=hrel
    by_cases hlt:k < n
    · obtain ⟨b,off,rfl,hblt,hel⟩:=hc (by omega)
      obtain ⟨b',off',rfl,hblt',hel'⟩:=hc' (by omega);obtain ⟨ck,hrk,hcell⟩:=elem_rd (t:=0) hel (below_drewN hb 1) u1 hblt hlt;obtain ⟨ck',hrk',hcell'⟩:=elem_rd (t:=0) hel' (below_drewN hb 1) u2 hblt' hlt;obtain ⟨ao1,cap1,rfl,-⟩:=Tape_rd hrk;obtain ⟨bao1,bcap1,rfl,-⟩:=Tape_rd hrk';have c0:wr.cell? ⟨b,off + k * 2,none⟩ = some (.bool (x k).wiped):=hcell 0 (by decide);have c1:wr.cell? ⟨b,off + k * 2 + 1,none⟩ = some (.slice ao1 (x k).recs.1 cap1):=hcell 1 (by decide);have e0:wr.cell? ⟨b',off' + k * 2,none⟩ = some (.bool (x k).wiped):=hcell' 0 (by decide);have e1:wr.cell? ⟨b',off' + k * 2 + 1,none⟩ = some (.slice bao1 (x k).recs.1 bcap1):=hcell' 1 (by decide);have C1:=eqTape_is _ _ (x k) h1 h2 (wr.drewN 1) hrk hrk' (Nat.le_trans u1 hb.size) (Nat.le_trans u2 hb.size);clear hc hc' hel hel' hcell hcell' hrk hrk';go_wp2
      go_region_with (go_at_call 57;refine C1.mono ?_;rintro ee w2 ⟨rfl,hb2⟩)
      all_goals
        have R':Below w.heap.size w w2:=hb.trans ((below_drewN (Below.refl wr.heap.size wr) 1).trans hb2 |>.mono hb.size);clear hb2;go_wp2
        go_roundw
        case rel => exact ⟨k + 1,by omega,by go_num,R'⟩
        case measure => simp [intOf];omega
    · obtain rfl:k = n:=by omega
      go_wp2;go_ret;exact ⟨rfl,hb⟩
end Go.Proofs.Ytcepcjkfdonclaa
namespace Go.Proofs.Ytcepcjkfdonclaa
open Go.RowKit F256
set_option maxHeartbeats 2000000 in
theorem eqShape_any (s:Nat → Int) (w:World) :
    Calls Try.prog 37 #[shapeV s,shapeV s] w fun e w' => e = .returned (.bool true) ∧ Below w.heap.size w w':=by
  unfold shapeV
  go_enter Try.func37,Try.ntmps37
  go_wp2;go_ret;exact ⟨rfl,((Below.refl _ _).alloc (Nat.le_refl _) _).alloc (by simp) _⟩
end Go.Proofs.Ytcepcjkfdonclaa