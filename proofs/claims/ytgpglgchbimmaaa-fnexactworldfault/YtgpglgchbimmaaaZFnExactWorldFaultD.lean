/- Walks of the program's isLetter, isDigit and NameFault. -/
import Derived.Test.YtgpglgchbimmaaaZFnExactWorldFaultB
import Derived.Test.YtgpglgchbimmaaaZFnExactWorldFaultC
import Derived.Deep.Cut
import Derived.Test.YtgpglgchbimmaaaWRowF
import Derived.Test.YtgpglgchbimmaaaWInts
namespace Go.Proofs.Ytgpglgchbimmaaa
open Go.RowKit F256
set_option linter.unusedVariables false
set_option linter.unusedSimpArgs false

set_option maxHeartbeats 4000000 in
theorem rowLength_any (s : Nat → Int) (h1 : 1 ≤ s 2) (h2 : s 2 ≤ 1000) (w : World) :
    Calls Try.prog 88 #[shapeV s] w fun e w' => e = .returned (.int .i64 (s 2 * 4)) ∧ Below w.heap.size w w' := by
  unfold shapeV
  obtain ⟨a2, h0⟩ : ∃ a, a = s 2 := ⟨_, rfl⟩
  rw [← h0] at h1 h2 ⊢
  clear h0
  have B0 : Below w.heap.size w (w.alloc (.cells #[.int .i64 (s 0), .int .i64 (s 1), .int .i64 a2, .int .i64 (s 3), .int .i64 (s 4), .int .i64 (s 5), .int .i64 (s 6), .int .i64 (s 7), .int .i64 (s 8)] 31)) := bnew (Below.refl _ _)
  go_enter Try.func88, Try.ntmps88
  go_wp2
  go_ret
  exact ⟨rfl, B0⟩

set_option maxHeartbeats 4000000 in
theorem implParts_any (s : Nat → Int) (l : Int) (w : World) :
    Calls Try.prog 87 #[shapeV s, .int .i64 l] w fun e w' => ∃ x c, e = .returned (intR c x) ∧ PfAns s l x c ∧ Below w.heap.size w w' := by
  unfold shapeV
  go_enter Try.func87, Try.ntmps87
  go_wp2_with fail
  refine (implShape_any s _).mono ?_
  rintro e w1 ⟨x, rfl, hx, B1'⟩
  obtain ⟨X1, X2, B1, z1⟩ := two_new B1'
  obtain ⟨x0, x1, x2, x3, x4, x5, x6, x7, x8⟩ := box9 X1
  obtain ⟨y0, y1, y2, y3⟩ := res_cells X2
  have HX : Hid (Box w1 (w.heap.size + 1) #[.int .i64 0, .int .i64 0] 112) := X2
  have HX1 : Hid (Box w1 w.heap.size #[.int .i64 (s 0), .int .i64 (s 1), .int .i64 (s 2), .int .i64 (s 3), .int .i64 (s 4), .int .i64 (s 5), .int .i64 (s 6), .int .i64 (s 7), .int .i64 (s 8)] 31) := X1
  clear B1' X1 X2
  rcases hx with ⟨rfl, hx⟩ | ⟨rfl, hx⟩
  · have HN : Hid (¬ OkShape s) := hx
    clear hx
    go_wp2
    exact bodyPost_ret (v := intR 3 0) (by simp [results, Try.results87, go_sem, intR, y0, y1]) rfl ⟨0, 3, rfl, .inl ⟨HN.out, rfl, rfl⟩, (B1.setCell (Nat.le_succ _) _).setCell (Nat.le_succ _) _⟩
  · have HO : Hid (OkShape s) := hx
    have HD : Hid (1 ≤ s 2 ∧ s 2 ≤ 1000) := by show 1 ≤ s 2 ∧ s 2 ≤ 1000; have := hx.2.1; unfold Shp at this; omega
    clear hx
    have CL := rowLength_any s HD.out.1 HD.out.2
    unfold shapeV at CL
    have HM : Hid (∀ m, m = (l + s 2 * 4 - 1) / (s 2 * 4) → 1 ≤ l → l ≤ 3 * (s 2 * 4) → PfAns s l m 0) := fun m hm h1 h2 => .inr (.inr (.inr ⟨HO.out, h1, h2, rfl, hm⟩))
    have HM2 : Hid (1 ≤ l → 3 * (s 2 * 4) < l → PfAns s l 0 2) := fun h1 h2 => .inr (.inr (.inl ⟨HO.out, h1, h2, rfl, rfl⟩))
    obtain ⟨S, hS⟩ : ∃ S, S = s 2 * 4 := ⟨_, rfl⟩
    rw [← hS] at CL HM HM2
    have q1 : 4 ≤ S := by have := HD.out.1; omega
    have q2 : S ≤ 4000 := by have := HD.out.2; omega
    clear hS
    by_cases c1 : l < 1
    · go_wp2
      exact bodyPost_ret (v := intR 6 0) (by simp [results, Try.results87, go_sem, intR, y0, y1]) rfl ⟨0, 6, rfl, .inr (.inl ⟨HO.out, c1, rfl, rfl⟩), (B1.setCell (Nat.le_succ _) _).setCell (Nat.le_succ _) _⟩
    · go_wp2_with fail
      refine (CL _).mono ?_
      rintro e w2 ⟨rfl, B2⟩
      have z2 := B2.size
      have B12 : Below w.heap.size w w2 := B1.trans (B2.mono B1.size)
      have HX2 : Hid (Box w2 (w.heap.size + 1) #[.int .i64 0, .int .i64 0] 112) := HX.out.below B2 z1
      have HY2 : Hid (Box w2 w.heap.size #[.int .i64 (s 0), .int .i64 (s 1), .int .i64 (s 2), .int .i64 (s 3), .int .i64 (s 4), .int .i64 (s 5), .int .i64 (s 6), .int .i64 (s 7), .int .i64 (s 8)] 31) := HX1.out.below B2 (by omega)
      clear x0 x1 x2 x3 x4 x5 x6 x7 x8 y0 y1 y2 y3 B2 HX HX1
      obtain ⟨y0, y1, y2, y3⟩ := res_cells HX2.out
      obtain ⟨x0, x1, x2, x3, x4, x5, x6, x7, x8⟩ := box9 HY2.out
      by_cases c2 : 3 * S < l
      · have t2 : decide (3 * S < l) = true := by simp; omega
        go_wp2
        exact bodyPost_ret (v := intR 2 0) (by simp [results, Try.results87, go_sem, intR, y0, y1]) rfl ⟨0, 2, rfl, HM2.out (by omega) c2, (B12.setCell (Nat.le_succ _) _).setCell (Nat.le_succ _) _⟩
      · have t2 : decide (3 * S < l) = false := by simp; omega
        have q3 : 0 ≤ l + S - 1 := by omega
        go_wp2_with fail
        have K0 : Hid (Below w2.heap.size w2 w2) := Below.refl _ _
        go_region_with (go_at_call 88; refine (CL _).mono ?_; rintro ee w3 ⟨rfl, hb3⟩; (first | (have hB2 : Below w2.heap.size w2 w3 := hB.trans ((⟨hb3.os, hb3.tape, hb3.output, hb3.size, hb3.block⟩ : Below _ _ _).mono hB.size); clear hb3; obtain ⟨v0, v1, v2, v3⟩ := res_cells (HX2.out.below hB2 (by omega)); obtain ⟨u0, u1, u2, u3, u4, u5, u6, u7, u8⟩ := box9 (HY2.out.below hB2 (by omega))) | (have hB : Below w2.heap.size w2 w3 := ⟨hb3.os, hb3.tape, hb3.output, hb3.size, hb3.block⟩; clear hb3; obtain ⟨u0, u1, u2, u3, u4, u5, u6, u7, u8⟩ := box9 (HY2.out.below hB (by omega)))))
        all_goals
          have B4 : Below w.heap.size w w3 := B12.trans (hB2.mono B12.size)
          go_wp2
          exact bodyPost_ret (v := intR 0 ((l + S - 1) / S)) (by simp [results, Try.results87, go_sem, intR, v0, v1]) rfl ⟨(l + S - 1) / S, 0, rfl, HM.out _ rfl (by omega) (by omega), (B4.setCell (Nat.le_succ _) _).setCell (Nat.le_succ _) _⟩
end Go.Proofs.Ytgpglgchbimmaaa

namespace Go.Proofs.Ytgpglgchbimmaaa
open Go.RowKit F256
set_option linter.unusedVariables false
set_option linter.unusedSimpArgs false

theorem inBounds_b {x a b : Int} {t : Bool} (hab : a ≤ b) (ht : t = true ↔ InP x a b) (w : World) :
    Calls Try.prog 34 #[.int .i64 x, .int .i64 a, .int .i64 b] w fun e w' => e = .returned (.bool t) ∧ w' = w := by
  by_cases h1 : a ≤ x
  · by_cases h2 : x ≤ b
    · obtain rfl : t = true := ht.2 ⟨h1, h2⟩
      clear ht hab
      go_enter Try.func34, Try.ntmps34
      go_wp2
      go_ret
      exact ⟨rfl, rfl⟩
    · obtain rfl : t = false := by
        cases t with
        | false => rfl
        | true => exact absurd (ht.1 rfl).2 h2
      clear ht hab
      have hd : decide (x ≤ b) = false := decide_eq_false h2
      go_enter Try.func34, Try.ntmps34
      go_wp2
      go_ret
      exact ⟨rfl, rfl⟩
  · obtain rfl : t = false := by
      cases t with
      | false => rfl
      | true => exact absurd (ht.1 rfl).1 h1
    clear ht hab
    have hd : decide (a ≤ x) = false := decide_eq_false h1
    go_enter Try.func34, Try.ntmps34
    go_wp2
    go_ret
    exact ⟨rfl, rfl⟩
theorem groupCount_any (s : Nat → Int) (h : OkShape s) (w : World) :
    Calls Try.prog 61 #[shapeV s] w fun e w' => e = .returned (.int .i64 (s 0 + s 1)) ∧ Below w.heap.size w w' := by
  obtain ⟨h1, h2, _⟩ := h
  unfold Shp3 at h1
  have B0 := (one_new w #[.int .i64 (s 0), .int .i64 (s 1), .int .i64 (s 2), .int .i64 (s 3), .int .i64 (s 4), .int .i64 (s 5), .int .i64 (s 6), .int .i64 (s 7), .int .i64 (s 8)] 31).bel
  unfold shapeV
  have hw : -9223372036854775808 ≤ s 0 + s 1 ∧ s 0 + s 1 ≤ 9223372036854775807 := by omega
  go_enter Try.func61, Try.ntmps61
  go_wp2
  go_ret
  exact ⟨rfl, B0⟩
theorem driveCount_any (s : Nat → Int) (h : OkShape s) (w : World) :
    Calls Try.prog 62 #[shapeV s] w fun e w' => e = .returned (.int .i64 (s 2 + s 3)) ∧ Below w.heap.size w w' := by
  obtain ⟨h1, h2, _⟩ := h
  unfold Shp at h2
  have B0 := (one_new w #[.int .i64 (s 0), .int .i64 (s 1), .int .i64 (s 2), .int .i64 (s 3), .int .i64 (s 4), .int .i64 (s 5), .int .i64 (s 6), .int .i64 (s 7), .int .i64 (s 8)] 31).bel
  unfold shapeV
  have hw : -9223372036854775808 ≤ s 2 + s 3 ∧ s 2 + s 3 ≤ 9223372036854775807 := by omega
  go_enter Try.func62, Try.ntmps62
  go_wp2
  go_ret
  exact ⟨rfl, B0⟩
theorem okB {s : Nat → Int} (h : OkShape s) : 1 ≤ s 0 ∧ s 0 ≤ 4 ∧ 0 ≤ s 1 ∧ s 1 ≤ 2 ∧ 1 ≤ s 2 ∧ s 2 ≤ 3 ∧ 0 ≤ s 3 ∧ s 3 ≤ 2 ∧ 1 ≤ s 4 ∧ s 4 ≤ 6 ∧ 1 ≤ s 5 ∧ s 5 ≤ 6 := by
  obtain ⟨h1, h2, h3, h4, _⟩ := h
  unfold Shp3 at h1
  unfold Shp at h2
  omega
theorem isGroup_b {s : Nat → Int} (h : OkShape s) {x : Int} {t : Bool} (ht : t = true ↔ InP x 0 (s 0 + s 1 - 1)) (w : World) :
    Calls Try.prog 76 #[shapeV s, .int .i64 x] w fun e w' => e = .returned (.bool t) ∧ Below w.heap.size w w' := by
  have hb := okB h
  have C := groupCount_any s h
  have CB := fun w' => inBounds_b (w := w') (show 0 ≤ s 0 + s 1 - 1 by omega) ht
  have T0 := one_new w #[.int .i64 (s 0), .int .i64 (s 1), .int .i64 (s 2), .int .i64 (s 3), .int .i64 (s 4), .int .i64 (s 5), .int .i64 (s 6), .int .i64 (s 7), .int .i64 (s 8)] 31
  unfold shapeV at C ⊢
  clear ht h
  go_enter Try.func76, Try.ntmps76
  go_wp2_with fail
  refine (C _).mono ?_
  rintro e w1 ⟨rfl, b1⟩
  have HB : Hid (Below w.heap.size w w1) := (T0.call b1).bel
  clear b1 T0 C
  go_wp2_with fail
  refine (CB _).mono ?_
  rintro e w2 ⟨rfl, hw2⟩
  obtain rfl := hw2.symm
  go_wp2
  go_ret
  exact ⟨rfl, HB.out⟩
theorem isDataGroup_b {s : Nat → Int} (h : OkShape s) {x : Int} {t : Bool} (ht : t = true ↔ InP x 0 (s 0 - 1)) (w : World) :
    Calls Try.prog 73 #[shapeV s, .int .i64 x] w fun e w' => e = .returned (.bool t) ∧ Below w.heap.size w w' := by
  have hb := okB h
  have CB := fun w' => inBounds_b (w := w') (show 0 ≤ s 0 - 1 by omega) ht
  have HB : Hid (Below w.heap.size w (w.alloc (.cells #[.int .i64 (s 0), .int .i64 (s 1), .int .i64 (s 2), .int .i64 (s 3), .int .i64 (s 4), .int .i64 (s 5), .int .i64 (s 6), .int .i64 (s 7), .int .i64 (s 8)] 31))) := (one_new w #[.int .i64 (s 0), .int .i64 (s 1), .int .i64 (s 2), .int .i64 (s 3), .int .i64 (s 4), .int .i64 (s 5), .int .i64 (s 6), .int .i64 (s 7), .int .i64 (s 8)] 31).bel
  unfold shapeV
  clear ht h
  go_enter Try.func73, Try.ntmps73
  go_wp2_with fail
  refine (CB _).mono ?_
  rintro e w2 ⟨rfl, hw2⟩
  obtain rfl := hw2.symm
  go_wp2
  go_ret
  exact ⟨rfl, HB.out⟩
theorem isRow_b {s : Nat → Int} (h : OkShape s) {x : Int} {t : Bool} (ht : t = true ↔ InP x 0 (s 4 - 1)) (w : World) :
    Calls Try.prog 74 #[shapeV s, .int .i64 x] w fun e w' => e = .returned (.bool t) ∧ Below w.heap.size w w' := by
  have hb := okB h
  have CB := fun w' => inBounds_b (w := w') (show 0 ≤ s 4 - 1 by omega) ht
  have HB : Hid (Below w.heap.size w (w.alloc (.cells #[.int .i64 (s 0), .int .i64 (s 1), .int .i64 (s 2), .int .i64 (s 3), .int .i64 (s 4), .int .i64 (s 5), .int .i64 (s 6), .int .i64 (s 7), .int .i64 (s 8)] 31))) := (one_new w #[.int .i64 (s 0), .int .i64 (s 1), .int .i64 (s 2), .int .i64 (s 3), .int .i64 (s 4), .int .i64 (s 5), .int .i64 (s 6), .int .i64 (s 7), .int .i64 (s 8)] 31).bel
  unfold shapeV
  clear ht h
  go_enter Try.func74, Try.ntmps74
  go_wp2_with fail
  refine (CB _).mono ?_
  rintro e w2 ⟨rfl, hw2⟩
  obtain rfl := hw2.symm
  go_wp2
  go_ret
  exact ⟨rfl, HB.out⟩
theorem rowLong_b {s : Nat → Int} (h : OkShape s) {ao : Option Addr} {n cap : Nat} (hn : n ≤ 9223372036854775807) {t : Bool} (ht : ((n : Int) == s 2 * 4) = t) (w : World) :
    Calls Try.prog 75 #[shapeV s, .slice ao n cap] w fun e w' => e = .returned (.bool t) ∧ Below w.heap.size w w' := by
  have hb := okB h
  have C := fun w' => rowLength_any s (by omega) (by omega) w'
  have T0 := one_new w #[.int .i64 (s 0), .int .i64 (s 1), .int .i64 (s 2), .int .i64 (s 3), .int .i64 (s 4), .int .i64 (s 5), .int .i64 (s 6), .int .i64 (s 7), .int .i64 (s 8)] 31
  unfold shapeV at C ⊢
  clear h
  go_enter Try.func75, Try.ntmps75
  go_wp2_with fail
  refine (C _).mono ?_
  rintro e w1 ⟨rfl, b1⟩
  have HB : Hid (Below w.heap.size w w1) := (T0.call b1).bel
  clear b1 T0 C
  go_wp2
  go_ret
  exact ⟨by simp [ht], HB.out⟩
set_option maxHeartbeats 4000000 in
theorem differWithin_any (v : Value) (n : Nat) (g : Nat → Int) (hi : Nat) (bound : Int) (hb1 : 1 ≤ bound) (hb2 : bound ≤ 1000000) (w : World) (r : RdI w hi v n g) (hcp : CapP v n) (hhi : hi ≤ w.heap.size) :
    Calls Try.prog 64 #[v, .int .i64 bound] w (BoolP (ApartP n g (bound - 1)) w) := by
  have HR : Hid (RdI w hi v n g) := r
  obtain ⟨ao, cap, rfl, hm, hc⟩ := r
  obtain ⟨_, _, e, hcp⟩ := hcp
  cases e
  unfold maxLen at hm
  go_enter Try.func64, Try.ntmps64
  go_wp2
  go_loopw [9] (fun i wr => ∃ k : Nat, k ≤ n ∧ i = .int .i64 k ∧ ApartP k g (bound - 1) ∧ Below w.heap.size w wr) (fun i _ => n - (intOf i).toNat)
  case atStart => exact ⟨0, Nat.zero_le _, rfl, fun i hi => by omega, Below.refl _ _⟩
  case round =>
    obtain ⟨k, hk, rfl, hall, hb⟩ := hrel
    have HALL : Hid (ApartP k g (bound - 1)) := hall
    clear hall
    by_cases hlt : k < n
    · obtain ⟨b, off, rfl, hblt, hcell⟩ := hc (by omega)
      have hck : wr.cell? ⟨b, off + k, none⟩ = some (.int .i64 (g k)) := (hb.cell (p := ⟨b, off + k, none⟩) (by show b < w.heap.size; omega)).trans (hcell k hlt)
      have kcp : k ≤ cap := by omega
      obtain ⟨t1, h1⟩ := exB (InP (g k) 0 (bound - 1))
      obtain ⟨t2, h2⟩ := exB (∃ t, t < k ∧ g t = g k)
      have C1 := fun w' => inBounds_b (w := w') (show 0 ≤ bound - 1 by omega) h1
      have C2 := det_b (contains_any (.slice (some ⟨b, off, none⟩) k cap) k g hi (g k) wr ((HR.out.part hk (by omega)).below hb hhi)) h2
      have H1 : Hid (t1 = true ↔ InP (g k) 0 (bound - 1)) := h1
      have H2 : Hid (t2 = true ↔ ∃ t, t < k ∧ g t = g k) := h2
      obtain ⟨y, hy⟩ : ∃ y, y = g k := ⟨_, rfl⟩
      have HY : Hid (y = g k) := hy
      rw [← hy] at hck C1 C2
      have HB : Hid (Below w.heap.size w wr) := hb
      clear hc hcell h1 h2 hy hb
      go_wp2_with fail
      refine (C1 _).mono ?_
      rintro e w' ⟨rfl, hw'⟩
      obtain rfl := hw'.symm
      clear C1
      cases t1 with
      | false =>
        go_wp2
        go_ret
        exact boolNo rfl (fun h => by
          have := H1.out.2 (h k hlt).1
          simp at this) HB.out
      | true =>
        go_wp2_with fail
        refine C2.mono ?_
        rintro e w2 ⟨rfl, b2⟩
        have HB2 : Hid (Below w.heap.size w w2) := HB.out.trans (b2.mono HB.out.size)
        clear b2 C2
        cases t2 with
        | true =>
          go_wp2
          go_ret
          exact boolNo rfl (fun h => by
            obtain ⟨t, ht, e⟩ := H2.out.1 (by simp)
            exact (h k hlt).2 t ht e) HB2.out
        | false =>
          go_wp2
          go_roundw
          case rel => exact ⟨k + 1, by omega, by go_num, fun i hi => by
                        by_cases c : i = k
                        · subst c
                          exact ⟨H1.out.1 (by simp), fun t ht e => by
                            have := H2.out.2 ⟨t, ht, e⟩
                            simp at this⟩
                        · exact HALL.out i (by omega), HB2.out⟩
          case measure => simp [intOf]; omega
    · obtain rfl : k = n := by omega
      go_wp2
      go_ret
      exact boolYes rfl HALL.out hb
end Go.Proofs.Ytgpglgchbimmaaa

namespace Go.Proofs.Ytgpglgchbimmaaa
open Go.RowKit F256
set_option linter.unusedVariables false
set_option linter.unusedSimpArgs false

set_option maxHeartbeats 2000000 in
theorem blockFits_any (b : BlockD) (ao : Option Addr) (cap : Nat) (w : World) :
    Calls Try.prog 83 #[.agg #[.int .i64 b.stamp, .slice ao b.bytes.1 cap]] w (BoolP (BlockP b) w) := by
  obtain ⟨t1, h1⟩ := exB (InP b.stamp 0 1000000000)
  obtain ⟨b2, h2⟩ : ∃ x, ((b.bytes.1 : Int) == 4) = x := ⟨_, rfl⟩
  have HE : Hid (BlockP b ↔ (t1 = true ∧ b2 = true)) := by
    show BlockP b ↔ _
    rw [h1, ← h2]
    unfold BlockP
    simp
    intro _
    omega
  have C1 := fun w' => inBounds_b (w := w') (show (0 : Int) ≤ 1000000000 by omega) h1
  have HB : Hid (Below w.heap.size w (w.alloc (.cells #[.int .i64 b.stamp, .slice ao b.bytes.1 cap] 88))) := (Below.refl _ _).alloc (Nat.le_refl _) _
  clear h1
  go_enter Try.func83, Try.ntmps83
  go_wp2_with fail
  refine (C1 _).mono ?_
  rintro e w' ⟨rfl, hw'⟩
  obtain rfl := hw'.symm
  clear C1
  cases t1 with
  | false =>
    go_wp2
    go_ret
    exact boolNo rfl (fun h => by have := HE.out.1 h; simp at this) HB.out
  | true =>
    cases b2 with
    | false =>
      go_wp2
      go_ret
      exact boolNo rfl (fun h => by have := HE.out.1 h; simp at this) HB.out
    | true =>
      go_wp2
      go_ret
      exact boolYes rfl (HE.out.2 (by simp)) HB.out
set_option maxHeartbeats 4000000 in
theorem blocksFit_any (s : Nat → Int) (hs : OkShape s) (p : Nat × (Nat → BlockD)) (t : TypeId) (v : Value) (hi : Nat) (w : World) (h : (layBlock.slice t).rd w hi p [v]) (hhi : hi ≤ w.heap.size) :
    Calls Try.prog 63 #[shapeV s, v] w (BoolP (BlocksP s p) w) := by
  obtain ⟨ao, cap, e, hm, hc⟩ := h
  cases e
  unfold maxLen at hm
  have HC : Hid (p.1 ≠ 0 → ∃ b off, ao = some ⟨b, off, none⟩ ∧ b < hi ∧ ∀ i, i < p.1 → ∃ ce, layBlock.rd w hi (p.2 i) ce ∧ ∀ j, j < layBlock.sz → w.cell? ⟨b, off + (i * layBlock.sz + j), none⟩ = ce[j]?) := hc
  have HT0 : Hid (One w (w.alloc (.cells #[.int .i64 (s 0), .int .i64 (s 1), .int .i64 (s 2), .int .i64 (s 3), .int .i64 (s 4), .int .i64 (s 5), .int .i64 (s 6), .int .i64 (s 7), .int .i64 (s 8)] 31)) #[.int .i64 (s 0), .int .i64 (s 1), .int .i64 (s 2), .int .i64 (s 3), .int .i64 (s 4), .int .i64 (s 5), .int .i64 (s 6), .int .i64 (s 7), .int .i64 (s 8)] 31) := one_new w #[.int .i64 (s 0), .int .i64 (s 1), .int .i64 (s 2), .int .i64 (s 3), .int .i64 (s 4), .int .i64 (s 5), .int .i64 (s 6), .int .i64 (s 7), .int .i64 (s 8)] 31
  clear hc
  unfold shapeV
  go_enter Try.func63, Try.ntmps63
  by_cases hl : (p.1 : Int) = s 4
  · have hne : ((p.1 : Int) != s 4) = false := by simpa using hl
    have HL : Hid ((p.1 : Int) = s 4) := hl
    clear hl
    go_wp2
    go_loopw [14] (fun i wr => ∃ k : Nat, k ≤ p.1 ∧ i = .int .i64 k ∧ (∀ i, i < k → BlockP (p.2 i)) ∧ Below w.heap.size w wr) (fun i _ => p.1 - (intOf i).toNat)
    case atStart => exact ⟨0, Nat.zero_le _, rfl, fun i hi => by omega, HT0.out.bel⟩
    case round =>
      obtain ⟨k, hk, rfl, hal, hb⟩ := hrel
      have HAL : Hid (∀ i, i < k → BlockP (p.2 i)) := hal
      have HB : Hid (Below w.heap.size w wr) := hb
      clear hal
      by_cases hlt : k < p.1
      · obtain ⟨b, off, he, hbl, hel⟩ := HC.out (by omega)
        subst he
        obtain ⟨ck, hrk, hcell⟩ := elem_rd (t := 0) hel hb hhi hbl hlt
        obtain ⟨ao1, cap1, rfl, -⟩ := Block_rd hrk
        have c0 : wr.cell? ⟨b, off + k * 2, none⟩ = some (.int .i64 (p.2 k).stamp) := hcell 0 (by decide)
        have c1 : wr.cell? ⟨b, off + k * 2 + 1, none⟩ = some (.slice ao1 (p.2 k).bytes.1 cap1) := hcell 1 (by decide)
        have C := fun w' => blockFits_any (p.2 k) ao1 cap1 w'
        clear hel hcell hrk hb
        go_wp2_with fail
        refine (C _).mono ?_
        rintro e w2 ⟨t2, rfl, ht2, b2⟩
        have HB2 : Hid (Below w.heap.size w w2) := HB.out.trans ((bnew b2).mono HB.out.size)
        have HT2 : Hid (t2 = true ↔ BlockP (p.2 k)) := ht2
        clear C b2 ht2
        cases t2 with
        | false =>
          go_wp2
          go_ret
          exact boolNo rfl (fun h => by have := HT2.out.2 (h.2 k hlt); simp at this) HB2.out
        | true =>
          go_wp2
          go_roundw
          case rel => exact ⟨k + 1, by omega, by go_num, fun i hi => by
                        by_cases c : i = k
                        · subst c; exact HT2.out.1 (by simp)
                        · exact HAL.out i (by omega), HB2.out⟩
          case measure => simp [intOf]; omega
      · obtain rfl : k = p.1 := by omega
        go_wp2
        go_ret
        exact boolYes rfl ⟨HL.out, HAL.out⟩ hb
  · have hne : ((p.1 : Int) != s 4) = true := by simpa using hl
    have HN : Hid (¬ (p.1 : Int) = s 4) := hl
    clear hl
    go_wp2
    go_ret
    exact boolNo rfl (fun h => HN.out h.1) HT0.out.bel
theorem overfull_any (wp : Bool) (n : Nat) (hn : n ≤ 9223372036854775807) (ao : Option Addr) (cap : Nat) (w : World) :
    Calls Try.prog 31 #[.agg #[.bool wp, .slice ao n cap]] w (BoolP (200 < n) w) := by
  obtain ⟨P, hP⟩ : ∃ P : Prop, P = (200 < n) := ⟨_, rfl⟩
  have HB : Hid (Below w.heap.size w (w.alloc (.cells #[.bool wp, .slice ao n cap] 57))) := (Below.refl _ _).alloc (Nat.le_refl _) _
  have HP : Hid (P = (200 < n)) := hP
  rw [← hP]
  clear hP
  by_cases h : 200 < n
  · have h1 : decide (200 < (n : Int)) = true := by simp; omega
    go_enter Try.func31, Try.ntmps31
    go_wp2
    go_ret
    exact boolYes (by simp [h1]) (by rw [HP.out]; exact h) HB.out
  · have h1 : decide (200 < (n : Int)) = false := by simp; omega
    go_enter Try.func31, Try.ntmps31
    go_wp2
    go_ret
    exact boolNo (by simp [h1]) (by rw [HP.out]; exact h) HB.out
theorem wipedRecs_any (wp : Bool) (n : Nat) (hn : n ≤ 9223372036854775807) (ao : Option Addr) (cap : Nat) (w : World) :
    Calls Try.prog 33 #[.agg #[.bool wp, .slice ao n cap]] w (BoolP (wp = true ∧ 0 < n) w) := by
  obtain ⟨P, hP⟩ : ∃ P : Prop, P = (wp = true ∧ 0 < n) := ⟨_, rfl⟩
  have HB : Hid (Below w.heap.size w (w.alloc (.cells #[.bool wp, .slice ao n cap] 57))) := (Below.refl _ _).alloc (Nat.le_refl _) _
  have HP : Hid (P = (wp = true ∧ 0 < n)) := hP
  rw [← hP]
  clear hP
  cases wp with
  | false =>
    go_enter Try.func33, Try.ntmps33
    go_wp2
    go_ret
    exact boolNo rfl (by rw [HP.out]; simp) HB.out
  | true =>
    by_cases h : 0 < n
    · have h1 : decide (0 < (n : Int)) = true := by simp; omega
      go_enter Try.func33, Try.ntmps33
      go_wp2
      go_ret
      exact boolYes (by simp [h]) (by rw [HP.out]; exact ⟨by simp, h⟩) HB.out
    · have h1 : decide (0 < (n : Int)) = false := by simp; omega
      go_enter Try.func33, Try.ntmps33
      go_wp2
      go_ret
      exact boolNo (by simp [h]) (by rw [HP.out]; exact fun x => h x.2) HB.out
end Go.Proofs.Ytgpglgchbimmaaa

namespace Go.Proofs.Ytgpglgchbimmaaa
open Go.RowKit F256
set_option linter.unusedVariables false
set_option linter.unusedSimpArgs false
def Any_overfull (p : Nat × (Nat → TapeD)) : Prop := ∃ t, t < p.1 ∧ 200 < (p.2 t).recs.1
def Any_wipedWithRecs (p : Nat × (Nat → TapeD)) : Prop := ∃ t, t < p.1 ∧ ((p.2 t).wiped = true ∧ 0 < (p.2 t).recs.1)
set_option maxHeartbeats 4000000 in
theorem index_overfull (p : Nat × (Nat → TapeD)) (t : TypeId) (v : Value) (hi : Nat) (w : World) (h : (layTape.slice t).rd w hi p [v]) (hhi : hi ≤ w.heap.size) :
    Calls Try.prog 65 #[v, .func (.func 31) #[] #[]] w fun e w' => ∃ z : Int, e = .returned (.int .i64 z) ∧ (0 ≤ z ↔ Any_overfull p) ∧ Below w.heap.size w w' := by
  obtain ⟨ao, cap, e, hm, hc⟩ := h
  cases e
  unfold maxLen at hm
  have HC : Hid (p.1 ≠ 0 → ∃ b off, ao = some ⟨b, off, none⟩ ∧ b < hi ∧ ∀ i, i < p.1 → ∃ ce, layTape.rd w hi (p.2 i) ce ∧ ∀ j, j < layTape.sz → w.cell? ⟨b, off + (i * layTape.sz + j), none⟩ = ce[j]?) := hc
  clear hc
  go_enter Try.func65, Try.ntmps65
  go_wp2
  go_loopw [8] (fun i wr => ∃ k : Nat, k ≤ p.1 ∧ i = .int .i64 k ∧ (∀ i, i < k → ¬ (200 < (p.2 i).recs.1)) ∧ Below w.heap.size w wr) (fun i _ => p.1 - (intOf i).toNat)
  case atStart => exact ⟨0, Nat.zero_le _, rfl, fun i hi => by omega, Below.refl _ _⟩
  case round =>
    obtain ⟨k, hk, rfl, hal, hb⟩ := hrel
    have HAL : Hid (∀ i, i < k → ¬ (200 < (p.2 i).recs.1)) := hal
    have HB : Hid (Below w.heap.size w wr) := hb
    clear hal
    by_cases hlt : k < p.1
    · obtain ⟨b, off, he, hbl, hel⟩ := HC.out (by omega)
      subst he
      obtain ⟨ck, hrk, hcell⟩ := elem_rd (t := 0) hel hb hhi hbl hlt
      obtain ⟨ao1, cap1, rfl, g1⟩ := Tape_rd hrk
      have hm1 : (p.2 k).recs.1 ≤ maxLen := by
        obtain ⟨_, _, _, h, _⟩ := g1
        exact h
      unfold maxLen at hm1
      have c0 : wr.cell? ⟨b, off + k * 2, none⟩ = some (.bool (p.2 k).wiped) := hcell 0 (by decide)
      have c1 : wr.cell? ⟨b, off + k * 2 + 1, none⟩ = some (.slice ao1 (p.2 k).recs.1 cap1) := hcell 1 (by decide)
      have C := fun w' => overfull_any (p.2 k).wiped (p.2 k).recs.1 (by omega) ao1 cap1 w'
      clear hel hcell hrk hb g1
      go_wp2_with fail
      refine (C _).mono ?_
      rintro e w2 ⟨t2, rfl, ht2, b2⟩
      have HB2 : Hid (Below w.heap.size w w2) := HB.out.trans (b2.mono HB.out.size)
      have HT2 : Hid (t2 = true ↔ (200 < (p.2 k).recs.1)) := ht2
      clear C b2 ht2
      cases t2 with
      | true =>
        have HP : Hid (0 ≤ (k : Int) ↔ Any_overfull p) := ⟨fun _ => ⟨k, hlt, HT2.out.1 rfl⟩, fun _ => by omega⟩
        go_wp2
        go_ret
        exact ⟨_, rfl, HP.out, HB2.out⟩
      | false =>
        go_wp2
        go_roundw
        case rel => exact ⟨k + 1, by omega, by go_num, fun i hi => by
                      by_cases c : i = k
                      · subst c; exact fun h => by have := HT2.out.2 h; simp at this
                      · exact HAL.out i (by omega), HB2.out⟩
        case measure => simp [intOf]; omega
    · obtain rfl : k = p.1 := by omega
      have HP : Hid (0 ≤ (-1 : Int) ↔ Any_overfull p) := ⟨fun h => by omega, fun ⟨t, ht, he⟩ => absurd he (HAL.out t ht)⟩
      go_wp2
      go_ret
      exact ⟨-1, rfl, HP.out, hb⟩
theorem contains_overfull (p : Nat × (Nat → TapeD)) (t : TypeId) (v : Value) (hi : Nat) (w : World) (h : (layTape.slice t).rd w hi p [v]) (hhi : hi ≤ w.heap.size) :
    Calls Try.prog 30 #[v, .func (.func 31) #[] #[]] w (BoolP (Any_overfull p) w) := by
  have C := index_overfull p t v hi w h hhi
  obtain ⟨ao, cap, e, hm, hc⟩ := h
  cases e
  clear hc hm
  go_enter Try.func30, Try.ntmps30
  go_wp2_with fail
  refine C.mono ?_
  rintro e w1 ⟨z, rfl, hz, b1⟩
  have HZ : Hid (0 ≤ z ↔ Any_overfull p) := hz
  have HB : Hid (Below w.heap.size w w1) := b1
  clear hz C b1
  by_cases h0 : 0 ≤ z
  · have HP : Hid (Any_overfull p) := HZ.out.mp h0
    go_wp2
    go_ret
    exact boolYes rfl HP.out HB.out
  · have HP : Hid (¬ Any_overfull p) := fun h => h0 (HZ.out.mpr h)
    have td : decide (0 ≤ z) = false := by simp; omega
    clear h0
    go_wp2
    go_ret
    exact boolNo rfl HP.out HB.out
set_option maxHeartbeats 4000000 in
theorem index_wipedWithRecs (p : Nat × (Nat → TapeD)) (t : TypeId) (v : Value) (hi : Nat) (w : World) (h : (layTape.slice t).rd w hi p [v]) (hhi : hi ≤ w.heap.size) :
    Calls Try.prog 65 #[v, .func (.func 33) #[] #[]] w fun e w' => ∃ z : Int, e = .returned (.int .i64 z) ∧ (0 ≤ z ↔ Any_wipedWithRecs p) ∧ Below w.heap.size w w' := by
  obtain ⟨ao, cap, e, hm, hc⟩ := h
  cases e
  unfold maxLen at hm
  have HC : Hid (p.1 ≠ 0 → ∃ b off, ao = some ⟨b, off, none⟩ ∧ b < hi ∧ ∀ i, i < p.1 → ∃ ce, layTape.rd w hi (p.2 i) ce ∧ ∀ j, j < layTape.sz → w.cell? ⟨b, off + (i * layTape.sz + j), none⟩ = ce[j]?) := hc
  clear hc
  go_enter Try.func65, Try.ntmps65
  go_wp2
  go_loopw [8] (fun i wr => ∃ k : Nat, k ≤ p.1 ∧ i = .int .i64 k ∧ (∀ i, i < k → ¬ ((p.2 i).wiped = true ∧ 0 < (p.2 i).recs.1)) ∧ Below w.heap.size w wr) (fun i _ => p.1 - (intOf i).toNat)
  case atStart => exact ⟨0, Nat.zero_le _, rfl, fun i hi => by omega, Below.refl _ _⟩
  case round =>
    obtain ⟨k, hk, rfl, hal, hb⟩ := hrel
    have HAL : Hid (∀ i, i < k → ¬ ((p.2 i).wiped = true ∧ 0 < (p.2 i).recs.1)) := hal
    have HB : Hid (Below w.heap.size w wr) := hb
    clear hal
    by_cases hlt : k < p.1
    · obtain ⟨b, off, he, hbl, hel⟩ := HC.out (by omega)
      subst he
      obtain ⟨ck, hrk, hcell⟩ := elem_rd (t := 0) hel hb hhi hbl hlt
      obtain ⟨ao1, cap1, rfl, g1⟩ := Tape_rd hrk
      have hm1 : (p.2 k).recs.1 ≤ maxLen := by
        obtain ⟨_, _, _, h, _⟩ := g1
        exact h
      unfold maxLen at hm1
      have c0 : wr.cell? ⟨b, off + k * 2, none⟩ = some (.bool (p.2 k).wiped) := hcell 0 (by decide)
      have c1 : wr.cell? ⟨b, off + k * 2 + 1, none⟩ = some (.slice ao1 (p.2 k).recs.1 cap1) := hcell 1 (by decide)
      have C := fun w' => wipedRecs_any (p.2 k).wiped (p.2 k).recs.1 (by omega) ao1 cap1 w'
      clear hel hcell hrk hb g1
      go_wp2_with fail
      refine (C _).mono ?_
      rintro e w2 ⟨t2, rfl, ht2, b2⟩
      have HB2 : Hid (Below w.heap.size w w2) := HB.out.trans (b2.mono HB.out.size)
      have HT2 : Hid (t2 = true ↔ ((p.2 k).wiped = true ∧ 0 < (p.2 k).recs.1)) := ht2
      clear C b2 ht2
      cases t2 with
      | true =>
        have HP : Hid (0 ≤ (k : Int) ↔ Any_wipedWithRecs p) := ⟨fun _ => ⟨k, hlt, HT2.out.1 rfl⟩, fun _ => by omega⟩
        go_wp2
        go_ret
        exact ⟨_, rfl, HP.out, HB2.out⟩
      | false =>
        go_wp2
        go_roundw
        case rel => exact ⟨k + 1, by omega, by go_num, fun i hi => by
                      by_cases c : i = k
                      · subst c; exact fun h => by have := HT2.out.2 h; simp at this
                      · exact HAL.out i (by omega), HB2.out⟩
        case measure => simp [intOf]; omega
    · obtain rfl : k = p.1 := by omega
      have HP : Hid (0 ≤ (-1 : Int) ↔ Any_wipedWithRecs p) := ⟨fun h => by omega, fun ⟨t, ht, he⟩ => absurd he (HAL.out t ht)⟩
      go_wp2
      go_ret
      exact ⟨-1, rfl, HP.out, hb⟩
theorem contains_wipedWithRecs (p : Nat × (Nat → TapeD)) (t : TypeId) (v : Value) (hi : Nat) (w : World) (h : (layTape.slice t).rd w hi p [v]) (hhi : hi ≤ w.heap.size) :
    Calls Try.prog 30 #[v, .func (.func 33) #[] #[]] w (BoolP (Any_wipedWithRecs p) w) := by
  have C := index_wipedWithRecs p t v hi w h hhi
  obtain ⟨ao, cap, e, hm, hc⟩ := h
  cases e
  clear hc hm
  go_enter Try.func30, Try.ntmps30
  go_wp2_with fail
  refine C.mono ?_
  rintro e w1 ⟨z, rfl, hz, b1⟩
  have HZ : Hid (0 ≤ z ↔ Any_wipedWithRecs p) := hz
  have HB : Hid (Below w.heap.size w w1) := b1
  clear hz C b1
  by_cases h0 : 0 ≤ z
  · have HP : Hid (Any_wipedWithRecs p) := HZ.out.mp h0
    go_wp2
    go_ret
    exact boolYes rfl HP.out HB.out
  · have HP : Hid (¬ Any_wipedWithRecs p) := fun h => h0 (HZ.out.mpr h)
    have td : decide (0 ≤ z) = false := by simp; omega
    clear h0
    go_wp2
    go_ret
    exact boolNo rfl HP.out HB.out

def GroupsP (s : Nat → Int) (p : Nat × (Nat → Nat × (Nat → DriveD))) : Prop := (p.1 : Int) = s 0 + s 1 ∧ ∀ i, i < p.1 → DrivesP s (p.2 i)
set_option maxHeartbeats 8000000 in
theorem groupsFit_any (s : Nat → Int) (hs : OkShape s) (p : Nat × (Nat → Nat × (Nat → DriveD))) (v : Value) (hi : Nat) (w : World) (h : ((layDrive.slice 86).slice 83).rd w hi p [v]) (hhi : hi ≤ w.heap.size) :
    Calls Try.prog 28 #[shapeV s, v] w (BoolP (GroupsP s p) w) := by
  obtain ⟨ao, cap, e, hm, hc⟩ := h
  cases e
  unfold maxLen at hm
  have HC : Hid (p.1 ≠ 0 → ∃ b off, ao = some ⟨b, off, none⟩ ∧ b < hi ∧ ∀ i, i < p.1 → ∃ ce, (layDrive.slice 86).rd w hi (p.2 i) ce ∧ ∀ j, j < (layDrive.slice 86).sz → w.cell? ⟨b, off + (i * (layDrive.slice 86).sz + j), none⟩ = ce[j]?) := hc
  have T0 := one_new w #[.int .i64 (s 0), .int .i64 (s 1), .int .i64 (s 2), .int .i64 (s 3), .int .i64 (s 4), .int .i64 (s 5), .int .i64 (s 6), .int .i64 (s 7), .int .i64 (s 8)] 31
  have CG := fun w' => groupCount_any s hs w'
  have CD := fun w' => driveCount_any s hs w'
  have HS : Hid (OkShape s) := hs
  clear hc hs
  unfold shapeV at CG CD ⊢
  go_enter Try.func28, Try.ntmps28
  go_wp2_with fail
  refine (CG _).mono ?_
  rintro e w1 ⟨rfl, b1⟩
  have HT1 : Hid (One w w1 #[.int .i64 (s 0), .int .i64 (s 1), .int .i64 (s 2), .int .i64 (s 3), .int .i64 (s 4), .int .i64 (s 5), .int .i64 (s 6), .int .i64 (s 7), .int .i64 (s 8)] 31) := T0.call b1
  clear b1 T0 CG
  by_cases hl : (p.1 : Int) = s 0 + s 1
  · have hne : ((p.1 : Int) != s 0 + s 1) = false := by simpa using hl
    have HL : Hid ((p.1 : Int) = s 0 + s 1) := hl
    clear hl
    go_wp2
    go_loopw [16] (fun i wr => ∃ k : Nat, k ≤ p.1 ∧ i = .int .i64 k ∧ (∀ i, i < k → DrivesP s (p.2 i)) ∧ One w wr #[.int .i64 (s 0), .int .i64 (s 1), .int .i64 (s 2), .int .i64 (s 3), .int .i64 (s 4), .int .i64 (s 5), .int .i64 (s 6), .int .i64 (s 7), .int .i64 (s 8)] 31) (fun i _ => p.1 - (intOf i).toNat)
    case atStart => exact ⟨0, Nat.zero_le _, rfl, fun i hi => by omega, HT1.out⟩
    case round =>
      clear HT1
      obtain ⟨k, hk, rfl, hal, T2⟩ := hrel
      obtain ⟨wo, rfl⟩ : ∃ x, x = wr := ⟨_, rfl⟩
      have HAL : Hid (∀ i, i < k → DrivesP s (p.2 i)) := hal
      have HT2 : Hid (One w wo #[.int .i64 (s 0), .int .i64 (s 1), .int .i64 (s 2), .int .i64 (s 3), .int .i64 (s 4), .int .i64 (s 5), .int .i64 (s 6), .int .i64 (s 7), .int .i64 (s 8)] 31) := T2
      clear hal
      have x2_0 : wo.cell? ⟨w.heap.size, 0, none⟩ = some (.int .i64 (s 0)) := T2.b1.cell 0
      have x2_1 : wo.cell? ⟨w.heap.size, 1, none⟩ = some (.int .i64 (s 1)) := T2.b1.cell 1
      have x2_2 : wo.cell? ⟨w.heap.size, 2, none⟩ = some (.int .i64 (s 2)) := T2.b1.cell 2
      have x2_3 : wo.cell? ⟨w.heap.size, 3, none⟩ = some (.int .i64 (s 3)) := T2.b1.cell 3
      have x2_4 : wo.cell? ⟨w.heap.size, 4, none⟩ = some (.int .i64 (s 4)) := T2.b1.cell 4
      have x2_5 : wo.cell? ⟨w.heap.size, 5, none⟩ = some (.int .i64 (s 5)) := T2.b1.cell 5
      have x2_6 : wo.cell? ⟨w.heap.size, 6, none⟩ = some (.int .i64 (s 6)) := T2.b1.cell 6
      have x2_7 : wo.cell? ⟨w.heap.size, 7, none⟩ = some (.int .i64 (s 7)) := T2.b1.cell 7
      have x2_8 : wo.cell? ⟨w.heap.size, 8, none⟩ = some (.int .i64 (s 8)) := T2.b1.cell 8
      by_cases hlt : k < p.1
      · obtain ⟨b, off, he, hbl, hel⟩ := HC.out (by omega)
        subst he
        obtain ⟨ck, hrk, hcell⟩ := elem_rd (t := 0) hel T2.bel hhi hbl hlt
        obtain ⟨ao9, cap9, rfl⟩ := sl_form hrk
        have c0 : wo.cell? ⟨b, off + k, none⟩ = some (.slice ao9 (p.2 k).1 cap9) := by
          have h := hcell 0 (show 0 < 1 by decide)
          rw [show (layDrive.slice 86).sz = 1 from rfl, Nat.mul_one, Nat.add_zero] at h
          exact h
        obtain ⟨_, _, e9, hm9, hc9⟩ := hrk
        cases e9
        have HC9 : Hid ((p.2 k).1 ≠ 0 → ∃ b off, ao9 = some ⟨b, off, none⟩ ∧ b < hi ∧ ∀ i, i < (p.2 k).1 → ∃ ce, layDrive.rd wo hi ((p.2 k).2 i) ce ∧ ∀ j, j < layDrive.sz → wo.cell? ⟨b, off + (i * layDrive.sz + j), none⟩ = ce[j]?) := hc9
        unfold maxLen at hm9
        have zw : w.heap.size < wo.heap.size := T2.b1.lt
        clear hcell hc9 hel T2
        go_wp2_with fail
        refine (CD _).mono ?_
        rintro e w3 ⟨rfl, b3⟩
        have HT3 : Hid (One w w3 #[.int .i64 (s 0), .int .i64 (s 1), .int .i64 (s 2), .int .i64 (s 3), .int .i64 (s 4), .int .i64 (s 5), .int .i64 (s 6), .int .i64 (s 7), .int .i64 (s 8)] 31) := HT2.out.call b3
        have HB3 : Hid (Below wo.heap.size wo w3) := b3
        clear b3 c0 x2_0 x2_1 x2_2 x2_3 x2_4 x2_5 x2_6 x2_7 x2_8
        by_cases hl2 : ((p.2 k).1 : Int) = s 2 + s 3
        · have hne2 : (((p.2 k).1 : Int) != s 2 + s 3) = false := by simpa using hl2
          have HL2 : Hid (((p.2 k).1 : Int) = s 2 + s 3) := hl2
          clear hl2
          go_wp2
          go_loopw [27] (fun i wx => ∃ q : Nat, q ≤ (p.2 k).1 ∧ i = .int .i64 q ∧ (∀ i, i < q → BlocksP s ((p.2 k).2 i).blocks) ∧ One w wx #[.int .i64 (s 0), .int .i64 (s 1), .int .i64 (s 2), .int .i64 (s 3), .int .i64 (s 4), .int .i64 (s 5), .int .i64 (s 6), .int .i64 (s 7), .int .i64 (s 8)] 31 ∧ Below wo.heap.size wo wx) (fun i _ => (p.2 k).1 - (intOf i).toNat)
          case atStart => exact ⟨0, Nat.zero_le _, rfl, fun i hi => by omega, HT3.out, HB3.out⟩
          case round =>
            clear HT3 HB3
            obtain ⟨q, hq, rfl, hal2, T4, hb4⟩ := hrel
            obtain ⟨wx, rfl⟩ : ∃ x, x = wr := ⟨_, rfl⟩
            have HAL2 : Hid (∀ i, i < q → BlocksP s ((p.2 k).2 i).blocks) := hal2
            have HT4 : Hid (One w wx #[.int .i64 (s 0), .int .i64 (s 1), .int .i64 (s 2), .int .i64 (s 3), .int .i64 (s 4), .int .i64 (s 5), .int .i64 (s 6), .int .i64 (s 7), .int .i64 (s 8)] 31) := T4
            have HB4 : Hid (Below wo.heap.size wo wx) := hb4
            clear hal2
            by_cases hlq : q < (p.2 k).1
            · obtain ⟨b9, off9, he9, hb9, hel9⟩ := HC9.out (by omega)
              subst he9
              obtain ⟨cq, hrq, hcq⟩ := elem_rd (t := 0) hel9 hb4 (by omega) hb9 hlq
              obtain ⟨ao5, cap5, rfl, g5⟩ := Drive_rd hrq
              have c4 : wx.cell? ⟨b9, off9 + q * 2, none⟩ = some (.bool ((p.2 k).2 q).wiped) := hcq 0 (by decide)
              have c5 : wx.cell? ⟨b9, off9 + q * 2 + 1, none⟩ = some (.slice ao5 ((p.2 k).2 q).blocks.1 cap5) := hcq 1 (by decide)
              have HG5 : Hid ((layBlock.slice 88).rd wx hi ((p.2 k).2 q).blocks [.slice ao5 ((p.2 k).2 q).blocks.1 cap5]) := g5
              have zx : w.heap.size < wx.heap.size := T4.b1.lt
              clear hel9 hcq hrq T4 hb4 g5
              go_upto_region 11 with fail
              have bA : Below wx.heap.size wx (wx.alloc (.cells #[.bool ((p.2 k).2 q).wiped, .slice ao5 ((p.2 k).2 q).blocks.1 cap5] 86)) := (Below.refl _ _).alloc (Nat.le_refl _) _
              have T5 : One w (wx.alloc (.cells #[.bool ((p.2 k).2 q).wiped, .slice ao5 ((p.2 k).2 q).blocks.1 cap5] 86)) #[.int .i64 (s 0), .int .i64 (s 1), .int .i64 (s 2), .int .i64 (s 3), .int .i64 (s 4), .int .i64 (s 5), .int .i64 (s 6), .int .i64 (s 7), .int .i64 (s 8)] 31 := HT4.out.call bA
              have X5 : Box (wx.alloc (.cells #[.bool ((p.2 k).2 q).wiped, .slice ao5 ((p.2 k).2 q).blocks.1 cap5] 86)) wx.heap.size #[.bool ((p.2 k).2 q).wiped, .slice ao5 ((p.2 k).2 q).blocks.1 cap5] 86 := box_new _ _ _
              obtain ⟨W5, hW5⟩ : ∃ x, x = wx.alloc (.cells #[.bool ((p.2 k).2 q).wiped, .slice ao5 ((p.2 k).2 q).blocks.1 cap5] 86) := ⟨_, rfl⟩
              rw [← hW5] at T5 X5 bA ⊢
              have y5_1 : W5.cell? ⟨wx.heap.size, 1, none⟩ = some (.slice ao5 ((p.2 k).2 q).blocks.1 cap5) := X5.cell 1
              have HT5 : Hid (One w W5 #[.int .i64 (s 0), .int .i64 (s 1), .int .i64 (s 2), .int .i64 (s 3), .int .i64 (s 4), .int .i64 (s 5), .int .i64 (s 6), .int .i64 (s 7), .int .i64 (s 8)] 31) := T5
              have HB5 : Hid (Below wx.heap.size wx W5) := bA
              have x5_0 : W5.cell? ⟨w.heap.size, 0, none⟩ = some (.int .i64 (s 0)) := T5.b1.cell 0
              have x5_1 : W5.cell? ⟨w.heap.size, 1, none⟩ = some (.int .i64 (s 1)) := T5.b1.cell 1
              have x5_2 : W5.cell? ⟨w.heap.size, 2, none⟩ = some (.int .i64 (s 2)) := T5.b1.cell 2
              have x5_3 : W5.cell? ⟨w.heap.size, 3, none⟩ = some (.int .i64 (s 3)) := T5.b1.cell 3
              have x5_4 : W5.cell? ⟨w.heap.size, 4, none⟩ = some (.int .i64 (s 4)) := T5.b1.cell 4
              have x5_5 : W5.cell? ⟨w.heap.size, 5, none⟩ = some (.int .i64 (s 5)) := T5.b1.cell 5
              have x5_6 : W5.cell? ⟨w.heap.size, 6, none⟩ = some (.int .i64 (s 6)) := T5.b1.cell 6
              have x5_7 : W5.cell? ⟨w.heap.size, 7, none⟩ = some (.int .i64 (s 7)) := T5.b1.cell 7
              have x5_8 : W5.cell? ⟨w.heap.size, 8, none⟩ = some (.int .i64 (s 8)) := T5.b1.cell 8
              obtain ⟨t6, h6⟩ := exB (BlocksP s ((p.2 k).2 q).blocks)
              have CB := det_b (blocksFit_any s HS.out ((p.2 k).2 q).blocks _ _ hi W5 ((layBlock.slice 88).rd_below HG5.out bA (by omega)) (by have := bA.size; omega)) h6
              unfold shapeV at CB
              have H6 : Hid (t6 = true ↔ BlocksP s ((p.2 k).2 q).blocks) := h6
              clear T5 X5 bA hW5 h6 c4 c5
              go_wp2_with fail
              refine CB.mono ?_
              rintro e w6 ⟨rfl, b6⟩
              have HT6 : Hid (One w w6 #[.int .i64 (s 0), .int .i64 (s 1), .int .i64 (s 2), .int .i64 (s 3), .int .i64 (s 4), .int .i64 (s 5), .int .i64 (s 6), .int .i64 (s 7), .int .i64 (s 8)] 31) := HT5.out.call b6
              have HB6 : Hid (Below wo.heap.size wo w6) := HB4.out.trans ((HB5.out.trans (b6.mono HB5.out.size)).mono HB4.out.size)
              clear b6 CB x5_0 x5_1 x5_2 x5_3 x5_4 x5_5 x5_6 x5_7 x5_8 y5_1
              cases t6 with
              | false =>
                go_wp2
                go_ret
                exact boolNo rfl (fun h => by have := H6.out.2 ((h.2 k hlt).2 q hlq); simp at this) HT6.out.bel
              | true =>
                go_wp2
                go_roundw
                case rel => exact ⟨q + 1, by omega, by go_num, fun i hi => by
                              by_cases c : i = q
                              · subst c; exact H6.out.1 (by simp)
                              · exact HAL2.out i (by omega), HT6.out, HB6.out⟩
                case measure => simp [intOf]; omega
            · obtain rfl : q = (p.2 k).1 := by omega
              clear T4 hb4
              go_wp2
              go_roundw
              case rel => exact ⟨k + 1, by omega, by go_num, fun i hi => by
                            by_cases c : i = k
                            · subst c
                              exact ⟨HL2.out, HAL2.out⟩
                            · exact HAL.out i (by omega), HT4.out⟩
              case measure => simp [intOf]; omega
        · have hne2 : (((p.2 k).1 : Int) != s 2 + s 3) = true := by simpa using hl2
          have HN2 : Hid (¬ ((p.2 k).1 : Int) = s 2 + s 3) := hl2
          clear hl2
          go_wp2
          go_ret
          exact boolNo rfl (fun h => HN2.out (h.2 k hlt).1) HT3.out.bel
      · obtain rfl : k = p.1 := by omega
        go_wp2
        go_ret
        exact boolYes rfl ⟨HL.out, HAL.out⟩ HT2.out.bel
  · have hne : ((p.1 : Int) != s 0 + s 1) = true := by simpa using hl
    have HN : Hid (¬ (p.1 : Int) = s 0 + s 1) := hl
    clear hl
    go_wp2
    go_ret
    exact boolNo rfl (fun h => HN.out h.1) HT1.out.bel
end Go.Proofs.Ytgpglgchbimmaaa

namespace Go.Proofs.Ytgpglgchbimmaaa
open Go.RowKit F256
set_option linter.unusedVariables false
set_option linter.unusedSimpArgs false

set_option maxHeartbeats 8000000 in
theorem itemIn_any (s : Nat → Int) (hs : OkShape s) (r : RecD) (cs : List Value) (hi : Nat) (w : World) (h : layRec.rd w hi r cs) (hhi : hi ≤ w.heap.size) :
    Calls Try.prog 72 #[shapeV s, .agg cs.toArray] w (BoolP (ItemP s r) w) := by
  obtain ⟨ao6, cap6, ao7, cap7, ao8, cap8, rfl, g6, g7, g8, -, -, -, hl, -⟩ := Rec_rd h
  clear h
  have hb := okB hs
  obtain ⟨v6, e6, ⟨h6, hcp6⟩, _⟩ := g6
  cases e6
  have H6 : Hid (RdI w hi (.slice ao6 r.rows.1 cap6) r.rows.1 r.rows.2) := h6
  have HCP : Hid (CapP (.slice ao6 r.rows.1 cap6) r.rows.1) := hcp6
  have hm6 := h6.mx
  obtain ⟨v7, e7, ⟨_, _, e7', hm7, _⟩, _⟩ := g7
  cases e7
  cases e7'
  unfold maxLen at hm6 hm7
  clear h6 hcp6 g8
  have T0 := two_newb w #[.int .i64 (s 0), .int .i64 (s 1), .int .i64 (s 2), .int .i64 (s 3), .int .i64 (s 4), .int .i64 (s 5), .int .i64 (s 6), .int .i64 (s 7), .int .i64 (s 8)] #[.int .i64 r.kind, .int .i64 r.seq, .string r.name, .int .i64 r.length, .int .i64 r.group, .int .i64 r.row, .slice ao6 r.rows.1 cap6, .slice ao7 r.data.1 cap7, .slice ao8 r.delta.1 cap8] 31 45
  have CP := fun w' => implParts_any s r.length w'
  unfold shapeV intR at CP
  unfold shapeV
  go_enter Try.func72, Try.ntmps72
  by_cases hl1 : r.length = -1
  · have HL : Hid (r.length = -1) := hl1
    have e1 : (r.length == -1) = true := by simp [hl1]
    have HB : Hid (Below w.heap.size w ((w.alloc (.cells #[.int .i64 (s 0), .int .i64 (s 1), .int .i64 (s 2), .int .i64 (s 3), .int .i64 (s 4), .int .i64 (s 5), .int .i64 (s 6), .int .i64 (s 7), .int .i64 (s 8)] 31)).alloc (.cells #[.int .i64 r.kind, .int .i64 r.seq, .string r.name, .int .i64 r.length, .int .i64 r.group, .int .i64 r.row, .slice ao6 r.rows.1 cap6, .slice ao7 r.data.1 cap7, .slice ao8 r.delta.1 cap8] 45))) := T0.bel
    clear T0 CP hl1
    obtain ⟨b0, h0⟩ : ∃ b, ((r.data.1 : Int) == 0) = b := ⟨_, rfl⟩
    obtain ⟨b1, h1⟩ : ∃ b, ((r.rows.1 : Int) == 0) = b := ⟨_, rfl⟩
    have HE : Hid (ItemP s r ↔ (b0 = true ∧ b1 = true)) := by
      show ItemP s r ↔ _
      rw [← h0, ← h1]
      unfold ItemP
      simp [HL.out]
    have hst : b0 = false ∨ (b0 = true ∧ b1 = false) ∨ (b0 = true ∧ b1 = true) := by
      clear HE h0 h1
      cases b0 <;> simp
    rcases hst with rfl | ⟨rfl, rfl⟩ | ⟨rfl, rfl⟩
    all_goals
      go_wp2
      go_ret
      first
        | exact boolNo rfl (fun h => by have := HE.out.1 h; simp at this) HB.out
        | exact boolYes rfl (HE.out.2 (by simp)) HB.out
  · have e1 : (r.length == -1) = false := by simp [hl1]
    have HL : Hid (r.length ≠ -1) := hl1
    clear hl1
    go_wp2_with fail
    refine (CP _).mono ?_
    rintro e w1 ⟨pv, pc, rfl, hp, b1⟩
    have T1 : Two w w1 #[.int .i64 (s 0), .int .i64 (s 1), .int .i64 (s 2), .int .i64 (s 3), .int .i64 (s 4), .int .i64 (s 5), .int .i64 (s 6), .int .i64 (s 7), .int .i64 (s 8)] #[.int .i64 r.kind, .int .i64 r.seq, .string r.name, .int .i64 r.length, .int .i64 r.group, .int .i64 r.row, .slice ao6 r.rows.1 cap6, .slice ao7 r.data.1 cap7, .slice ao8 r.delta.1 cap8] 31 45 := T0.call b1
    clear b1 T0 CP
    have HT1 : Hid (Two w w1 #[.int .i64 (s 0), .int .i64 (s 1), .int .i64 (s 2), .int .i64 (s 3), .int .i64 (s 4), .int .i64 (s 5), .int .i64 (s 6), .int .i64 (s 7), .int .i64 (s 8)] #[.int .i64 r.kind, .int .i64 r.seq, .string r.name, .int .i64 r.length, .int .i64 r.group, .int .i64 r.row, .slice ao6 r.rows.1 cap6, .slice ao7 r.data.1 cap7, .slice ao8 r.delta.1 cap8] 31 45) := T1
    have z1 : w.heap.size + 1 < w1.heap.size := T1.b2.lt
    have x1_0 : w1.cell? ⟨w.heap.size, 0, none⟩ = some (.int .i64 (s 0)) := T1.b1.cell 0
    have x1_1 : w1.cell? ⟨w.heap.size, 1, none⟩ = some (.int .i64 (s 1)) := T1.b1.cell 1
    have x1_2 : w1.cell? ⟨w.heap.size, 2, none⟩ = some (.int .i64 (s 2)) := T1.b1.cell 2
    have x1_3 : w1.cell? ⟨w.heap.size, 3, none⟩ = some (.int .i64 (s 3)) := T1.b1.cell 3
    have x1_4 : w1.cell? ⟨w.heap.size, 4, none⟩ = some (.int .i64 (s 4)) := T1.b1.cell 4
    have x1_5 : w1.cell? ⟨w.heap.size, 5, none⟩ = some (.int .i64 (s 5)) := T1.b1.cell 5
    have x1_6 : w1.cell? ⟨w.heap.size, 6, none⟩ = some (.int .i64 (s 6)) := T1.b1.cell 6
    have x1_7 : w1.cell? ⟨w.heap.size, 7, none⟩ = some (.int .i64 (s 7)) := T1.b1.cell 7
    have x1_8 : w1.cell? ⟨w.heap.size, 8, none⟩ = some (.int .i64 (s 8)) := T1.b1.cell 8
    have y1_0 : w1.cell? ⟨w.heap.size + 1, 0, none⟩ = some (.int .i64 r.kind) := T1.b2.cell 0
    have y1_1 : w1.cell? ⟨w.heap.size + 1, 1, none⟩ = some (.int .i64 r.seq) := T1.b2.cell 1
    have y1_2 : w1.cell? ⟨w.heap.size + 1, 2, none⟩ = some (.string r.name) := T1.b2.cell 2
    have y1_3 : w1.cell? ⟨w.heap.size + 1, 3, none⟩ = some (.int .i64 r.length) := T1.b2.cell 3
    have y1_4 : w1.cell? ⟨w.heap.size + 1, 4, none⟩ = some (.int .i64 r.group) := T1.b2.cell 4
    have y1_5 : w1.cell? ⟨w.heap.size + 1, 5, none⟩ = some (.int .i64 r.row) := T1.b2.cell 5
    have y1_6 : w1.cell? ⟨w.heap.size + 1, 6, none⟩ = some (.slice ao6 r.rows.1 cap6) := T1.b2.cell 6
    have y1_7 : w1.cell? ⟨w.heap.size + 1, 7, none⟩ = some (.slice ao7 r.data.1 cap7) := T1.b2.cell 7
    have y1_8 : w1.cell? ⟨w.heap.size + 1, 8, none⟩ = some (.slice ao8 r.delta.1 cap8) := T1.b2.cell 8
    clear T1
    go_upto_region 4 with fail
    have bA : Below w1.heap.size w1 (w1.alloc (.cells #[.int .i64 pc, .int .i64 pv] 112)) := (Below.refl _ _).alloc (Nat.le_refl _) _
    have T2 : Two w (w1.alloc (.cells #[.int .i64 pc, .int .i64 pv] 112)) #[.int .i64 (s 0), .int .i64 (s 1), .int .i64 (s 2), .int .i64 (s 3), .int .i64 (s 4), .int .i64 (s 5), .int .i64 (s 6), .int .i64 (s 7), .int .i64 (s 8)] #[.int .i64 r.kind, .int .i64 r.seq, .string r.name, .int .i64 r.length, .int .i64 r.group, .int .i64 r.row, .slice ao6 r.rows.1 cap6, .slice ao7 r.data.1 cap7, .slice ao8 r.delta.1 cap8] 31 45 := HT1.out.call bA
    have X2 : Box (w1.alloc (.cells #[.int .i64 pc, .int .i64 pv] 112)) w1.heap.size #[.int .i64 pc, .int .i64 pv] 112 := box_new _ _ _
    obtain ⟨W2, hW2⟩ : ∃ W2, W2 = w1.alloc (.cells #[.int .i64 pc, .int .i64 pv] 112) := ⟨_, rfl⟩
    rw [← hW2] at T2 X2 ⊢
    have HT2 : Hid (Two w W2 #[.int .i64 (s 0), .int .i64 (s 1), .int .i64 (s 2), .int .i64 (s 3), .int .i64 (s 4), .int .i64 (s 5), .int .i64 (s 6), .int .i64 (s 7), .int .i64 (s 8)] #[.int .i64 r.kind, .int .i64 r.seq, .string r.name, .int .i64 r.length, .int .i64 r.group, .int .i64 r.row, .slice ao6 r.rows.1 cap6, .slice ao7 r.data.1 cap7, .slice ao8 r.delta.1 cap8] 31 45) := T2
    have q0 : W2.cell? ⟨w1.heap.size, 0, none⟩ = some (.int .i64 pc) := X2.cell 0
    have q1 : W2.cell? ⟨w1.heap.size, 1, none⟩ = some (.int .i64 pv) := X2.cell 1
    clear bA hW2 x1_0 y1_0 x1_1 y1_1 x1_2 y1_2 x1_3 y1_3 x1_4 y1_4 x1_5 y1_5 x1_6 y1_6 x1_7 y1_7 x1_8 y1_8
    have x2_0 : W2.cell? ⟨w.heap.size, 0, none⟩ = some (.int .i64 (s 0)) := T2.b1.cell 0
    have x2_1 : W2.cell? ⟨w.heap.size, 1, none⟩ = some (.int .i64 (s 1)) := T2.b1.cell 1
    have x2_2 : W2.cell? ⟨w.heap.size, 2, none⟩ = some (.int .i64 (s 2)) := T2.b1.cell 2
    have x2_3 : W2.cell? ⟨w.heap.size, 3, none⟩ = some (.int .i64 (s 3)) := T2.b1.cell 3
    have x2_4 : W2.cell? ⟨w.heap.size, 4, none⟩ = some (.int .i64 (s 4)) := T2.b1.cell 4
    have x2_5 : W2.cell? ⟨w.heap.size, 5, none⟩ = some (.int .i64 (s 5)) := T2.b1.cell 5
    have x2_6 : W2.cell? ⟨w.heap.size, 6, none⟩ = some (.int .i64 (s 6)) := T2.b1.cell 6
    have x2_7 : W2.cell? ⟨w.heap.size, 7, none⟩ = some (.int .i64 (s 7)) := T2.b1.cell 7
    have x2_8 : W2.cell? ⟨w.heap.size, 8, none⟩ = some (.int .i64 (s 8)) := T2.b1.cell 8
    have y2_0 : W2.cell? ⟨w.heap.size + 1, 0, none⟩ = some (.int .i64 r.kind) := T2.b2.cell 0
    have y2_1 : W2.cell? ⟨w.heap.size + 1, 1, none⟩ = some (.int .i64 r.seq) := T2.b2.cell 1
    have y2_2 : W2.cell? ⟨w.heap.size + 1, 2, none⟩ = some (.string r.name) := T2.b2.cell 2
    have y2_3 : W2.cell? ⟨w.heap.size + 1, 3, none⟩ = some (.int .i64 r.length) := T2.b2.cell 3
    have y2_4 : W2.cell? ⟨w.heap.size + 1, 4, none⟩ = some (.int .i64 r.group) := T2.b2.cell 4
    have y2_5 : W2.cell? ⟨w.heap.size + 1, 5, none⟩ = some (.int .i64 r.row) := T2.b2.cell 5
    have y2_6 : W2.cell? ⟨w.heap.size + 1, 6, none⟩ = some (.slice ao6 r.rows.1 cap6) := T2.b2.cell 6
    have y2_7 : W2.cell? ⟨w.heap.size + 1, 7, none⟩ = some (.slice ao7 r.data.1 cap7) := T2.b2.cell 7
    have y2_8 : W2.cell? ⟨w.heap.size + 1, 8, none⟩ = some (.slice ao8 r.delta.1 cap8) := T2.b2.cell 8
    clear T2 X2
    by_cases hok : 1 ≤ r.length ∧ r.length ≤ 3 * (s 2 * 4)
    · have hpp : pc = 0 ∧ pv = (r.length + s 2 * 4 - 1) / (s 2 * 4) := by
        rcases hp with ⟨h1, _⟩ | ⟨_, h1, _⟩ | ⟨_, h1, h2, _⟩ | ⟨_, _, _, h1, h2⟩
        · exact absurd hs h1
        · omega
        · omega
        · exact ⟨h1, h2⟩
      obtain ⟨rfl, hpv⟩ := hpp
      have HPV : Hid (pv = (r.length + s 2 * 4 - 1) / (s 2 * 4)) := hpv
      have HOK : Hid (1 ≤ r.length ∧ r.length ≤ 3 * (s 2 * 4)) := hok
      clear hp hpv hs
      by_cases hd : 0 < r.data.1
      · have d1 : decide (0 < (r.data.1 : Int)) = true := by simp; omega
        obtain ⟨b0, h0⟩ : ∃ b, ((r.data.1 : Int) == r.length) = b := ⟨_, rfl⟩
        obtain ⟨b1, h1⟩ : ∃ b, ((r.rows.1 : Int) == 0) = b := ⟨_, rfl⟩
        have HE : Hid (ItemP s r ↔ (b0 = true ∧ b1 = true)) := by
          show ItemP s r ↔ _
          rw [← h0, ← h1]
          unfold ItemP
          have := HL.out
          have := HOK.out
          constructor
          · rintro (h | ⟨_, _, _, h | h⟩)
            · omega
            · simp; omega
            · omega
          · intro h
            simp at h
            exact .inr ⟨by omega, by omega, by omega, .inl ⟨hd, h.1, h.2⟩⟩
        have hst : b0 = false ∨ (b0 = true ∧ b1 = false) ∨ (b0 = true ∧ b1 = true) := by
          clear HE h0 h1
          cases b0 <;> simp
        clear hok
        rcases hst with rfl | ⟨rfl, rfl⟩ | ⟨rfl, rfl⟩
        all_goals
          go_wp2
          go_ret
          first
            | exact boolNo rfl (fun h => by have := HE.out.1 h; simp at this) HT2.out.bel
            | exact boolYes rfl (HE.out.2 (by simp)) HT2.out.bel
      · have d1 : decide (0 < (r.data.1 : Int)) = false := by simp; omega
        have hd0 : r.data.1 = 0 := by omega
        obtain ⟨t2, h2⟩ := exB (ApartP r.rows.1 r.rows.2 (s 4 - 1))
        have cQ := det_b (differWithin_any _ r.rows.1 r.rows.2 hi (s 4) (by omega) (by omega) W2 (H6.out.below HT2.out.bel hhi) HCP.out (Nat.le_trans hhi HT2.out.bel.size)) h2
        obtain ⟨b0, h0⟩ : ∃ b, ((r.rows.1 : Int) == pv) = b := ⟨_, rfl⟩
        have HE : Hid (ItemP s r ↔ (b0 = true ∧ t2 = true)) := by
          show ItemP s r ↔ _
          rw [← h0, h2, HPV.out]
          unfold ItemP
          have := HL.out
          have := HOK.out
          constructor
          · rintro (h | ⟨_, _, _, h | h⟩)
            · omega
            · omega
            · exact ⟨by simpa using h.2.1, h.2.2⟩
          · intro h
            exact .inr ⟨by omega, by omega, by omega, .inr ⟨hd0, by simpa using h.1, h.2⟩⟩
        clear hok h2 hd0
        cases b0 with
        | false =>
          go_wp2
          go_ret
          exact boolNo rfl (fun h => by have := HE.out.1 h; simp at this) HT2.out.bel
        | true =>
          go_wp2_with fail
          refine cQ.mono ?_
          rintro e w3 ⟨rfl, b3⟩
          have HB3 : Hid (Below w.heap.size w w3) := (HT2.out.call b3).bel
          clear b3 cQ
          go_wp2
          go_ret
          cases t2 with
          | true => exact boolYes rfl (HE.out.2 (by simp)) HB3.out
          | false => exact boolNo rfl (fun h => by have := HE.out.1 h; simp at this) HB3.out
    · have hc0 : (pc != 0) = true := by
        have : pc ≠ 0 := by
          rcases hp with ⟨h1, h2, _⟩ | ⟨_, h1, h2, _⟩ | ⟨_, h1, h2, h3, _⟩ | ⟨_, h1, h2, h3, _⟩
          · omega
          · omega
          · omega
          · omega
        simp [this]
      have HNO : Hid (¬ ItemP s r) := fun h => by
        have := HL.out
        unfold ItemP at h
        omega
      clear hp hok
      go_wp2
      go_ret
      exact boolNo rfl HNO.out HT2.out.bel
end Go.Proofs.Ytgpglgchbimmaaa

namespace Go.Proofs.Ytgpglgchbimmaaa
open Go.RowKit F256
set_option linter.unusedVariables false
set_option linter.unusedSimpArgs false

/-- the least number that may come next -/
def leastN (g : Nat → Int) : Nat → Int
  | 0 => 0
  | k + 1 => g k + 1
theorem rise_next {g : Nat → Int} {most : Int} {k : Nat} (h : RiseP k g most) (h1 : leastN g k ≤ g k) (h2 : g k ≤ most) : RiseP (k + 1) g most := fun i hi => by
  by_cases c : i = k
  · subst c
    cases i with
    | zero => exact ⟨h1, h2, fun h0 => by omega⟩
    | succ j =>
      have := (h j (by omega)).1
      simp only [leastN] at h1
      exact ⟨by omega, h2, fun _ => by rw [show j + 1 - 1 = j by omega]; omega⟩
  · exact h i (by omega)
theorem rise_least {g : Nat → Int} {most : Int} {n k : Nat} (h : RiseP n g most) (hk : k < n) : leastN g k ≤ g k := by
  cases k with
  | zero => exact (h 0 hk).1
  | succ j =>
    have := (h (j + 1) hk).2.2 (by omega)
    rw [show j + 1 - 1 = j by omega] at this
    simp only [leastN]
    omega

set_option maxHeartbeats 2000000 in
theorem risesWithin_any (v : Value) (n : Nat) (g : Nat → Int) (hi : Nat) (bound : Int) (hb : bound ≤ 1000000) (w : World) (r : RdI w hi v n g) :
    Calls Try.prog 89 #[v, .int .i64 bound] w (BoolP (RiseP n g (bound - 1)) w) := by
  obtain ⟨ao, cap, rfl, hm, hc⟩ := r
  unfold maxLen at hm
  go_enter Try.func89, Try.ntmps89
  go_wp2
  go_loop [5, 10] (fun l i => ∃ k : Nat, k ≤ n ∧ i = .int .i64 k ∧ l = .int .i64 (leastN g k) ∧ RiseP k g (bound - 1)) (fun _ i => n - (intOf i).toNat)
  case atStart => exact ⟨0, Nat.zero_le _, rfl, rfl, fun i hi => by omega⟩
  case round =>
    obtain ⟨k, hk, rfl, rfl, hall⟩ := hrel
    have HALL : Hid (RiseP k g (bound - 1)) := hall
    clear hall
    by_cases hlt : k < n
    · obtain ⟨b, off, rfl, hblt, hcell⟩ := hc (by omega)
      have hck : w.cell? ⟨b, off + k, none⟩ = some (.int .i64 (g k)) := hcell k hlt
      obtain ⟨x, hx⟩ : ∃ x, x = g k := ⟨_, rfl⟩
      have HX : Hid (x = g k) := hx
      rw [← hx] at hck
      obtain ⟨l, hl⟩ : ∃ l, l = leastN g k := ⟨_, rfl⟩
      have HL : Hid (l = leastN g k) := hl
      rw [← hl]
      have hl0 : 0 ≤ l := by
        rw [hl]
        cases k with
        | zero => exact Int.le_refl _
        | succ j =>
          have := (HALL.out j (by omega)).1
          simp only [leastN]
          omega
      clear hc hcell hx hl
      by_cases h1 : x < l
      · have HNO : Hid (¬ RiseP n g (bound - 1)) := fun h => by
          have := rise_least h hlt
          rw [← HX.out, ← HL.out] at this
          omega
        go_wp2
        go_ret
        exact boolNo rfl HNO.out (Below.refl _ _)
      · have e1 : decide (x < l) = false := by simp; omega
        by_cases h2 : bound ≤ x
        · have HNO : Hid (¬ RiseP n g (bound - 1)) := fun h => by
            have := (h k hlt).2.1
            rw [← HX.out] at this
            omega
          clear h1
          go_wp2
          go_ret
          exact boolNo rfl HNO.out (Below.refl _ _)
        · have e2 : decide (bound ≤ x) = false := by simp; omega
          have HRN : Hid (RiseP (k + 1) g (bound - 1)) := rise_next HALL.out (by rw [← HX.out, ← HL.out]; omega) (by rw [← HX.out]; omega)
          have hxb : x ≤ 1000000 := by omega
          have hx0 : 0 ≤ x := by omega
          have HLN : Hid (x + 1 = leastN g (k + 1)) := by show x + 1 = g k + 1; rw [HX.out]
          have wadd : IntKind.i64.wrap (x + 1) = x + 1 := by rw [IntKind.wrap_i64]; omega
          clear h1 h2
          go_wp2
          go_round
          case rel => exact ⟨k + 1, by omega, by go_num, by rw [← HLN.out], HRN.out⟩
          case measure => simp [intOf]; omega
    · obtain rfl : k = n := by omega
      clear hc
      go_wp2
      go_ret
      exact boolYes rfl HALL.out (Below.refl _ _)

end Go.Proofs.Ytgpglgchbimmaaa

namespace Go.Proofs.Ytgpglgchbimmaaa
open Go.RowKit F256
set_option linter.unusedVariables false
set_option linter.unusedSimpArgs false

set_option maxHeartbeats 8000000 in
theorem shareIn_any (s : Nat → Int) (hs : OkShape s) (r : RecD) (cs : List Value) (hi : Nat) (w : World) (h : layRec.rd w hi r cs) (hhi : hi ≤ w.heap.size) :
    Calls Try.prog 77 #[shapeV s, .agg cs.toArray] w (BoolP (ShareP s r) w) := by
  obtain ⟨ao6, cap6, ao7, cap7, ao8, cap8, rfl, g6, g7, g8, -⟩ := Rec_rd h
  clear h
  have hb := okB hs
  have HS : Hid (OkShape s) := hs
  obtain ⟨v6, e6, ⟨h6, hcp6⟩, _⟩ := g6
  cases e6
  have H6 : Hid (RdI w hi (.slice ao6 r.rows.1 cap6) r.rows.1 r.rows.2) := h6
  have hm6 := h6.mx
  obtain ⟨_, _, e6', _, hc6⟩ := h6
  cases e6'
  obtain ⟨v7, e7, ⟨_, _, e7', hm7, _⟩, _⟩ := g7
  cases e7
  cases e7'
  obtain ⟨v8, e8, ⟨_, _, e8', hm8, hc8⟩, hk8⟩ := g8
  cases e8
  cases e8'
  have HC6 : Hid (r.rows.1 ≠ 0 → ∃ b off, ao6 = some ⟨b, off, none⟩ ∧ b < hi ∧ ∀ i, i < r.rows.1 → w.cell? ⟨b, off + i, none⟩ = some (.int .i64 (r.rows.2 i))) := hc6
  have HC8 : Hid (r.delta.1 ≠ 0 → ∃ b off, ao8 = some ⟨b, off, none⟩ ∧ b < hi ∧ ∀ i, i < r.delta.1 → w.cell? ⟨b, off + i, none⟩ = some (.int .u8 (r.delta.2 i))) := hc8
  unfold maxLen at hm6 hm7 hm8
  clear hcp6 hc6 hc8 hk8
  unfold shapeV
  go_enter Try.func77, Try.ntmps77
  go_wp2_with fail
  have T0 := two_newb w #[.int .i64 (s 0), .int .i64 (s 1), .int .i64 (s 2), .int .i64 (s 3), .int .i64 (s 4), .int .i64 (s 5), .int .i64 (s 6), .int .i64 (s 7), .int .i64 (s 8)] #[.int .i64 r.kind, .int .i64 r.seq, .string r.name, .int .i64 r.length, .int .i64 r.group, .int .i64 r.row, .slice ao6 r.rows.1 cap6, .slice ao7 r.data.1 cap7, .slice ao8 r.delta.1 cap8] 31 45
  obtain ⟨W, hW⟩ : ∃ W, W = (w.alloc (.cells #[.int .i64 (s 0), .int .i64 (s 1), .int .i64 (s 2), .int .i64 (s 3), .int .i64 (s 4), .int .i64 (s 5), .int .i64 (s 6), .int .i64 (s 7), .int .i64 (s 8)] 31)).alloc (.cells #[.int .i64 r.kind, .int .i64 r.seq, .string r.name, .int .i64 r.length, .int .i64 r.group, .int .i64 r.row, .slice ao6 r.rows.1 cap6, .slice ao7 r.data.1 cap7, .slice ao8 r.delta.1 cap8] 45) := ⟨_, rfl⟩
  rw [← hW] at T0 ⊢
  clear hW
  have HT : Hid (Two w W #[.int .i64 (s 0), .int .i64 (s 1), .int .i64 (s 2), .int .i64 (s 3), .int .i64 (s 4), .int .i64 (s 5), .int .i64 (s 6), .int .i64 (s 7), .int .i64 (s 8)] #[.int .i64 r.kind, .int .i64 r.seq, .string r.name, .int .i64 r.length, .int .i64 r.group, .int .i64 r.row, .slice ao6 r.rows.1 cap6, .slice ao7 r.data.1 cap7, .slice ao8 r.delta.1 cap8] 31 45) := T0
  have x0_0 : W.cell? ⟨w.heap.size, 0, none⟩ = some (.int .i64 (s 0)) := T0.b1.cell 0
  have kx0_0 := cell_regrown x0_0
  have x0_1 : W.cell? ⟨w.heap.size, 1, none⟩ = some (.int .i64 (s 1)) := T0.b1.cell 1
  have kx0_1 := cell_regrown x0_1
  have x0_2 : W.cell? ⟨w.heap.size, 2, none⟩ = some (.int .i64 (s 2)) := T0.b1.cell 2
  have kx0_2 := cell_regrown x0_2
  have x0_3 : W.cell? ⟨w.heap.size, 3, none⟩ = some (.int .i64 (s 3)) := T0.b1.cell 3
  have kx0_3 := cell_regrown x0_3
  have x0_4 : W.cell? ⟨w.heap.size, 4, none⟩ = some (.int .i64 (s 4)) := T0.b1.cell 4
  have kx0_4 := cell_regrown x0_4
  have x0_5 : W.cell? ⟨w.heap.size, 5, none⟩ = some (.int .i64 (s 5)) := T0.b1.cell 5
  have kx0_5 := cell_regrown x0_5
  have x0_6 : W.cell? ⟨w.heap.size, 6, none⟩ = some (.int .i64 (s 6)) := T0.b1.cell 6
  have kx0_6 := cell_regrown x0_6
  have x0_7 : W.cell? ⟨w.heap.size, 7, none⟩ = some (.int .i64 (s 7)) := T0.b1.cell 7
  have kx0_7 := cell_regrown x0_7
  have x0_8 : W.cell? ⟨w.heap.size, 8, none⟩ = some (.int .i64 (s 8)) := T0.b1.cell 8
  have kx0_8 := cell_regrown x0_8
  have y0_0 : W.cell? ⟨w.heap.size + 1, 0, none⟩ = some (.int .i64 r.kind) := T0.b2.cell 0
  have ky0_0 := cell_regrown y0_0
  have y0_1 : W.cell? ⟨w.heap.size + 1, 1, none⟩ = some (.int .i64 r.seq) := T0.b2.cell 1
  have ky0_1 := cell_regrown y0_1
  have y0_2 : W.cell? ⟨w.heap.size + 1, 2, none⟩ = some (.string r.name) := T0.b2.cell 2
  have ky0_2 := cell_regrown y0_2
  have y0_3 : W.cell? ⟨w.heap.size + 1, 3, none⟩ = some (.int .i64 r.length) := T0.b2.cell 3
  have ky0_3 := cell_regrown y0_3
  have y0_4 : W.cell? ⟨w.heap.size + 1, 4, none⟩ = some (.int .i64 r.group) := T0.b2.cell 4
  have ky0_4 := cell_regrown y0_4
  have y0_5 : W.cell? ⟨w.heap.size + 1, 5, none⟩ = some (.int .i64 r.row) := T0.b2.cell 5
  have ky0_5 := cell_regrown y0_5
  have y0_6 : W.cell? ⟨w.heap.size + 1, 6, none⟩ = some (.slice ao6 r.rows.1 cap6) := T0.b2.cell 6
  have ky0_6 := cell_regrown y0_6
  have y0_7 : W.cell? ⟨w.heap.size + 1, 7, none⟩ = some (.slice ao7 r.data.1 cap7) := T0.b2.cell 7
  have ky0_7 := cell_regrown y0_7
  have y0_8 : W.cell? ⟨w.heap.size + 1, 8, none⟩ = some (.slice ao8 r.delta.1 cap8) := T0.b2.cell 8
  have ky0_8 := cell_regrown y0_8
  obtain ⟨t1, h1⟩ := exB (InP r.group 0 (s 0 + s 1 - 1))
  obtain ⟨t2, h2⟩ := exB (InP r.row 0 (s 4 - 1))
  obtain ⟨t3, h3⟩ := exB (RiseP r.rows.1 r.rows.2 (s 0 + s 1 - 1))
  have cG := q_below (W := W) (fun w' _ => isGroup_b HS.out h1 w')
  have cR := q_below (W := W) (fun w' _ => isRow_b HS.out h2 w')
  have cA := q_below (W := W) (fun w' _ => groupCount_any s HS.out w')
  have cS := q_below (W := W) (fun w' hw' => det_b (risesWithin_any _ r.rows.1 r.rows.2 hi (s 0 + s 1) (by omega) w' ((H6.out.below T0.bel hhi).below hw' (Nat.le_trans hhi T0.bel.size))) h3)
  unfold shapeV at cG cR cA
  clear T0
  have H1 : Hid (t1 = true ↔ InP r.group 0 (s 0 + s 1 - 1)) := h1
  have H2 : Hid (t2 = true ↔ InP r.row 0 (s 4 - 1)) := h2
  have H3 : Hid (t3 = true ↔ RiseP r.rows.1 r.rows.2 (s 0 + s 1 - 1)) := h3
  have hst : t1 = false ∨ (t1 = true ∧ t2 = false) ∨ (t1 = true ∧ t2 = true ∧ t3 = false) ∨ (t1 = true ∧ t2 = true ∧ t3 = true) := by
    clear H1 H2 H3 h1 h2 h3 cG cR cS
    cases t1 <;> simp
    cases t2 <;> simp
  clear h1 h2 h3
  rcases hst with rfl | ⟨rfl, rfl⟩ | ⟨rfl, rfl, rfl⟩ | ⟨rfl, rfl, rfl⟩
  all_goals
    refine WQ.region (by kernel_rfl) (by kernel_rfl) ?_
    repeat (first | (apply WQ.skip; (case hw => rfl); intro K hK; go_simp; apply hK; clear hK K) | (apply WQ.want; (case hw => rfl); intro K hK; go_simp; first | (apply hK; clear hK K) | (apply Exists.intro; apply And.intro; (case left => intro p; (first | (go_at_call 76; exact cG _ _) | (go_at_call 74; exact cR _ _) | (go_at_call 61; exact cA _ _) | (go_at_call 89; exact cS _ _))); apply hK; clear hK K)))
    refine WQ.nil ?_
    intro w1 hw1
    have T1 := HT.out.call (below_rg hw1)
    have HT1 : Hid (Two w w1 #[.int .i64 (s 0), .int .i64 (s 1), .int .i64 (s 2), .int .i64 (s 3), .int .i64 (s 4), .int .i64 (s 5), .int .i64 (s 6), .int .i64 (s 7), .int .i64 (s 8)] #[.int .i64 r.kind, .int .i64 r.seq, .string r.name, .int .i64 r.length, .int .i64 r.group, .int .i64 r.row, .slice ao6 r.rows.1 cap6, .slice ao7 r.data.1 cap7, .slice ao8 r.delta.1 cap8] 31 45) := T1
    clear hw1 x0_0 kx0_0 y0_0 ky0_0 x0_1 kx0_1 y0_1 ky0_1 x0_2 kx0_2 y0_2 ky0_2 x0_3 kx0_3 y0_3 ky0_3 x0_4 kx0_4 y0_4 ky0_4 x0_5 kx0_5 y0_5 ky0_5 x0_6 kx0_6 y0_6 ky0_6 x0_7 kx0_7 y0_7 ky0_7 x0_8 kx0_8 y0_8 ky0_8 cG cR cA cS
  · clear T1
    go_wp2
    go_ret
    exact boolNo rfl (fun h => by have := H1.out.2 h.1; simp at this) HT1.out.bel
  · clear T1
    go_wp2
    go_ret
    exact boolNo rfl (fun h => by have := H2.out.2 h.2.1; simp at this) HT1.out.bel
  · clear T1
    go_wp2
    go_ret
    exact boolNo rfl (fun h => by have := H3.out.2 h.2.2.1; simp at this) HT1.out.bel
  have HG : Hid (InP r.group 0 (s 0 + s 1 - 1)) := H1.out.1 rfl
  have HR : Hid (RiseP r.rows.1 r.rows.2 (s 0 + s 1 - 1)) := H3.out.1 rfl
  have HW : Hid (InP r.row 0 (s 4 - 1)) := H2.out.1 rfl
  clear H1 H2 H3
  have x1_0 : w1.cell? ⟨w.heap.size, 0, none⟩ = some (.int .i64 (s 0)) := T1.b1.cell 0
  have kx1_0 := cell_regrown x1_0
  have x1_1 : w1.cell? ⟨w.heap.size, 1, none⟩ = some (.int .i64 (s 1)) := T1.b1.cell 1
  have kx1_1 := cell_regrown x1_1
  have x1_2 : w1.cell? ⟨w.heap.size, 2, none⟩ = some (.int .i64 (s 2)) := T1.b1.cell 2
  have kx1_2 := cell_regrown x1_2
  have x1_3 : w1.cell? ⟨w.heap.size, 3, none⟩ = some (.int .i64 (s 3)) := T1.b1.cell 3
  have kx1_3 := cell_regrown x1_3
  have x1_4 : w1.cell? ⟨w.heap.size, 4, none⟩ = some (.int .i64 (s 4)) := T1.b1.cell 4
  have kx1_4 := cell_regrown x1_4
  have x1_5 : w1.cell? ⟨w.heap.size, 5, none⟩ = some (.int .i64 (s 5)) := T1.b1.cell 5
  have kx1_5 := cell_regrown x1_5
  have x1_6 : w1.cell? ⟨w.heap.size, 6, none⟩ = some (.int .i64 (s 6)) := T1.b1.cell 6
  have kx1_6 := cell_regrown x1_6
  have x1_7 : w1.cell? ⟨w.heap.size, 7, none⟩ = some (.int .i64 (s 7)) := T1.b1.cell 7
  have kx1_7 := cell_regrown x1_7
  have x1_8 : w1.cell? ⟨w.heap.size, 8, none⟩ = some (.int .i64 (s 8)) := T1.b1.cell 8
  have kx1_8 := cell_regrown x1_8
  have y1_0 : w1.cell? ⟨w.heap.size + 1, 0, none⟩ = some (.int .i64 r.kind) := T1.b2.cell 0
  have ky1_0 := cell_regrown y1_0
  have y1_1 : w1.cell? ⟨w.heap.size + 1, 1, none⟩ = some (.int .i64 r.seq) := T1.b2.cell 1
  have ky1_1 := cell_regrown y1_1
  have y1_2 : w1.cell? ⟨w.heap.size + 1, 2, none⟩ = some (.string r.name) := T1.b2.cell 2
  have ky1_2 := cell_regrown y1_2
  have y1_3 : w1.cell? ⟨w.heap.size + 1, 3, none⟩ = some (.int .i64 r.length) := T1.b2.cell 3
  have ky1_3 := cell_regrown y1_3
  have y1_4 : w1.cell? ⟨w.heap.size + 1, 4, none⟩ = some (.int .i64 r.group) := T1.b2.cell 4
  have ky1_4 := cell_regrown y1_4
  have y1_5 : w1.cell? ⟨w.heap.size + 1, 5, none⟩ = some (.int .i64 r.row) := T1.b2.cell 5
  have ky1_5 := cell_regrown y1_5
  have y1_6 : w1.cell? ⟨w.heap.size + 1, 6, none⟩ = some (.slice ao6 r.rows.1 cap6) := T1.b2.cell 6
  have ky1_6 := cell_regrown y1_6
  have y1_7 : w1.cell? ⟨w.heap.size + 1, 7, none⟩ = some (.slice ao7 r.data.1 cap7) := T1.b2.cell 7
  have ky1_7 := cell_regrown y1_7
  have y1_8 : w1.cell? ⟨w.heap.size + 1, 8, none⟩ = some (.slice ao8 r.delta.1 cap8) := T1.b2.cell 8
  have ky1_8 := cell_regrown y1_8
  obtain ⟨t4, h4⟩ : ∃ b, ((r.data.1 : Int) == s 2 * 4) = b := ⟨_, rfl⟩
  obtain ⟨b5, h5⟩ : ∃ b, ((r.delta.1 : Int) != s 0 + s 1) = b := ⟨_, rfl⟩
  have cL := q_below (W := w1) (fun w' _ => rowLong_b HS.out (ao := ao7) (cap := cap7) (by omega) h4 w')
  have cA := q_below (W := w1) (fun w' _ => groupCount_any s HS.out w')
  unfold shapeV at cL cA
  clear T1
  have H4 : Hid (t4 = true ↔ (r.data.1 : Int) = s 2 * 4) := by
    show t4 = true ↔ _
    rw [← h4]
    simp
  have H5 : Hid (b5 = false ↔ (r.delta.1 : Int) = s 0 + s 1) := by
    show b5 = false ↔ _
    rw [← h5]
    simp
  have hst : t4 = false ∨ (t4 = true ∧ b5 = true) ∨ (t4 = true ∧ b5 = false) := by
    clear H4 H5 h4 h5 cL
    cases t4 <;> simp
  clear h4
  go_wp2
  rcases hst with rfl | ⟨rfl, rfl⟩ | ⟨rfl, rfl⟩
  all_goals
    refine WQ.region (by kernel_rfl) (by kernel_rfl) ?_
    repeat (first | (apply WQ.skip; (case hw => rfl); intro K hK; go_simp; apply hK; clear hK K) | (apply WQ.want; (case hw => rfl); intro K hK; go_simp; first | (apply hK; clear hK K) | (apply Exists.intro; apply And.intro; (case left => intro p; (first | (go_at_call 75; exact cL _ _) | (go_at_call 61; exact cA _ _))); apply hK; clear hK K)))
    refine WQ.nil ?_
    intro w2 hw2
    have T2 := HT1.out.call (below_rg hw2)
    have HT2 : Hid (Two w w2 #[.int .i64 (s 0), .int .i64 (s 1), .int .i64 (s 2), .int .i64 (s 3), .int .i64 (s 4), .int .i64 (s 5), .int .i64 (s 6), .int .i64 (s 7), .int .i64 (s 8)] #[.int .i64 r.kind, .int .i64 r.seq, .string r.name, .int .i64 r.length, .int .i64 r.group, .int .i64 r.row, .slice ao6 r.rows.1 cap6, .slice ao7 r.data.1 cap7, .slice ao8 r.delta.1 cap8] 31 45) := T2
    clear hw2 x1_0 kx1_0 y1_0 ky1_0 x1_1 kx1_1 y1_1 ky1_1 x1_2 kx1_2 y1_2 ky1_2 x1_3 kx1_3 y1_3 ky1_3 x1_4 kx1_4 y1_4 ky1_4 x1_5 kx1_5 y1_5 ky1_5 x1_6 kx1_6 y1_6 ky1_6 x1_7 kx1_7 y1_7 ky1_7 x1_8 kx1_8 y1_8 ky1_8 cL cA
  · clear T2
    go_wp2
    go_ret
    exact boolNo rfl (fun h => by have := H4.out.2 h.2.2.2.1; simp at this) HT2.out.bel
  · clear T2
    go_wp2
    go_ret
    exact boolNo rfl (fun h => by have := H5.out.2 h.2.2.2.2.1; simp at this) HT2.out.bel
  have HDA : Hid ((r.data.1 : Int) = s 2 * 4) := H4.out.1 rfl
  have hlen : (r.delta.1 : Int) = s 0 + s 1 := H5.out.1 rfl
  have HLEN : Hid ((r.delta.1 : Int) = s 0 + s 1) := hlen
  clear H4 H5 h5
  obtain ⟨b8, off8, he8, hb8, hcell8⟩ := HC8.out (by omega)
  subst he8
  have HCE : Hid (∀ i, i < r.delta.1 → w.cell? ⟨b8, off8 + i, none⟩ = some (.int .u8 (r.delta.2 i))) := hcell8
  have y2_6 : w2.cell? ⟨w.heap.size + 1, 6, none⟩ = some (.slice ao6 r.rows.1 cap6) := T2.b2.cell 6
  clear hcell8 T2 HC8 hlen
  go_wp2
  go_loopw [43] (fun i wr => ∃ k : Nat, k ≤ r.rows.1 ∧ i = .int .i64 k ∧ (∀ i, i < k → r.delta.2 (r.rows.2 i).toNat ≠ 0) ∧ Two w wr #[.int .i64 (s 0), .int .i64 (s 1), .int .i64 (s 2), .int .i64 (s 3), .int .i64 (s 4), .int .i64 (s 5), .int .i64 (s 6), .int .i64 (s 7), .int .i64 (s 8)] #[.int .i64 r.kind, .int .i64 r.seq, .string r.name, .int .i64 r.length, .int .i64 r.group, .int .i64 r.row, .slice ao6 r.rows.1 cap6, .slice ao7 r.data.1 cap7, .slice (some ⟨b8, off8, none⟩) r.delta.1 cap8] 31 45) (fun i _ => r.rows.1 - (intOf i).toNat)
  case atStart => exact ⟨0, Nat.zero_le _, rfl, fun i hi => by omega, HT2.out⟩
  case round =>
    obtain ⟨k, hk, rfl, hal, T3⟩ := hrel
    have HAL : Hid (∀ i, i < k → r.delta.2 (r.rows.2 i).toNat ≠ 0) := hal
    have H3 : Hid (Two w wr #[.int .i64 (s 0), .int .i64 (s 1), .int .i64 (s 2), .int .i64 (s 3), .int .i64 (s 4), .int .i64 (s 5), .int .i64 (s 6), .int .i64 (s 7), .int .i64 (s 8)] #[.int .i64 r.kind, .int .i64 r.seq, .string r.name, .int .i64 r.length, .int .i64 r.group, .int .i64 r.row, .slice ao6 r.rows.1 cap6, .slice ao7 r.data.1 cap7, .slice (some ⟨b8, off8, none⟩) r.delta.1 cap8] 31 45) := T3
    clear hal y2_6
    have y3_8 : wr.cell? ⟨w.heap.size + 1, 8, none⟩ = some (.slice (some ⟨b8, off8, none⟩) r.delta.1 cap8) := T3.b2.cell 8
    have y3_4 : wr.cell? ⟨w.heap.size + 1, 4, none⟩ = some (.int .i64 r.group) := T3.b2.cell 4
    by_cases hlt : k < r.rows.1
    · obtain ⟨b6, off6, he6, hb6, hcell6⟩ := HC6.out (by omega)
      subst he6
      have hrk := HR.out k hlt
      have hl := HLEN.out
      obtain ⟨Y, hY⟩ : ∃ Y : Nat, r.rows.2 k = (Y : Int) := ⟨(r.rows.2 k).toNat, by omega⟩
      have hYl : Y < r.delta.1 := by omega
      have c6 : wr.cell? ⟨b6, off6 + k, none⟩ = some (.int .i64 (Y : Int)) := by
        rw [← hY]
        exact (T3.bel.cell (p := ⟨b6, off6 + k, none⟩) (by show b6 < w.heap.size; omega)).trans (hcell6 k hlt)
      have c8 : wr.cell? ⟨b8, off8 + Y, none⟩ = some (.int .u8 (r.delta.2 Y)) := (T3.bel.cell (p := ⟨b8, off8 + Y, none⟩) (by show b8 < w.heap.size; omega)).trans (HCE.out Y hYl)
      have HY : Hid (r.rows.2 k = (Y : Int)) := hY
      clear hcell6 hrk hY T3 hl
      obtain ⟨z0, hz0⟩ : ∃ x, x = r.delta.2 Y := ⟨_, rfl⟩
      have HZ0 : Hid (z0 = r.delta.2 Y) := hz0
      rw [← hz0] at c8
      clear hz0
      by_cases hz : z0 = 0
      · subst hz
        go_wp2
        go_ret
        exact boolNo rfl (fun h => h.2.2.2.2.2.2 k hlt (by rw [HY.out]; exact HZ0.out.symm)) H3.out.bel
      · have hz' : ((z0 : Int) == 0) = false := by simp; omega
        go_wp2
        go_roundw
        case rel => exact ⟨k + 1, by omega, by go_num, fun i hi => by
                      by_cases c : i = k
                      · subst c
                        rw [HY.out, Int.toNat_natCast, ← HZ0.out]
                        exact hz
                      · exact HAL.out i (by omega), H3.out⟩
        case measure => simp [intOf]; omega
    · obtain rfl : k = r.rows.1 := by omega
      have hg := HG.out
      have hl := HLEN.out
      unfold InP at hg
      obtain ⟨G, hG⟩ : ∃ G : Nat, r.group = (G : Int) := ⟨r.group.toNat, by omega⟩
      have hGl : G < r.delta.1 := by omega
      have d0 : wr.cell? ⟨b8, off8 + G, none⟩ = some (.int .u8 (r.delta.2 G)) := (T3.bel.cell (p := ⟨b8, off8 + G, none⟩) (by show b8 < w.heap.size; omega)).trans (HCE.out G hGl)
      rw [hG] at y3_4
      have HGG : Hid (r.group = (G : Int)) := hG
      obtain ⟨x0, hx0⟩ : ∃ x, x = r.delta.2 G := ⟨_, rfl⟩
      have HX0 : Hid (x0 = r.delta.2 G) := hx0
      rw [← hx0] at d0
      clear hx0 hG hg hl T3
      by_cases hz : x0 = 0
      · subst hz
        go_wp2
        go_ret
        exact boolYes rfl ⟨HG.out, HW.out, HR.out, HDA.out, HLEN.out, by rw [HGG.out, Int.toNat_natCast]; exact HX0.out.symm, HAL.out⟩ H3.out.bel
      · have hz' : ((x0 : Int) == 0) = false := by simp; omega
        go_wp2
        go_ret
        exact boolNo rfl (fun h => hz (by rw [HX0.out, ← h.2.2.2.2.2.1, HGG.out, Int.toNat_natCast])) H3.out.bel
end Go.Proofs.Ytgpglgchbimmaaa

namespace Go.Proofs.Ytgpglgchbimmaaa
open Go.RowKit F256
set_option linter.unusedVariables false
set_option linter.unusedSimpArgs false
set_option maxHeartbeats 4000000 in
theorem unnamed1 (seq : Int) (name : ByteArray) (length group row : Int) (rows : Nat × (Nat → Int)) (data delta : Nat × (Nat → Nat)) (ao6 ao7 ao8 : Option Addr) (cap6 cap7 cap8 : Nat) (w : World) :
    Calls Try.prog 50 #[.agg #[.int .i64 1, .int .i64 seq, .string name, .int .i64 length, .int .i64 group, .int .i64 row, .slice ao6 rows.1 cap6, .slice ao7 data.1 cap7, .slice ao8 delta.1 cap8]] w fun e w' => e = .returned (.agg #[.int .i64 0, .int .i64 0, .string ByteArray.empty, .int .i64 0, .int .i64 group, .int .i64 row, .slice none 0 0, .slice none 0 0, .slice ao8 delta.1 cap8]) ∧ Below w.heap.size w w' := by
  have B0 : Below w.heap.size w ((w.alloc (.cells #[.int .i64 1, .int .i64 seq, .string name, .int .i64 length, .int .i64 group, .int .i64 row, .slice ao6 rows.1 cap6, .slice ao7 data.1 cap7, .slice ao8 delta.1 cap8] 45)).alloc (.cells #[.int .i64 0, .int .i64 0, .string ByteArray.empty, .int .i64 0, .int .i64 group, .int .i64 row, .slice none 0 0, .slice none 0 0, .slice ao8 delta.1 cap8] 45)) := ((Below.refl _ _).alloc (Nat.le_refl _) _).alloc (by simp) _
  go_enter Try.func50, Try.ntmps50
  go_wp2
  exact bodyPost_ret (v := .agg #[.int .i64 0, .int .i64 0, .string ByteArray.empty, .int .i64 0, .int .i64 group, .int .i64 row, .slice none 0 0, .slice none 0 0, .slice ao8 delta.1 cap8]) (by simp [results, Try.results50, go_sem]; try rfl) rfl ⟨rfl, B0⟩
set_option maxHeartbeats 4000000 in
theorem unnamed2 (seq : Int) (name : ByteArray) (length group row : Int) (rows : Nat × (Nat → Int)) (data delta : Nat × (Nat → Nat)) (ao6 ao7 ao8 : Option Addr) (cap6 cap7 cap8 : Nat) (w : World) :
    Calls Try.prog 50 #[.agg #[.int .i64 2, .int .i64 seq, .string name, .int .i64 length, .int .i64 group, .int .i64 row, .slice ao6 rows.1 cap6, .slice ao7 data.1 cap7, .slice ao8 delta.1 cap8]] w fun e w' => e = .returned (.agg #[.int .i64 0, .int .i64 0, .string name, .int .i64 length, .int .i64 0, .int .i64 0, .slice ao6 rows.1 cap6, .slice none 0 0, .slice none 0 0]) ∧ Below w.heap.size w w' := by
  have B0 : Below w.heap.size w ((w.alloc (.cells #[.int .i64 2, .int .i64 seq, .string name, .int .i64 length, .int .i64 group, .int .i64 row, .slice ao6 rows.1 cap6, .slice ao7 data.1 cap7, .slice ao8 delta.1 cap8] 45)).alloc (.cells #[.int .i64 0, .int .i64 0, .string name, .int .i64 length, .int .i64 0, .int .i64 0, .slice ao6 rows.1 cap6, .slice none 0 0, .slice none 0 0] 45)) := ((Below.refl _ _).alloc (Nat.le_refl _) _).alloc (by simp) _
  go_enter Try.func50, Try.ntmps50
  go_wp2
  exact bodyPost_ret (v := .agg #[.int .i64 0, .int .i64 0, .string name, .int .i64 length, .int .i64 0, .int .i64 0, .slice ao6 rows.1 cap6, .slice none 0 0, .slice none 0 0]) (by simp [results, Try.results50, go_sem]; try rfl) rfl ⟨rfl, B0⟩
set_option maxHeartbeats 4000000 in
theorem unnamed3 (seq : Int) (name : ByteArray) (length group row : Int) (rows : Nat × (Nat → Int)) (data delta : Nat × (Nat → Nat)) (ao6 ao7 ao8 : Option Addr) (cap6 cap7 cap8 : Nat) (w : World) :
    Calls Try.prog 50 #[.agg #[.int .i64 3, .int .i64 seq, .string name, .int .i64 length, .int .i64 group, .int .i64 row, .slice ao6 rows.1 cap6, .slice ao7 data.1 cap7, .slice ao8 delta.1 cap8]] w fun e w' => e = .returned (.agg #[.int .i64 0, .int .i64 0, .string name, .int .i64 length, .int .i64 0, .int .i64 row, .slice ao6 rows.1 cap6, .slice ao7 data.1 cap7, .slice ao8 delta.1 cap8]) ∧ Below w.heap.size w w' := by
  have B0 : Below w.heap.size w ((w.alloc (.cells #[.int .i64 3, .int .i64 seq, .string name, .int .i64 length, .int .i64 group, .int .i64 row, .slice ao6 rows.1 cap6, .slice ao7 data.1 cap7, .slice ao8 delta.1 cap8] 45)).alloc (.cells #[.int .i64 0, .int .i64 0, .string name, .int .i64 length, .int .i64 0, .int .i64 row, .slice ao6 rows.1 cap6, .slice ao7 data.1 cap7, .slice ao8 delta.1 cap8] 45)) := ((Below.refl _ _).alloc (Nat.le_refl _) _).alloc (by simp) _
  go_enter Try.func50, Try.ntmps50
  go_wp2
  exact bodyPost_ret (v := .agg #[.int .i64 0, .int .i64 0, .string name, .int .i64 length, .int .i64 0, .int .i64 row, .slice ao6 rows.1 cap6, .slice ao7 data.1 cap7, .slice ao8 delta.1 cap8]) (by simp [results, Try.results50, go_sem]; try rfl) rfl ⟨rfl, B0⟩
set_option maxHeartbeats 4000000 in
theorem unnamed4 (seq : Int) (name : ByteArray) (length group row : Int) (rows : Nat × (Nat → Int)) (data delta : Nat × (Nat → Nat)) (ao6 ao7 ao8 : Option Addr) (cap6 cap7 cap8 : Nat) (w : World) :
    Calls Try.prog 50 #[.agg #[.int .i64 4, .int .i64 seq, .string name, .int .i64 length, .int .i64 group, .int .i64 row, .slice ao6 rows.1 cap6, .slice ao7 data.1 cap7, .slice ao8 delta.1 cap8]] w fun e w' => e = .returned (.agg #[.int .i64 0, .int .i64 0, .string name, .int .i64 length, .int .i64 0, .int .i64 0, .slice none 0 0, .slice none 0 0, .slice none 0 0]) ∧ Below w.heap.size w w' := by
  have B0 : Below w.heap.size w ((w.alloc (.cells #[.int .i64 4, .int .i64 seq, .string name, .int .i64 length, .int .i64 group, .int .i64 row, .slice ao6 rows.1 cap6, .slice ao7 data.1 cap7, .slice ao8 delta.1 cap8] 45)).alloc (.cells #[.int .i64 0, .int .i64 0, .string name, .int .i64 length, .int .i64 0, .int .i64 0, .slice none 0 0, .slice none 0 0, .slice none 0 0] 45)) := ((Below.refl _ _).alloc (Nat.le_refl _) _).alloc (by simp) _
  go_enter Try.func50, Try.ntmps50
  go_wp2
  exact bodyPost_ret (v := .agg #[.int .i64 0, .int .i64 0, .string name, .int .i64 length, .int .i64 0, .int .i64 0, .slice none 0 0, .slice none 0 0, .slice none 0 0]) (by simp [results, Try.results50, go_sem]; try rfl) rfl ⟨rfl, B0⟩
/-- nothing is in it -/
def BlankQ (kd sq ln gr rw_ : Int) (nm : ByteArray) (n6 n7 n8 : Nat) : Prop := kd = 0 ∧ sq = 0 ∧ EmptyQ nm ln gr rw_ n6 n7 n8
set_option maxHeartbeats 8000000 in
theorem isBlank_any (kd sq ln gr rw_ : Int) (nm : ByteArray) (ao6 ao7 ao8 : Option Addr) (n6 n7 n8 cap6 cap7 cap8 : Nat) (w : World) :
    Calls Try.prog 49 #[.agg #[.int .i64 kd, .int .i64 sq, .string nm, .int .i64 ln, .int .i64 gr, .int .i64 rw_, .slice ao6 n6 cap6, .slice ao7 n7 cap7, .slice ao8 n8 cap8]] w (BoolP (BlankQ kd sq ln gr rw_ nm n6 n7 n8) w) := by
  have B0 : Hid (Below w.heap.size w (w.alloc (.cells #[.int .i64 kd, .int .i64 sq, .string nm, .int .i64 ln, .int .i64 gr, .int .i64 rw_, .slice ao6 n6 cap6, .slice ao7 n7 cap7, .slice ao8 n8 cap8] 45))) := (Below.refl _ _).alloc (Nat.le_refl _) _
  obtain ⟨b0, h0⟩ : ∃ b, (kd == 0) = b := ⟨_, rfl⟩
  obtain ⟨b1, h1⟩ : ∃ b, (sq == 0) = b := ⟨_, rfl⟩
  obtain ⟨b2, h2⟩ : ∃ b, (ln == 0) = b := ⟨_, rfl⟩
  obtain ⟨b3, h3⟩ : ∃ b, (gr == 0) = b := ⟨_, rfl⟩
  obtain ⟨b4, h4⟩ : ∃ b, (rw_ == 0) = b := ⟨_, rfl⟩
  obtain ⟨b5, h5⟩ : ∃ b, nm.toList.isEmpty = b := ⟨_, rfl⟩
  obtain ⟨b6, h6⟩ : ∃ b, ((n6 : Int) == 0) = b := ⟨_, rfl⟩
  obtain ⟨b7, h7⟩ : ∃ b, ((n7 : Int) == 0) = b := ⟨_, rfl⟩
  obtain ⟨b8, h8⟩ : ∃ b, ((n8 : Int) == 0) = b := ⟨_, rfl⟩
  have HE : Hid (BlankQ kd sq ln gr rw_ nm n6 n7 n8 ↔ (b0 = true ∧ b1 = true ∧ b2 = true ∧ b3 = true ∧ b4 = true ∧ b5 = true ∧ b6 = true ∧ b7 = true ∧ b8 = true)) := by
    show BlankQ kd sq ln gr rw_ nm n6 n7 n8 ↔ _
    rw [← h0, ← h1, ← h2, ← h3, ← h4, ← h5, ← h6, ← h7, ← h8, nm_iff]
    unfold BlankQ EmptyQ
    simp
    intro _ _
    constructor
    · rintro ⟨h2, h3, h4, h5, h6⟩
      exact ⟨h3, h4, h5, h2, h6⟩
    · rintro ⟨h3, h4, h5, h2, h6⟩
      exact ⟨h2, h3, h4, h5, h6⟩
  have hs : (b0 = false) ∨ (b0 = true ∧ b1 = false) ∨ (b0 = true ∧ b1 = true ∧ b2 = false) ∨ (b0 = true ∧ b1 = true ∧ b2 = true ∧ b3 = false) ∨ (b0 = true ∧ b1 = true ∧ b2 = true ∧ b3 = true ∧ b4 = false) ∨ (b0 = true ∧ b1 = true ∧ b2 = true ∧ b3 = true ∧ b4 = true ∧ b5 = false) ∨ (b0 = true ∧ b1 = true ∧ b2 = true ∧ b3 = true ∧ b4 = true ∧ b5 = true ∧ b6 = false) ∨ (b0 = true ∧ b1 = true ∧ b2 = true ∧ b3 = true ∧ b4 = true ∧ b5 = true ∧ b6 = true ∧ b7 = false) ∨ (b0 = true ∧ b1 = true ∧ b2 = true ∧ b3 = true ∧ b4 = true ∧ b5 = true ∧ b6 = true ∧ b7 = true ∧ b8 = false) ∨ (b0 = true ∧ b1 = true ∧ b2 = true ∧ b3 = true ∧ b4 = true ∧ b5 = true ∧ b6 = true ∧ b7 = true ∧ b8 = true) := by
    clear HE h0 h1 h2 h3 h4 h5 h6 h7 h8
    cases b0 <;> simp
    cases b1 <;> simp
    cases b2 <;> simp
    cases b3 <;> simp
    cases b4 <;> simp
    cases b5 <;> simp
    cases b6 <;> simp
    cases b7 <;> simp
  go_enter Try.func49, Try.ntmps49
  rcases hs with rfl | ⟨rfl, rfl⟩ | ⟨rfl, rfl, rfl⟩ | ⟨rfl, rfl, rfl, rfl⟩ | ⟨rfl, rfl, rfl, rfl, rfl⟩ | ⟨rfl, rfl, rfl, rfl, rfl, rfl⟩ | ⟨rfl, rfl, rfl, rfl, rfl, rfl, rfl⟩ | ⟨rfl, rfl, rfl, rfl, rfl, rfl, rfl, rfl⟩ | ⟨rfl, rfl, rfl, rfl, rfl, rfl, rfl, rfl, rfl⟩ | ⟨rfl, rfl, rfl, rfl, rfl, rfl, rfl, rfl, rfl⟩
  all_goals
    go_wp2
    go_ret
    first
      | exact boolNo rfl (fun h => by have := HE.out.1 h; simp at this) B0.out
      | exact boolYes rfl (HE.out.2 (by simp)) B0.out
end Go.Proofs.Ytgpglgchbimmaaa

namespace Go.Proofs.Ytgpglgchbimmaaa
open Go.RowKit F256
set_option linter.unusedVariables false
set_option linter.unusedSimpArgs false

theorem isLetter_yes (y : Nat) (h : LetP y) (w : World) : Calls Try.prog 70 #[.int .u8 y] w fun e w' => e = .returned (.bool true) ∧ w' = w := by
  unfold LetP at h
  obtain ⟨h1, h2⟩ := h
  have t1 : decide ((97 : Int) ≤ (y : Int)) = true := by simp; omega
  have t2 : decide ((y : Int) ≤ 122) = true := by simp; omega
  go_enter Try.func70, Try.ntmps70
  go_wp2
  go_ret
  exact ⟨rfl, rfl⟩
theorem isLetter_no (y : Nat) (h : ¬ LetP y) (w : World) : Calls Try.prog 70 #[.int .u8 y] w fun e w' => e = .returned (.bool false) ∧ w' = w := by
  unfold LetP at h
  by_cases h1 : 97 ≤ y
  · have h2 : 122 < y := by omega
    have t1 : decide ((97 : Int) ≤ (y : Int)) = true := by simp; omega
    have t2 : decide ((y : Int) ≤ 122) = false := by simp; omega
    clear h
    go_enter Try.func70, Try.ntmps70
    go_wp2
    go_ret
    exact ⟨rfl, rfl⟩
  · have t1 : decide ((97 : Int) ≤ (y : Int)) = false := by simp; omega
    clear h
    go_enter Try.func70, Try.ntmps70
    go_wp2
    go_ret
    exact ⟨rfl, rfl⟩
theorem isDigit_yes (y : Nat) (h : DigP y) (w : World) : Calls Try.prog 71 #[.int .u8 y] w fun e w' => e = .returned (.bool true) ∧ w' = w := by
  unfold DigP at h
  obtain ⟨h1, h2⟩ := h
  have t1 : decide ((48 : Int) ≤ (y : Int)) = true := by simp; omega
  have t2 : decide ((y : Int) ≤ 57) = true := by simp; omega
  go_enter Try.func71, Try.ntmps71
  go_wp2
  go_ret
  exact ⟨rfl, rfl⟩
theorem isDigit_no (y : Nat) (h : ¬ DigP y) (w : World) : Calls Try.prog 71 #[.int .u8 y] w fun e w' => e = .returned (.bool false) ∧ w' = w := by
  unfold DigP at h
  by_cases h1 : 48 ≤ y
  · have h2 : 57 < y := by omega
    have t1 : decide ((48 : Int) ≤ (y : Int)) = true := by simp; omega
    have t2 : decide ((y : Int) ≤ 57) = false := by simp; omega
    clear h
    go_enter Try.func71, Try.ntmps71
    go_wp2
    go_ret
    exact ⟨rfl, rfl⟩
  · have t1 : decide ((48 : Int) ≤ (y : Int)) = false := by simp; omega
    clear h
    go_enter Try.func71, Try.ntmps71
    go_wp2
    go_ret
    exact ⟨rfl, rfl⟩

set_option maxHeartbeats 4000000 in
theorem implName_any (b : ByteArray) (hb : b.size ≤ 1048576) (w : World) :
    Calls Try.prog 47 #[.string b] w fun e w' => ∃ x, e = .returned (.int .i64 x) ∧ NmAns b x ∧ w' = w := by
  by_cases h1 : 1 ≤ b.size
  · have t1 : decide ((b.size : Int) < 1) = false := by simp; omega
    have t1n : decide (b.size < 1) = false := decide_eq_false (by omega)
    have t1z : decide (b.size = 0) = false := decide_eq_false (by omega)
    by_cases h2 : b.size ≤ 8
    · have t2 : decide ((8 : Int) < (b.size : Int)) = false := by simp; omega
      have t2n : decide (8 < b.size) = false := by simp; omega
      have hix := index_name b 0 h1
      have e0 : ((0 : Nat) : Int) = 0 := rfl
      rw [e0] at hix
      obtain ⟨y, hy⟩ : ∃ y, y = nameByte b 0 := ⟨_, rfl⟩
      rw [← hy] at hix
      have HY : Hid (y = nameByte b 0) := hy
      clear e0 hy
      by_cases h3 : LetP y
      · have HL : Hid (LetP (nameByte b 0)) := by show LetP (nameByte b 0); rw [← HY.out]; exact h3
        have CL := isLetter_yes y h3
        clear h3
        go_enter Try.func47, Try.ntmps47
        go_wp2_with fail
        refine (CL _).mono ?_
        rintro e w1 ⟨rfl, rfl⟩
        go_wp2
        go_loop [20] (fun i => ∃ k : Nat, k ≤ b.size ∧ i = .int .i64 k ∧ ∀ i, i < k → LetP (nameByte b i) ∨ DigP (nameByte b i)) (fun i => b.size - (intOf i).toNat)
        case atStart => exact ⟨0, Nat.zero_le _, rfl, fun i hi => by omega⟩
        case round =>
          obtain ⟨k, hk, rfl, hall⟩ := hrel
          have HALL : Hid (∀ i, i < k → LetP (nameByte b i) ∨ DigP (nameByte b i)) := hall
          clear hall
          by_cases hlt : k < b.size
          · have hik := index_name b k hlt
            obtain ⟨z, hz⟩ : ∃ z, z = nameByte b k := ⟨_, rfl⟩
            rw [← hz] at hik
            have HZ : Hid (z = nameByte b k) := hz
            clear hz CL
            by_cases c1 : LetP z
            · have HD : Hid (LetP (nameByte b k)) := by show LetP (nameByte b k); rw [← HZ.out]; exact c1
              have C1 := isLetter_yes z c1
              clear c1
              go_wp2_with fail
              refine (C1 _).mono ?_
              rintro e w2 ⟨rfl, rfl⟩
              go_wp2
              go_round
              case rel => exact ⟨k + 1, by omega, by go_num, fun i hi => by
                            by_cases c : i = k
                            · left; rw [c]; exact HD.out
                            · exact HALL.out i (by omega)⟩
              case measure => simp [intOf]; omega
            · have C1 := isLetter_no z c1
              by_cases c2 : DigP z
              · have HD : Hid (DigP (nameByte b k)) := by show DigP (nameByte b k); rw [← HZ.out]; exact c2
                have C2 := isDigit_yes z c2
                clear c1 c2
                go_wp2_with fail
                refine (C1 _).mono ?_
                rintro e w2 ⟨rfl, rfl⟩
                go_wp2_with fail
                refine (C2 _).mono ?_
                rintro e w3 ⟨rfl, rfl⟩
                go_wp2
                go_round
                case rel => exact ⟨k + 1, by omega, by go_num, fun i hi => by
                              by_cases c : i = k
                              · right; rw [c]; exact HD.out
                              · exact HALL.out i (by omega)⟩
                case measure => simp [intOf]; omega
              · have HN : Hid (¬ OkName b) := fun h => by
                  have := h.2.2.2 k hlt
                  rw [← HZ.out] at this
                  exact this.elim c1 c2
                have C2 := isDigit_no z c2
                clear c1 c2
                go_wp2_with fail
                refine (C1 _).mono ?_
                rintro e w2 ⟨rfl, rfl⟩
                go_wp2_with fail
                refine (C2 _).mono ?_
                rintro e w3 ⟨rfl, rfl⟩
                go_wp2
                go_ret
                exact ⟨5, rfl, .inl ⟨rfl, HN.out⟩, rfl⟩
          · obtain rfl : k = b.size := by omega
            have HY2 : Hid (OkName b) := ⟨h1, h2, HL.out, HALL.out⟩
            go_wp2
            go_ret
            exact ⟨0, rfl, .inr ⟨rfl, HY2.out⟩, rfl⟩
      · have HN : Hid (¬ OkName b) := fun h => by have := h.2.2.1; rw [← HY.out] at this; exact h3 this
        have CL := isLetter_no y h3
        clear h3
        go_enter Try.func47, Try.ntmps47
        go_wp2_with fail
        refine (CL _).mono ?_
        rintro e w1 ⟨rfl, rfl⟩
        go_wp2
        go_ret
        exact ⟨5, rfl, .inl ⟨rfl, HN.out⟩, rfl⟩
    · have HN : Hid (¬ OkName b) := fun h => h2 h.2.1
      have t2 : decide ((8 : Int) < (b.size : Int)) = true := by simp; omega
      have t2i : (8 : Int) < (b.size : Int) := by omega
      clear h2
      go_enter Try.func47, Try.ntmps47
      go_wp2
      go_ret
      exact ⟨5, rfl, .inl ⟨rfl, HN.out⟩, rfl⟩
  · have HN : Hid (¬ OkName b) := fun h => h1 h.1
    have t1 : decide ((b.size : Int) < 1) = true := by simp; omega
    have t1i : (b.size : Int) < 1 := by omega
    clear h1
    go_enter Try.func47, Try.ntmps47
    go_wp2
    go_ret
    exact ⟨5, rfl, .inl ⟨rfl, HN.out⟩, rfl⟩
end Go.Proofs.Ytgpglgchbimmaaa
