/- Walks of the specification's l2Decode, DecodeRow and BlockOf. -/
import Derived.Test.YtoadjpacchhleaiWRowK
import Derived.Test.YtoadjpacchhleaiWRowJ
namespace Go.Proofs.Ytoadjpacchhleai
open Go.RowKit F256
set_option linter.unusedVariables false
set_option linter.unusedSimpArgs false

/-- the answer of l2Decode -/
def DcdP (D : Nat) (n : Nat → Nat) (R : Nat) (f : Mat) (w : World) (ee : Ending) (w' : World) : Prop :=
  ∃ v' b, ee = .returned (.tuple #[v', .bool b]) ∧ (b = true ↔ D ≤ cntN n R) ∧ Own w' w.heap.size w'.heap.size v' (if b = true then 4 * D else 0) (decN D n R f) ∧ Below w.heap.size w w'

set_option maxHeartbeats 4000000 in
theorem l2Decode_any (D : Nat) (v : Value) (R : Nat) (n : Nat → Nat) (f : Mat) (h1 : Nat) (w : World) (r : RdM w h1 v R n f) (hh : h1 ≤ w.heap.size) (hD1 : 1 ≤ D) (hD : D ≤ 3) (hR : R ≤ D + 2) (h4 : ∀ i, i < R → n i = 0 ∨ n i = 4) (kf : Byt f) :
    Calls Try.prog 50 #[.int .i64 D, v] w (DcdP D n R f w) := by
  have HR : Hid (RdM w h1 v R n f) := r
  obtain ⟨ao, cap, e, rfl, hm, hc, he⟩ := r
  have HH4 : Hid (∀ i, i < R → n i = 0 ∨ n i = 4) := h4
  clear hc he h4 hm
  go_enter Try.func50, Try.ntmps50
  go_wp2
  go_loopw [6, 7] (fun u i wr => ∃ k : Nat, k ≤ D ∧ i = .int .i64 k ∧ (0 < k → D ≤ cntN n R) ∧ Own wr w.heap.size wr.heap.size u (4 * k) (decN D n R f) ∧ Below w.heap.size w wr) (fun _ i _ => D - (intOf i).toNat)
  case atStart => exact ⟨0, Nat.zero_le _, rfl, fun h => by omega, own_lit0 w _, (Below.refl _ _).alloc (Nat.le_refl _) _⟩
  case round =>
    obtain ⟨k, hk, rfl, hcnt, hown, hb⟩ := hrel
    have HCN : Hid (0 < k → D ≤ cntN n R) := hcnt
    have HO : Hid (Own wr w.heap.size wr.heap.size u6 (4 * k) (decN D n R f)) := hown
    have HB : Hid (Below w.heap.size w wr) := hb
    have szr := hb.size
    by_cases hlt : k < D
    · have C := l2Block_any D k (.slice ao R cap) R n f h1 wr (HR.out.below hb hh) (Nat.le_trans hh szr) hD1 hD hR (by omega) HH4.out kf
      clear hcnt hown hb
      go_wp2_with fail
      refine C.mono ?_
      rintro ee w2 ⟨v2, b2, rfl, hb2, o2, b2'⟩
      have HB2 : Hid (b2 = true ↔ D ≤ cntN n R) := hb2
      have B2 : Below w.heap.size w w2 := HB.out.trans (b2'.mono szr)
      have s2 := b2'.size
      have HO2 : Hid (Own w2 w.heap.size wr.heap.size u6 (4 * k) (decN D n R f)) := HO.out.below b2' (Nat.le_refl _)
      clear C hb2 b2'
      cases b2 with
      | false =>
        have HNO : Hid (¬ D ≤ cntN n R) := fun h => by have := HB2.out.mpr h; cases this
        simp only [Bool.false_eq_true, if_false] at o2
        obtain ⟨ao2, cap2, rfl⟩ := o2.slice
        clear o2 HB2
        go_wp2
        go_ret2
        exact ⟨_, false, rfl, ⟨fun h => (by cases h), fun h => absurd h HNO.out⟩, own_nil _ _ _ _, B2⟩
      | true =>
        have HYES : Hid (D ≤ cntN n R) := HB2.out.mp rfl
        simp only [if_pos] at o2
        obtain ⟨ao2, cap2, rfl⟩ := o2.slice
        have HO3 : Hid (Own w2 wr.heap.size w2.heap.size (.slice ao2 4 cap2) 4 (blockN D n R f k)) := o2
        have hm4 : 4 * k + 4 ≤ 1000000 := by omega
        have sw2 : w.heap.size ≤ w2.heap.size := by omega
        clear o2 HB2
        go_wp2_with (at_builtin; refine wp_appendX rfl (.tmp 25) (.tmp 26) rfl w.heap.size wr.heap.size u6 (4 * k) (decN D n R f) ?_ HO2.out w2.heap.size (.slice ao2 4 cap2) 4 (blockN D n R f k) ?_ HO3.out.rd (by omega) (fun i hi => decN_at D n R f k i hi) hm4 sw2 ?_; (simp [Act.eval]); (simp [Act.eval]); intro v5 w5 o5 g5)
        have R5 : Below w.heap.size w w5 := B2.grown g5 sw2 (fun q hq => (HO2.out.1.lt q hq).1)
        have e4 : 4 * k + 4 = 4 * (k + 1) := by omega
        rw [e4] at o5
        clear g5 HO2 HO3 HO HB
        go_wp2
        go_roundw
        case rel => exact ⟨k + 1, by omega, by go_num, fun _ => HYES.out, o5, R5⟩
        case measure => simp [intOf]; omega
    · obtain rfl : k = D := by omega
      have HYES : Hid (k ≤ cntN n R) := hcnt (by omega)
      clear hcnt
      go_wp2
      go_ret2
      exact ⟨_, true, rfl, ⟨fun _ => HYES.out, fun _ => rfl⟩, by simp only [if_pos]; exact hown, hb⟩

set_option maxHeartbeats 4000000 in
theorem specDecode_any (d s : Int) (v : Value) (R : Nat) (n : Nat → Nat) (f : Mat) (h1 : Nat) (w : World) (r : RdM w h1 v R n f) (hh : h1 ≤ w.heap.size) (kf : Byt f) :
    Calls Try.prog 18 #[.int .i64 d, .int .i64 s, v] w fun ee w' => ∃ x v', ee = .returned (bytesR x v') ∧ DecAns d s R n x ∧ Own w' w.heap.size w'.heap.size v' (if x = 0 then 4 * d.toNat else 0) (decN d.toNat n R f) ∧ Below w.heap.size w w' := by
  have HR : Hid (RdM w h1 v R n f) := r
  obtain ⟨ao, cap, e, rfl, hm, hc, he⟩ := r
  clear hm hc he
  have b0 : Below w.heap.size w (w.alloc (.cells #[.int .i64 0, .slice none 0 0] 25)) := (Below.refl _ _).alloc (Nat.le_refl _) _
  have C := l2Asked_any d s (.slice ao R cap) R n f h1 _ (HR.out.below b0 hh) (by simp; omega)
  go_enter Try.func18, Try.ntmps18
  go_wp2_with fail
  refine C.mono ?_
  rintro e0 w1 ⟨x, rfl, hask, b1'⟩
  have HASK : Hid (AskP d s R n x) := hask
  have B1 : Below w.heap.size w w1 := bnew b1'
  have X1 : Box w1 w.heap.size #[.int .i64 0, .slice none 0 0] 25 := (box_new w _ _).below b1' (by simp)
  have z1 : w.heap.size < w1.heap.size := X1.lt
  obtain ⟨x0, x1, y0, y1⟩ := res_cells X1
  clear hask b1' C b0
  by_cases hx : x = 0
  · subst hx
    obtain ⟨hsh, hlen, h4⟩ := HASK.out.ok
    obtain ⟨q1, q2, q3, q4⟩ := hsh
    obtain ⟨D, rfl⟩ : ∃ D : Nat, d = D := ⟨d.toNat, by omega⟩
    have CD := l2Decode_any D (.slice ao R cap) R n f h1 w1 (HR.out.below B1 hh) (Nat.le_trans hh B1.size) (by omega) (by omega) (by omega) h4 kf
    clear hlen h4
    go_wp2_with fail
    refine CD.mono ?_
    rintro e0 w2 ⟨v2, b2, rfl, hb2, o2, b2'⟩
    have HB2 : Hid (b2 = true ↔ D ≤ cntN n R) := hb2
    have B2 : Below w.heap.size w w2 := B1.trans (b2'.mono B1.size)
    have X2 : Box w2 w.heap.size #[.int .i64 0, .slice none 0 0] 25 := X1.below b2' z1
    have z2 : w.heap.size < w2.heap.size := X2.lt
    clear x0 x1 y0 y1
    obtain ⟨x0, x1, y0, y1⟩ := res_cells X2
    clear hb2 b2' X1 B1 CD
    cases b2 with
    | false =>
      have HNO : Hid (¬ D ≤ cntN n R) := fun h => by have := HB2.out.mpr h; cases this
      simp only [Bool.false_eq_true, if_false] at o2
      obtain ⟨ao2, cap2, rfl⟩ := o2.slice
      clear o2 HB2
      go_wp2
      exact bodyPost_ret (v := bytesR 10 (.slice none 0 0)) (by simp [results, Try.results18, go_sem, bytesR, x0, x1]) rfl ⟨10, _, rfl, .inr (.inl ⟨HASK.out, by rw [Int.toNat_natCast]; exact HNO.out, rfl⟩), own_nil _ _ _ _, (B2.setCell (Nat.le_refl _) _).setCell (Nat.le_refl _) _⟩
    | true =>
      have HYES : Hid (D ≤ cntN n R) := HB2.out.mp rfl
      simp only [if_pos] at o2
      obtain ⟨ao2, cap2, rfl⟩ := o2.slice
      have HO : Hid (Own w2 w1.heap.size w2.heap.size (.slice ao2 (4 * D) cap2) (4 * D) (decN D n R f)) := o2
      clear o2 HB2 X2
      go_wp2
      refine bodyPost_ret (v := bytesR 0 (.slice ao2 (4 * D) cap2)) (by simp [results, Try.results18, go_sem, bytesR, x0, x1]) rfl ⟨0, _, rfl, .inr (.inr ⟨HASK.out, by rw [Int.toNat_natCast]; exact HYES.out, rfl⟩), ?_, (B2.setCell (Nat.le_refl _) _).setCell (Nat.le_refl _) _⟩
      have o1 := out_store w2 w.heap.size (w.heap.size + 1) w.heap.size 0 (.int .i64 0) (Nat.le_refl _) (by omega)
      have o2 := out_store (w2.setCell ⟨w.heap.size, 0, none⟩ (.int .i64 0)) w.heap.size (w.heap.size + 1) w.heap.size 1 (.slice ao2 (4 * D) cap2) (Nat.le_refl _) (by omega)
      simp only [if_pos]
      rw [Int.toNat_natCast]
      exact (HO.out.out (o1.trans o2) (.inr (by omega))).weaken (by omega) (by rw [(o1.trans o2).size]; exact Nat.le_refl _)
  · have tx : (x != 0) = true := by simp [hx]
    have HX : Hid (x ≠ 0) := hx
    clear hx
    go_wp2
    exact bodyPost_ret (v := bytesR x (.slice none 0 0)) (by simp [results, Try.results18, go_sem, bytesR, x0, x1]) rfl ⟨x, _, rfl, .inl ⟨HASK.out, HX.out⟩, by rw [if_neg HX.out]; exact own_nil _ _ _ _, (B1.setCell (Nat.le_refl _) _).setCell (Nat.le_refl _) _⟩

set_option maxHeartbeats 4000000 in
theorem specBlockOf_any (d s want : Int) (v : Value) (R : Nat) (n : Nat → Nat) (f : Mat) (h1 : Nat) (w : World) (r : RdM w h1 v R n f) (hh : h1 ≤ w.heap.size) (kf : Byt f) :
    Calls Try.prog 23 #[.int .i64 d, .int .i64 s, v, .int .i64 want] w fun ee w' => ∃ x v', ee = .returned (bytesR x v') ∧ BofAns d s R n want x ∧ Own w' w.heap.size w'.heap.size v' (if x = 0 then 4 else 0) (blockN d.toNat n R f want.toNat) ∧ Below w.heap.size w w' := by
  have HR : Hid (RdM w h1 v R n f) := r
  obtain ⟨ao, cap, e, rfl, hm, hc, he⟩ := r
  clear hm hc he
  have b0 : Below w.heap.size w (w.alloc (.cells #[.int .i64 0, .slice none 0 0] 25)) := (Below.refl _ _).alloc (Nat.le_refl _) _
  have C := l2Asked_any d s (.slice ao R cap) R n f h1 _ (HR.out.below b0 hh) (by simp; omega)
  go_enter Try.func23, Try.ntmps23
  go_wp2_with fail
  refine C.mono ?_
  rintro e0 w1 ⟨x, rfl, hask, b1'⟩
  have HASK : Hid (AskP d s R n x) := hask
  have B1 : Below w.heap.size w w1 := bnew b1'
  have X1 : Box w1 w.heap.size #[.int .i64 0, .slice none 0 0] 25 := (box_new w _ _).below b1' (by simp)
  have z1 : w.heap.size < w1.heap.size := X1.lt
  obtain ⟨x0, x1, y0, y1⟩ := res_cells X1
  clear hask b1' C b0
  by_cases hx : x = 0
  · subst hx
    obtain ⟨hsh, hlen, h4⟩ := HASK.out.ok
    obtain ⟨q1, q2, q3, q4⟩ := hsh
    obtain ⟨D, rfl⟩ : ∃ D : Nat, d = D := ⟨d.toNat, by omega⟩
    obtain ⟨S, rfl⟩ : ∃ S : Nat, s = S := ⟨s.toNat, by omega⟩
    by_cases hw : 0 ≤ want ∧ want ≤ (D : Int) + (S : Int) - 1
    · obtain ⟨W, rfl⟩ : ∃ W : Nat, want = W := ⟨want.toNat, by omega⟩
      have HW : Hid (0 ≤ (W : Int) ∧ (W : Int) ≤ (D : Int) + (S : Int) - 1) := hw
      have CL := l1In_yes (W : Int) 0 ((D : Int) + (S : Int) - 1) hw.1 hw.2 w1
      have CD := l2Block_any D W (.slice ao R cap) R n f h1 w1 (HR.out.below B1 hh) (Nat.le_trans hh B1.size) (by omega) (by omega) (by omega) (by omega) h4 kf
      clear hlen h4 hw
      go_wp2_with fail
      refine CL.mono ?_
      rintro e0 w1' ⟨rfl, hw1⟩
      obtain rfl := hw1.symm
      clear CL
      go_wp2_with fail
      refine CD.mono ?_
      rintro e0 w2 ⟨v2, b2, rfl, hb2, o2, b2'⟩
      have HB2 : Hid (b2 = true ↔ D ≤ cntN n R) := hb2
      have B2 : Below w.heap.size w w2 := B1.trans (b2'.mono B1.size)
      have X2 : Box w2 w.heap.size #[.int .i64 0, .slice none 0 0] 25 := X1.below b2' z1
      have z2 : w.heap.size < w2.heap.size := X2.lt
      clear x0 x1 y0 y1
      obtain ⟨x0, x1, y0, y1⟩ := res_cells X2
      clear hb2 b2' X1 B1 CD
      cases b2 with
      | false =>
        have HNO : Hid (¬ D ≤ cntN n R) := fun h => by have := HB2.out.mpr h; cases this
        simp only [Bool.false_eq_true, if_false] at o2
        obtain ⟨ao2, cap2, rfl⟩ := o2.slice
        clear o2 HB2
        go_wp2
        exact bodyPost_ret (v := bytesR 10 (.slice none 0 0)) (by simp [results, Try.results23, go_sem, bytesR, x0, x1]) rfl ⟨10, _, rfl, .inr (.inr (.inl ⟨HASK.out, HW.out, by rw [Int.toNat_natCast]; exact HNO.out, rfl⟩)), own_nil _ _ _ _, (B2.setCell (Nat.le_refl _) _).setCell (Nat.le_refl _) _⟩
      | true =>
        have HYES : Hid (D ≤ cntN n R) := HB2.out.mp rfl
        simp only [if_pos] at o2
        obtain ⟨ao2, cap2, rfl⟩ := o2.slice
        have HO : Hid (Own w2 w1.heap.size w2.heap.size (.slice ao2 4 cap2) 4 (blockN D n R f W)) := o2
        clear o2 HB2 X2
        go_wp2
        refine bodyPost_ret (v := bytesR 0 (.slice ao2 4 cap2)) (by simp [results, Try.results23, go_sem, bytesR, x0, x1]) rfl ⟨0, _, rfl, .inr (.inr (.inr ⟨HASK.out, HW.out, by rw [Int.toNat_natCast]; exact HYES.out, rfl⟩)), ?_, (B2.setCell (Nat.le_refl _) _).setCell (Nat.le_refl _) _⟩
        have o1 := out_store w2 w.heap.size (w.heap.size + 1) w.heap.size 0 (.int .i64 0) (Nat.le_refl _) (by omega)
        have o2 := out_store (w2.setCell ⟨w.heap.size, 0, none⟩ (.int .i64 0)) w.heap.size (w.heap.size + 1) w.heap.size 1 (.slice ao2 4 cap2) (Nat.le_refl _) (by omega)
        simp only [if_pos]
        rw [Int.toNat_natCast, Int.toNat_natCast]
        exact (HO.out.out (o1.trans o2) (.inr (by omega))).weaken (by omega) (by rw [(o1.trans o2).size]; exact Nat.le_refl _)
    · have HNW : Hid (¬ (0 ≤ want ∧ want ≤ (D : Int) + (S : Int) - 1)) := hw
      have CL := l1In_no want 0 ((D : Int) + (S : Int) - 1) (by omega) w1
      clear hlen h4 hw
      go_wp2_with fail
      refine CL.mono ?_
      rintro e0 w1' ⟨rfl, hw1⟩
      obtain rfl := hw1.symm
      clear CL
      go_wp2
      exact bodyPost_ret (v := bytesR 3 (.slice none 0 0)) (by simp [results, Try.results23, go_sem, bytesR, x0, x1]) rfl ⟨3, _, rfl, .inr (.inl ⟨HASK.out, HNW.out, rfl⟩), own_nil _ _ _ _, (B1.setCell (Nat.le_refl _) _).setCell (Nat.le_refl _) _⟩
  · have tx : (x != 0) = true := by simp [hx]
    have HX : Hid (x ≠ 0) := hx
    clear hx
    go_wp2
    exact bodyPost_ret (v := bytesR x (.slice none 0 0)) (by simp [results, Try.results23, go_sem, bytesR, x0, x1]) rfl ⟨x, _, rfl, .inl ⟨HASK.out, HX.out⟩, by rw [if_neg HX.out]; exact own_nil _ _ _ _, (B1.setCell (Nat.le_refl _) _).setCell (Nat.le_refl _) _⟩
end Go.Proofs.Ytoadjpacchhleai
