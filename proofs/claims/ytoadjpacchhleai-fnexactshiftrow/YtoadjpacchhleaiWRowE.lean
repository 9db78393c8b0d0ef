/- Walk of the specification's ShiftRow. -/
import Derived.Test.YtoadjpacchhleaiWRowD
namespace Go.Proofs.Ytoadjpacchhleai
open Go.RowKit F256
set_option linter.unusedVariables false
set_option linter.unusedSimpArgs false

/-- the answers of ShiftRow to R blocks and m bytes -/
def ShiftAns (d s : Int) (R : Nat) (n : Nat → Nat) (m : Nat) (x : Int) : Prop := (x = 3 ∧ ¬ Shp d s) ∨ (x = 1 ∧ Shp d s ∧ (¬ WholeP R n (d + s) ∨ (m : Int) ≠ d * 4)) ∨ (x = 0 ∧ Shp d s ∧ WholeP R n (d + s) ∧ (m : Int) = d * 4)
theorem ShiftAns.one {d s : Int} {R : Nat} {n : Nat → Nat} {m : Nat} {x y : Int} (h : ShiftAns d s R n m x) (k : ShiftAns d s R n m y) : x = y := by
  rcases h with ⟨rfl, h⟩ | ⟨rfl, h, h2⟩ | ⟨rfl, h, h2, h3⟩ <;> rcases k with ⟨rfl, k⟩ | ⟨rfl, k, k2⟩ | ⟨rfl, k, k2, k3⟩
  · rfl
  · exact absurd k h
  · exact absurd k h
  · exact absurd h k
  · rfl
  · rcases h2 with h2 | h2
    · exact absurd k2 h2
    · exact absurd k3 h2
  · exact absurd h k
  · rcases k2 with k2 | k2
    · exact absurd h2 k2
    · exact absurd h3 k2
  · rfl
theorem shift_ans (d s : Int) (R : Nat) (n : Nat → Nat) (m : Nat) : ∃ x, ShiftAns d s R n m x := by
  by_cases h : Shp d s
  · by_cases h2 : WholeP R n (d + s)
    · by_cases h3 : (m : Int) = d * 4
      · exact ⟨0, .inr (.inr ⟨rfl, h, h2, h3⟩)⟩
      · exact ⟨1, .inr (.inl ⟨rfl, h, .inr h3⟩)⟩
    · exact ⟨1, .inr (.inl ⟨rfl, h, .inl h2⟩)⟩
  · exact ⟨3, .inl ⟨rfl, h⟩⟩
/-- the shifted blocks -/
def shiftN (d : Nat) (f : Mat) (b : Nat → Nat) : Mat := fun i j => f i j ^^^ encN d b i j
theorem boolIs {P : Prop} {b : Bool} (h : b = true ↔ P) : (P → b = true) ∧ (¬ P → b = false) := ⟨h.mpr, fun hn => by cases b with | false => rfl | true => exact absurd (h.mp rfl) hn⟩

set_option maxHeartbeats 8000000 in
theorem specShift_any (d s : Int) (v vb : Value) (R : Nat) (n : Nat → Nat) (f : Mat) (m : Nat) (b : Nat → Nat) (l1 h1 l2 h2 : Nat) (w : World) (o1 : OwnM w l1 h1 v R n f) (rb : Own w l2 h2 vb m b) (hh : h1 ≤ w.heap.size) (hh2 : h2 ≤ w.heap.size) (kf : Byt f) (kb : ∀ i, b i < 256) :
    Calls Try.prog 25 #[.int .i64 d, .int .i64 s, v, vb] w fun ee w' => ∃ x v', ee = .returned (bytesR x v') ∧ ShiftAns d s R n m x ∧ OwnB w' w.heap.size w'.heap.size v' (if x = 0 then (d + s).toNat else 0) (fun _ => 4) (shiftN d.toNat f b) ∧ Below w.heap.size w w' := by
  obtain ⟨gA, cA, e, r1⟩ := o1
  obtain rfl := r1.val
  have hmR : R ≤ maxLen := by obtain ⟨_, _, _, _, h, _⟩ := r1.rd; exact h
  have hmm := rb.le
  unfold maxLen at hmR hmm
  obtain ⟨aob, capb, rfl⟩ := rb.slice
  have HA : Hid (OwnE w l1 h1 (.slice (some ⟨gA, 0, none⟩) R cA) R n f gA cA e) := r1
  have HB : Hid (Own w l2 h2 (.slice aob m capb) m b) := rb
  have hgw : gA < w.heap.size := by have := r1.high; omega
  have CW := fun (w1 : World) (b : Below w.heap.size w w1) (N : Int) => l2Whole_any _ R n f h1 N w1 (r1.rd.below b hh)
  have HCW : Hid (∀ (w1 : World), Below w.heap.size w w1 → ∀ (N : Int), Calls Try.prog 56 #[.slice (some ⟨gA, 0, none⟩) R cA, .int .i64 N] w1 (BoolP (WholeP R n N) w1)) := CW
  clear r1 rb CW
  go_enter Try.func25, Try.ntmps25
  go_wp2_with fail
  refine (l2Shape_any d s _).mono ?_
  rintro e0 w1 ⟨b1, rfl, hb1, b1'⟩
  have HS : Hid (b1 = true ↔ Shp d s) := hb1
  have B1 : Below w.heap.size w w1 := bnew b1'
  have X1 : Box w1 w.heap.size #[.int .i64 0, .slice none 0 0] 42 := (box_new w _ _).below b1' (by simp)
  have z1 : w.heap.size < w1.heap.size := X1.lt
  obtain ⟨x0, x1, y0, y1⟩ := res_cells X1
  clear hb1 b1'
  cases b1 with
  | false =>
    have HNO : Hid (¬ Shp d s) := fun h => by have := HS.out.mpr h; cases this
    clear HS
    go_wp2
    exact bodyPost_ret (v := bytesR 3 (.slice none 0 0)) (by simp [results, Try.results25, go_sem, bytesR, x0, x1]) rfl ⟨3, _, rfl, .inl ⟨rfl, HNO.out⟩, OwnB.none _ _ _ _ _, (B1.setCell (Nat.le_refl _) _).setCell (Nat.le_refl _) _⟩
  | true =>
    have hsh := HS.out.mp rfl
    have HSH : Hid (Shp d s) := hsh
    obtain ⟨q1, q2, q3, q4⟩ := hsh
    obtain ⟨D, rfl⟩ : ∃ D : Nat, d = D := ⟨d.toNat, by omega⟩
    obtain ⟨S, rfl⟩ : ∃ S : Nat, s = S := ⟨s.toNat, by omega⟩
    clear HS x0 x1 y0 y1
    go_wp2_with fail
    refine (HCW.out _ B1 _).mono ?_
    rintro e0 w2 ⟨b2, rfl, hb2, b2'⟩
    have HW : Hid (b2 = true ↔ WholeP R n ((D : Int) + (S : Int))) := hb2
    have B2 : Below w.heap.size w w2 := B1.trans (b2'.mono B1.size)
    have X2 : Box w2 w.heap.size #[.int .i64 0, .slice none 0 0] 42 := X1.below b2' z1
    have z2 : w.heap.size < w2.heap.size := X2.lt
    obtain ⟨x0, x1, y0, y1⟩ := res_cells X2
    clear hb2 b2' X1 B1 HCW z1
    cases b2 with
    | false =>
      have HNO : Hid (¬ WholeP R n ((D : Int) + (S : Int))) := fun h => by have := HW.out.mpr h; cases this
      clear HW
      go_wp2
      exact bodyPost_ret (v := bytesR 1 (.slice none 0 0)) (by simp [results, Try.results25, go_sem, bytesR, x0, x1]) rfl ⟨1, _, rfl, .inr (.inl ⟨rfl, HSH.out, .inl HNO.out⟩), OwnB.none _ _ _ _ _, (B2.setCell (Nat.le_refl _) _).setCell (Nat.le_refl _) _⟩
    | true =>
      have HWH : Hid (WholeP R n ((D : Int) + (S : Int))) := HW.out.mp rfl
      have hRD0 : R = D + S := by have := HWH.out.2; omega
      have HRD : Hid (R = D + S) := hRD0
      have hR5 : R ≤ 5 := by omega
      have hR1 : 1 ≤ R := by omega
      clear HW hRD0
      by_cases hlen : m = 4 * D
      · have tl : ((m : Int) != (D : Int) * 4) = false := by simp; omega
        have rb1 := (HB.out.below B2 hh2).rd
        rw [hlen] at rb1
        have C := l2Encode_any D S (by omega) (by omega) (by omega) (.slice aob (4 * D) capb) b h2 w2 rb1 (fun ao cap h => by
          cases h
          obtain ⟨g, cap, hv, _, _, _, hle⟩ := HB.out.form (by omega)
          cases hv
          omega) (Nat.le_trans hh2 B2.size) kb
        rw [← hlen] at C
        have HL : Hid (m = 4 * D) := hlen
        clear rb1 hlen x0 x1 y0 y1
        go_wp2_with fail
        refine C.mono ?_
        rintro e0 wM ⟨v4, rfl, om, b4⟩
        obtain ⟨gW, cW, eW, hW⟩ := om
        have hv := hW.val
        subst hv
        have HWW : Hid (OwnE wM w2.heap.size wM.heap.size (.slice (some ⟨gW, 0, none⟩) (D + S) cW) (D + S) (fun _ => 4) (encN D b) gW cW eW) := hW
        have hgW := hW.high
        have B4 : Below w.heap.size w wM := B2.trans (b4.mono B2.size)
        have X4 : Box wM w.heap.size #[.int .i64 0, .slice none 0 0] 42 := X2.below b4 z2
        have HB4 : Hid (Below w.heap.size w wM) := B4
        have HX4 : Hid (Box wM w.heap.size #[.int .i64 0, .slice none 0 0] 42) := X4
        have z4 := X4.lt
        have s4 := b4.size
        clear b4 C X2 X4 B4 B2 hW
        have zn : (wM.alloc (.cells #[.int .i64 0, .slice none 0 0] 42)).heap.size = wM.heap.size + 1 := by simp
        have BO0 : BldO (wM.alloc (.cells #[.int .i64 0, .slice none 0 0] 42)) (wM.heap.size + 1) (wM.alloc (.cells #[.int .i64 0, .slice none 0 0] 42)).heap.size (.slice none 0 0) 0 (fun _ => 4) (shiftN D f b) (fun _ => nilS) :=
          ⟨World.ownsRow_nil _ _ _ _, fun q hq => (by cases hq), fun i hi => by omega, fun i j hi => by omega, by rw [zn]; exact Nat.le_refl _, Nat.le_refl _⟩
        go_wp2
        go_loopw [11] (fun i wr => ∃ k : Nat, k ≤ R ∧ i = .int .i64 k ∧ ∃ u e2, Box wr wM.heap.size #[.int .i64 0, u] 42 ∧ BldO wr (wM.heap.size + 1) wr.heap.size u k (fun _ => 4) (shiftN D f b) e2 ∧ (k ≠ 0 → u ≠ nilS) ∧ Below wM.heap.size wM wr) (fun i _ => R - (intOf i).toNat)
        case atStart => exact ⟨0, Nat.zero_le _, rfl, _, _, box_new _ _ _, BO0, fun h => absurd rfl h, (Below.refl _ _).alloc (Nat.le_refl _) _⟩
        case round =>
          clear BO0 zn
          obtain ⟨k, hk, rfl, u, e2, hbx, hBO, hnn, hb⟩ := hrel
          obtain ⟨aou, capu, rfl⟩ := hBO.slice
          have HBX : Hid (Box wr wM.heap.size #[.int .i64 0, .slice aou k capu] 42) := hbx
          have HBO : Hid (BldO wr (wM.heap.size + 1) wr.heap.size (.slice aou k capu) k (fun _ => 4) (shiftN D f b) e2) := hBO
          have HBE : Hid (Below wM.heap.size wM wr) := hb
          have HNN : Hid (k ≠ 0 → Value.slice aou k capu ≠ nilS) := hnn
          have zr := hbx.lt
          have hB : Below w.heap.size w wr := HB4.out.trans (hb.mono (by omega))
          obtain ⟨d0, d1, f0, f1⟩ := res_cells hbx
          by_cases hlt : k < R
          · have c1 : wr.cell? ⟨gA, k, none⟩ = some (e k) := (hB.cell (p := ⟨gA, k, none⟩) hgw).trans (HA.out.cell k hlt)
            have c2 : wr.cell? ⟨gW, k, none⟩ = some (eW k) := (hb.cell (p := ⟨gW, k, none⟩) hgW).trans (HWW.out.cell k (by have := HRD.out; omega))
            have r1 := ((HA.out.each k hlt).below hB hh).rd
            have r2 := ((HWW.out.each k (by have := HRD.out; omega)).below hb (Nat.le_refl _)).rd
            rw [HWH.out.1 k hlt] at r1
            obtain ⟨x1, hx1⟩ : ∃ x, x = e k := ⟨_, rfl⟩
            obtain ⟨x2, hx2⟩ : ∃ x, x = eW k := ⟨_, rfl⟩
            rw [← hx1] at c1 r1
            rw [← hx2] at c2 r2
            have CA := fun q => l1Add_any x1 x2 4 (f k) (encN D b k) (shiftN D f b k) h1 wM.heap.size (wr.drewN q) r1 r2 (by have := hB.size; show h1 ≤ wr.heap.size; omega) (by show wM.heap.size ≤ wr.heap.size; omega) (kf k) (encN_byt kb k) (fun _ _ => rfl) (by omega)
            obtain ⟨ao1, cap1, hq1, _, _⟩ := r1
            obtain ⟨ao2, cap2, hq2, _, _⟩ := r2
            subst hq1
            subst hq2
            have HCA : Hid (∀ q, Calls Try.prog 58 #[.slice ao1 4 cap1, .slice ao2 4 cap2] (wr.drewN q) fun e w' => ∃ v', e = .returned v' ∧ Own w' (wr.drewN q).heap.size w'.heap.size v' 4 (shiftN D f b k) ∧ Below (wr.drewN q).heap.size (wr.drewN q) w') := CA
            have t4s : (k : Int) < (D : Int) + (S : Int) := by have := HRD.out; omega
            clear hx1 hx2 hb hB CA hbx hBO hnn d0 f0
            go_wp2
            go_region_law (first | (refine step_call rfl 58 _ _ rfl #[.slice ao1 4 cap1, .slice ao2 4 cap2] ?_ Try.func58 (by kernel_rfl) (by kernel_rfl) (HCA.out _) ?_; (simp [Act.eval, Act.put]); rintro ee w5 ⟨v5, rfl, o5, b5⟩; obtain ⟨ao5, cap5, rfl⟩ := o5.slice; replace b5 : Below wr.heap.size wr w5 := undrewD b5; have X5 : Box w5 wM.heap.size #[.int .i64 0, .slice aou k capu] 42 := HBX.out.below b5 zr; have q1 := (res_cells X5).2.1; have q3 := (cell_alloc_old w5 (.cells #[.slice ao5 4 cap5] 23) wM.heap.size 1 (by have := b5.size; omega)).trans q1; refine ⟨_, rfl, ?_⟩) | (refine step_appendM rfl (.tmp 43) (.tmp 53) rfl (wM.heap.size + 1) (.slice aou k capu) k e2 ?_ ?_ w5.heap.size 1 (.slice ao5 4 cap5) ?_ ?_ rfl (by omega) ?_ ?_; (simp [Act.eval, Act.put]); exact (row_kept HBO.out.row fun b hb' => b5.block b (HBO.out.row.lt b hb').2).alloc _; (simp [Act.eval, Act.put]); simp; (simp; have := b5.size; omega); intro v4 w4 hr4 hg4 hn4; obtain ⟨ao4, cap4, rfl⟩ := row_slice hr4; have X6 : Box w4 wM.heap.size #[.int .i64 0, .slice aou k capu] 42 := (hg4.block wM.heap.size (by simp; have := b5.size; omega) (fun hhh => by have := (HBO.out.row.lt _ hhh.symm).1; omega)).trans ((Below.heap_alloc w5 _ wM.heap.size (by have := b5.size; omega)).trans X5); have p1 := (res_cells X6).2.1; have p2 := (res_cells X6).2.2.2))
            all_goals
              have s5 := b5.size
              have s6 : w5.heap.size + 1 ≤ w4.heap.size := by have := hg4.size; simpa using this
              have NX := (HBO.out.kept (w2 := w5) (fun q _ h2 => b5.block q h2) s5).next (n' := fun _ => 4) (f' := shiftN D f b) o5 (Nat.le_refl _) (fun _ _ => rfl) (fun _ _ => rfl) hr4 hg4
              have zs : (w4.setCell ⟨wM.heap.size, 1, none⟩ (.slice ao4 (k + 1) cap4)).heap.size = w4.heap.size := by simp
              have NX2 := NX.kept (w2 := w4.setCell ⟨wM.heap.size, 1, none⟩ (.slice ao4 (k + 1) cap4)) (fun q h1 _ => heap_setCell_other w4 ⟨wM.heap.size, 1, none⟩ q _ (by show q ≠ wM.heap.size; omega)) (Nat.le_of_eq zs.symm)
              rw [← zs] at NX2
              have BX : Box (w4.setCell ⟨wM.heap.size, 1, none⟩ (.slice ao4 (k + 1) cap4)) wM.heap.size #[.int .i64 0, .slice ao4 (k + 1) cap4] 42 := heap_setCell_same w4 wM.heap.size 1 _ _ _ X6
              have BE : Below wM.heap.size wM (w4.setCell ⟨wM.heap.size, 1, none⟩ (.slice ao4 (k + 1) cap4)) := ((HBE.out.trans (b5.mono (by omega))).trans (((Below.refl wM.heap.size w5).alloc (by omega) _).grown hg4 (by simp; omega) (fun q hq => by have := (HBO.out.row.lt q hq).1; omega))).setCell (Nat.le_refl _) _
              clear NX X6 X5 hr4 hg4 o5 b5 p1 p2 q1 q3 HCA HBO HBX HBE c1 c2 d1 f1 zs
              go_wp2
              go_roundw
              case rel => exact ⟨k + 1, by omega, by go_num, _, _, BX, NX2, fun _ => hn4, BE⟩
              case measure => simp [intOf]; omega
          · obtain rfl : k = R := by omega
            obtain ⟨g9, c9, hE9⟩ := HBO.out.done (HNN.out (by omega))
            have HE9 : Hid (OwnE wr (wM.heap.size + 1) wr.heap.size (.slice aou k capu) k (fun _ => 4) (shiftN D f b) g9 c9 e2) := hE9
            have XR : Box wr w.heap.size #[.int .i64 0, .slice none 0 0] 42 := HX4.out.below hb z4
            obtain ⟨x0, x1, y0, y1⟩ := res_cells XR
            clear hE9 hBO hbx hnn hb XR HBO HBX HBE
            go_wp2
            refine bodyPost_ret (v := bytesR 0 (.slice aou k capu)) (by simp [results, Try.results25, go_sem, bytesR, x0, x1]) rfl ⟨0, _, rfl, .inr (.inr ⟨rfl, HSH.out, HWH.out, by have := HL.out; omega⟩), ?_, (hB.setCell (Nat.le_refl _) _).setCell (Nat.le_refl _) _⟩
            have o1 := out_store wr w.heap.size (w.heap.size + 1) w.heap.size 0 (.int .i64 0) (Nat.le_refl _) (by omega)
            have o2 := out_store (wr.setCell ⟨w.heap.size, 0, none⟩ (.int .i64 0)) w.heap.size (w.heap.size + 1) w.heap.size 1 (.slice aou k capu) (Nat.le_refl _) (by omega)
            simp only [if_pos]
            have e1 : ((D : Int) + (S : Int)).toNat = k := by have := HRD.out; omega
            rw [e1, Int.toNat_natCast]
            have OM : OwnM wr (wM.heap.size + 1) wr.heap.size (.slice aou k capu) k (fun _ => 4) (shiftN D f b) := ⟨_, _, _, HE9.out⟩
            exact .inr ((OM.out (o1.trans o2) (.inr (by omega))).weaken (by omega) (by rw [(o1.trans o2).size]; exact Nat.le_refl _))
      · have tl : ((m : Int) != (D : Int) * 4) = true := by simp; omega
        have HNE : Hid ((m : Int) ≠ (D : Int) * 4) := by show (m : Int) ≠ (D : Int) * 4; omega
        clear hlen
        go_wp2
        exact bodyPost_ret (v := bytesR 1 (.slice none 0 0)) (by simp [results, Try.results25, go_sem, bytesR, x0, x1]) rfl ⟨1, _, rfl, .inr (.inl ⟨rfl, HSH.out, .inr HNE.out⟩), OwnB.none _ _ _ _ _, (B2.setCell (Nat.le_refl _) _).setCell (Nat.le_refl _) _⟩
end Go.Proofs.Ytoadjpacchhleai
