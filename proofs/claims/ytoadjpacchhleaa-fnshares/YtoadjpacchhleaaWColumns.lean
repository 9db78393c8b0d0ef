/- Walk of the law FnColumns, over what EncodeColumn, ColumnFits and DecodeColumn answer. -/
import Derived.Test.YtoadjpacchhleaaWDrawD
import Derived.Test.YtoadjpacchhleaaWAppendR
import Derived.Test.YtoadjpacchhleaaColBack
import Derived.Test.YtoadjpacchhleaaWColB
namespace Go.Proofs.Ytoadjpacchhleaa
open Go.RowKit F256
set_option linter.unusedVariables false
set_option linter.unusedSimpArgs false

/-- rows that can be read, also behind what leaves the blocks from lo on -/
def KeepM (lo : Nat) (w : World) (v : Value) (m : Nat) (n : Nat → Nat) (f : Mat) : Prop :=
  ∃ ao cap e, v = .slice ao m cap ∧ m ≤ maxLen ∧ RowsAt w ao m e ∧ (m ≠ 0 → ∃ b off, ao = some ⟨b, off, none⟩ ∧ b < w.heap.size) ∧ ∀ w'' : World, (∀ b, lo ≤ b → b < w.heap.size → w''.heap[b]? = w.heap[b]?) → ∀ i, i < m → Rd w'' w.heap.size (e i) (n i) (f i)
theorem KeepM.rd {lo : Nat} {w : World} {v : Value} {m : Nat} {n : Nat → Nat} {f : Mat} (h : KeepM lo w v m n f) : RdM w w.heap.size v m n f := by
  obtain ⟨ao, cap, e, rfl, hm, h1, h2, h3⟩ := h
  refine ⟨ao, cap, e, rfl, hm, fun h0 => ?_, h3 w (fun _ _ _ => rfl)⟩
  obtain ⟨b, off, h4, h5⟩ := h1.1 h0
  obtain ⟨b', off', h6, h7⟩ := h2 h0
  rw [h4] at h6
  cases h6
  exact ⟨b, off, h4, h7, h5⟩
/-- what the program's EncodeColumn answers -/
def EncCok : Prop := ∀ (v : Value) (R : Nat) (n : Nat → Nat) (f : Mat) (c : Int) (h1 : Nat) (w : World), RdM w h1 v R n f → h1 ≤ w.heap.size → Byt f → -9223372036854775808 ≤ c ∧ c ≤ 9223372036854775807 →
  Calls Try.prog 29 #[v, .int .i64 c] w fun ee w' => ∃ x v', ee = .returned (bytesR x v') ∧ CeAns R n c x ∧ KeepM w.heap.size w' v' (if x = 0 then c.toNat else 0) (fun _ => n 0) (parN R f) ∧ Below w.heap.size w w'
def FitsCok : Prop := ∀ (v : Value) (R : Nat) (n : Nat → Nat) (f : Mat) (c : Int) (h1 : Nat) (w : World), RdM w h1 v R n f → (∃ ao cap, v = .slice ao R cap ∧ R ≤ cap) → h1 ≤ w.heap.size → Byt f → -9223372036854775808 ≤ c ∧ c ≤ 9223372036854775807 → n 0 ≤ 1000000 → R ≤ 1000000 →
  Calls Try.prog 31 #[v, .int .i64 c] w (BoolP (CfP R n f c) w)
def DecCok : Prop := ∀ (g c : Int) (v : Value) (R : Nat) (n : Nat → Nat) (f : Mat) (h1 : Nat) (w : World), RdM w h1 v R n f → h1 ≤ w.heap.size → Byt f →
  Calls Try.prog 32 #[.int .i64 g, .int .i64 c, v] w fun ee w' => ∃ x v', ee = .returned (bytesR x v') ∧ DcAns g c R n x ∧ RdM w' w'.heap.size v' (if x = 0 then R else 0) (fun _ => n (nthN n R 0)) (colN g.toNat n R f) ∧ Below w.heap.size w w'

theorem fieldL0 (a : Int) (v : Value) (w : World) : (Instr.field 53 (.agg #[.int .i64 a, v]) 0).run Try.prog w = .ok (.int .i64 a) w := by kernel_rfl
theorem undrewX {B : Nat} {w w2 : World} {m : Nat} (h : Below B (w.drewN m) w2) : Below B w w2 := ⟨h.os, h.tape, h.output, h.size, h.block⟩
theorem RdM.slice {w : World} {hi : Nat} {v : Value} {R : Nat} {n : Nat → Nat} {f : Mat} (h : RdM w hi v R n f) : ∃ ao cap, v = .slice ao R cap := by
  obtain ⟨ao, cap, _, h, _⟩ := h
  exact ⟨ao, cap, h⟩
/-- rows of N bytes, some of which are struck out -/
theorem rdm_lessC {w : World} {g R cap h1 N : Nat} {n : Nat → Nat} {f : Mat} {e : Nat → Value} (hR : R ≤ 1000) (hg : g < w.heap.size) (hh : h1 ≤ w.heap.size) (hrow : ∀ i, i < R → w.cell? ⟨g, i, none⟩ = some (if n i = 0 then nilS else e i)) (he : ∀ i, i < R → Rd w h1 (e i) N (f i)) (h4 : ∀ i, i < R → n i = 0 ∨ n i = N) :
    RdM w w.heap.size (.slice (some ⟨g, 0, none⟩) R cap) R n f :=
  ⟨_, _, fun i => if n i = 0 then nilS else e i, rfl, by unfold maxLen; omega, fun _ => ⟨g, 0, rfl, hg, fun i hi => by rw [Nat.zero_add]; exact hrow i hi⟩, fun i hi => by
    show Rd w w.heap.size (if n i = 0 then nilS else e i) (n i) (f i)
    by_cases c : n i = 0
    · rw [if_pos c, c]
      exact ⟨_, _, rfl, Nat.zero_le _, fun h => absurd rfl h⟩
    · rw [if_neg c]
      rcases h4 i hi with h | h
      · exact absurd h c
      · rw [h]; exact (he i hi).mono hh⟩
/-- a slice of slices of the call's own that is not empty -/
theorem row_form {w : World} {lo : Nat} {v : Value} {R : Nat} {e : Nat → Value} (h : w.ownsRow lo 22 1 v R (valsOf R e)) (h0 : R ≠ 0) : ∃ g cap, v = .slice (some ⟨g, 0, none⟩) R cap ∧ lo ≤ g ∧ g < w.heap.size := by
  rcases h.2 with ⟨_, h2⟩ | ⟨g, cap, cur, h1, h2, h3, _⟩
  · exact absurd h2 h0
  · exact ⟨g, cap, h1, h2, (Array.getElem?_eq_some_iff.1 h3).1⟩

theorem row_cap {w : World} {lo g R cap : Nat} {xs : List Value} (h : w.ownsRow lo 22 1 (.slice (some ⟨g, 0, none⟩) R cap) R xs) : R ≤ cap := by
  rcases h.2 with ⟨h1, _⟩ | ⟨g', cap', cur, h1, _, _, hnc, _⟩
  · cases h1
  · cases h1; exact hnc
/-- what grows behind an empty literal leaves all else -/
theorem below_lit {w3 wx w4 : World} {o : Obj} (hg : wx.grownBy w4 (some w3.heap.size)) (h1 : wx.heap = (w3.alloc o).heap) (h2 : wx.os = w3.os) (h3 : wx.tape = w3.tape) (h4 : wx.output = w3.output) : Below w3.heap.size w3 w4 := by
  have hz : wx.heap.size = w3.heap.size + 1 := by rw [h1]; simp
  refine ⟨hg.os.trans h2, hg.tape.trans h3, hg.output.trans h4, by have := hg.size; omega, fun k hk => (hg.block k (by omega) (by simp; omega)).trans ?_⟩
  rw [h1]
  exact Below.heap_alloc w3 o k hk

set_option maxHeartbeats 8000000 in
theorem fnColumns_over (HEC : EncCok) (HFC : FitsCok) (HDC : DecCok) (v : Value) (n0 : Nat) (f0 : Nat → Nat) (k0 : ∀ i, f0 i < 256) (w : World) (r0 : Rd w w.heap.size v n0 f0) :
    Calls Try.prog 7 #[v] w fun e w' => e = .returned (.bool true) ∧ Below w.heap.size w w' := by
  by_cases hbig : 1048576 < n0
  · go_enter Try.func7, Try.ntmps7
    go_wp2_with fail
    refine (lwBig_yes _ n0 f0 _ _ r0 hbig).mono ?_
    rintro e w1 ⟨rfl, hw1⟩
    obtain rfl := hw1.symm
    go_wp2
    go_ret
    exact ⟨rfl, Below.refl _ _⟩
  have HR0 : Hid (Rd w w.heap.size v n0 f0) := r0
  have HK0 : Hid (∀ i, f0 i < 256) := k0
  have HD : Hid DecCok := HDC
  have HF : Hid FitsCok := HFC
  go_enter Try.func7, Try.ntmps7
  go_wp2_with fail
  refine (lwBig_no _ n0 f0 _ _ r0 (by omega)).mono ?_
  rintro e w1 ⟨rfl, hw1⟩
  obtain rfl := hw1.symm
  go_wp2_with fail
  refine (drawCol_any _ n0 f0 _ r0 k0 (by omega)).mono ?_
  rintro e w1 ⟨vl, R, nn, ff, b, rfl, ol, kff, hR, hnn, hb1, hb2, b1⟩
  have hrl := ol.rd
  obtain ⟨aol, capl, rfl⟩ := hrl.slice
  have HRL : Hid (RdM w1 w1.heap.size (.slice aol R capl) R nn ff) := hrl
  have HKF : Hid (Byt ff) := kff
  have HNN : Hid (∀ i, nn i ≤ 4001) := hnn
  have CE := HEC _ R nn ff b _ w1 hrl (Nat.le_refl _) kff ⟨by omega, by omega⟩
  clear r0 k0 ol hrl kff hnn HEC HFC HDC
  go_wp2_with fail
  refine CE.mono ?_
  rintro e w2 ⟨x, vr, rfl, hans, ok, b2⟩
  have og := ok.rd
  clear ok
  have HA : Hid (CeAns R nn b x) := hans
  obtain ⟨nb, hnb⟩ : ∃ nb, nb = (if x = 0 then b.toNat else 0) := ⟨_, rfl⟩
  rw [← hnb] at og
  obtain ⟨aor, capr, rfl⟩ := og.slice
  have HG : Hid (RdM w2 w2.heap.size (.slice aor nb capr) nb (fun _ => nn 0) (parN R ff)) := og
  have HNB : Hid (nb = (if x = 0 then b.toNat else 0)) := hnb
  have HB1 : Hid (Below w.heap.size w w1) := b1
  have HB2 : Hid (Below w1.heap.size w1 w2) := b2
  have s1 := b1.size
  have s2 := b2.size
  unfold bytesR
  clear CE hans og hnb b1 b2
  by_cases hx : x = 0
  · subst hx
    have hfacts : Shp3 (R : Int) b ∧ EvenP R nn ∧ nn 0 ≤ 4000 := by
      rcases HA.out with ⟨h, _⟩ | ⟨h, _⟩ | ⟨h, _⟩ | ⟨_, h1, h2, h3⟩
      · omega
      · omega
      · omega
      · exact ⟨h1, h2, h3⟩
    obtain ⟨hsh, hev, hN4⟩ := hfacts
    obtain ⟨q1, q2, q3, q4⟩ := hsh
    obtain ⟨c, rfl⟩ : ∃ c : Nat, b = c := ⟨b.toNat, by omega⟩
    have HSH : Hid (Shp3 (R : Int) (c : Int)) := ⟨q1, q2, q3, q4⟩
    obtain rfl : nb = c := by rw [HNB.out]; simp
    obtain ⟨N, hN⟩ : ∃ N, N = nn 0 := ⟨_, rfl⟩
    rw [← hN] at HG hN4
    have hevN : ∀ i, i < R → nn i = N := fun i hi => (hev i hi).trans hN.symm
    obtain ⟨el, hrl1, hrl2, hrl3⟩ := HRL.out.rowsAt
    obtain ⟨ep, hrp1, hrp2, hrp3⟩ := HG.out.rowsAt
    obtain ⟨bl, offl, haol, hbl⟩ := hrl2 (by omega)
    subst haol
    -- the lists of the column, one behind the other
    obtain ⟨ea, hea⟩ : ∃ ea : Nat → Value, ea = fun i => if i < R then el i else ep (i - R) := ⟨_, rfl⟩
    have ea1 : ∀ i, i < R → ea i = el i := fun i hi => by rw [hea]; simp [hi]
    have ea2 : ∀ i, i < nb → ea (R + i) = ep i := fun i hi => by
      rw [hea]
      show (if R + i < R then el (R + i) else ep (R + i - R)) = ep i
      rw [if_neg (by omega), show R + i - R = i by omega]
    have RL1 : RowsAt w1 (some ⟨bl, offl, none⟩) R fun i => ea (0 + i) := hrl1.shift (fun i hi => by rw [Nat.zero_add]; exact ea1 i hi)
    have RP2 : RowsAt w2 aor nb fun i => ea (R + i) := hrp1.shift ea2
    have EA : ∀ i, i < R + nb → Rd w2 w2.heap.size (ea i) N (allN R ff i) := fun i hi => by
      by_cases c : i < R
      · rw [ea1 i c]
        have := (hrl3 i c).below HB2.out (Nat.le_refl _)
        rw [hevN i c] at this
        unfold allN
        rw [if_pos c]
        exact this.mono s2
      · have := hrp3 (i - R) (by omega)
        rw [← ea2 (i - R) (by omega), show R + (i - R) = i by omega] at this
        unfold allN
        rw [if_neg c]
        exact this
    have HEA : Hid (∀ i, i < R + nb → Rd w2 w2.heap.size (ea i) N (allN R ff i)) := EA
    have H0 : Hid (nn 0 = N) := hN.symm
    have cl0 : w1.cell? ⟨bl, offl, none⟩ = some (el 0) := by
      obtain ⟨b', o', h1, h2⟩ := hrl1.1 (by omega)
      cases h1
      exact h2 0 (by omega)
    obtain ⟨ao0, cap0, hs0⟩ : ∃ ao cap, el 0 = .slice ao N cap := by
      obtain ⟨a1, a2, a3, _⟩ := hrl3 0 (by omega)
      rw [hevN 0 (by omega)] at a3
      exact ⟨a1, a2, a3⟩
    rw [hs0] at cl0
    have bx : Below w2.heap.size w2 (w2.alloc (.cells #[.int .i64 0, .slice aor nb capr] 53)) := (Below.refl _ _).alloc (Nat.le_refl _) _
    have X3 : Box (w2.alloc (.cells #[.int .i64 0, .slice aor nb capr] 53)) w2.heap.size #[.int .i64 0, .slice aor nb capr] 53 := box_new _ _ _
    obtain ⟨w3, hw3⟩ : ∃ w3, w3 = w2.alloc (.cells #[.int .i64 0, .slice aor nb capr] 53) := ⟨_, rfl⟩
    rw [← hw3] at bx X3
    have HZ3 : Hid (w2.heap.size + 1 = w3.heap.size) := by show w2.heap.size + 1 = w3.heap.size; rw [hw3]; simp
    have z3 : w2.heap.size < w3.heap.size := X3.lt
    have HX3 : Hid (Box w3 w2.heap.size #[.int .i64 0, .slice aor nb capr] 53) := X3
    have HB3 : Hid (Below w2.heap.size w2 w3) := bx
    have b13 : Below w1.heap.size w1 w3 := HB2.out.trans (bx.mono s2)
    have L3 : RowsAt w3 (some ⟨bl, offl, none⟩) R fun i => ea (0 + i) := RL1.below b13 (fun _ => ⟨bl, offl, rfl, hbl⟩)
    have P3 : RowsAt w3 aor nb fun i => ea (R + i) := RP2.below bx hrp2
    have HP2 : Hid (nb ≠ 0 → ∃ b off, aor = some ⟨b, off, none⟩ ∧ b < w2.heap.size) := hrp2
    have HL3 : Hid (RowsAt w3 (some ⟨bl, offl, none⟩) R fun i => ea (0 + i)) := L3
    have HP3 : Hid (RowsAt w3 aor nb fun i => ea (R + i)) := P3
    have hbl2 : bl < w2.heap.size := by omega
    have HL4 : Hid (RowsAt (w3.alloc (.cells #[] 22)) (some ⟨bl, offl, none⟩) R fun i => ea (0 + i)) := L3.below (B := w3.heap.size) ((Below.refl w3.heap.size w3).alloc (Nat.le_refl _) _) (fun _ => ⟨bl, offl, rfl, by omega⟩)
    clear hrl1 hrl2 hrl3 hrp1 hrp2 hrp3 ea1 ea2 hea RL1 RP2 EA hev hevN hN HNB HA bx X3 b13 L3 P3 hs0
    obtain ⟨x0, x1, -, -⟩ := res_cells HX3.out
    go_wp2
    rw [← hw3]
    clear hw3
    go_region_law (first | (refine step_appendRowsG rfl (.tmp 32) (.tmp 33) rfl w3.heap.size (.slice (some ⟨w3.heap.size, 0, none⟩) 0 0) 0 ea ?_ ?_ (some ⟨bl, offl, none⟩) R capl ?_ ?_ (by omega) ?_ ?_; (simp [Act.eval, Act.put]); exact World.ownsRow_lit (base := w3.heap.size) (e := 22) (size := 1) w3 #[] 0 (Nat.le_refl _) (Nat.zero_le _) rfl; (simp [Act.eval, Act.put]); exact HL4.out; (simp); intro v4 w4 hr4 hg4; have b4 : Below w3.heap.size w3 w4 := below_lit (o := .cells #[] 22) hg4 rfl rfl rfl rfl; have y1 : w4.cell? ⟨w2.heap.size, 1, none⟩ = some (.slice aor nb capr) := (HX3.out.below b4 z3).cell 1; simp only [Nat.zero_add] at hr4) | (refine step_appendRowsG rfl (.tmp 34) (.tmp 36) rfl w3.heap.size v4 R ea ?_ ?_ aor nb capr ?_ ?_ (by omega) ?_ ?_; (simp [Act.eval, Act.put]); exact hr4; (simp [Act.eval, Act.put]); exact HP3.out.below b4 (fun h0 => by obtain ⟨q1, q2, q3, q4⟩ := HP2.out h0; exact ⟨q1, q2, q3, by omega⟩); exact b4.size; intro v5 w5 hr5 hg5))
    all_goals
      have B5 : Below w3.heap.size w3 w5 := b4.grown hg5 b4.size (fun k hk => (hr4.lt k hk).1)
      obtain ⟨g5, cap5, hv5, hg51, hg52⟩ := row_form hr5 (by omega)
      subst hv5
      have b25 : Below w2.heap.size w2 w5 := HB3.out.trans (B5.mono (by omega))
      have RA : RdM w5 w5.heap.size (.slice (some ⟨g5, 0, none⟩) (R + nb) cap5) (R + nb) (fun _ => N) (allN R ff) := ⟨_, _, ea, rfl, by unfold maxLen; omega, fun _ => ⟨g5, 0, rfl, hg52, fun i hi => by rw [Nat.zero_add]; exact (hr5.cellAt i (by omega)).trans (valsOf_get _ _ _ hi)⟩, fun i hi => ((HEA.out i hi).below b25 (Nat.le_refl _)).mono (by omega)⟩
      have CF := HF.out _ (R + nb) (fun _ => N) (allN R ff) nb w5.heap.size w5 RA ⟨_, _, rfl, row_cap hr5⟩ (Nat.le_refl _) (allN_byt HKF.out) ⟨by omega, by omega⟩ (by omega) (by omega)
      have HR5 : Hid (w5.ownsRow w3.heap.size 22 1 (.slice (some ⟨g5, 0, none⟩) (R + nb) cap5) (R + nb) (valsOf (R + nb) ea)) := hr5
      have HB5 : Hid (Below w3.heap.size w3 w5) := B5
      have s5 := B5.size
      clear x0 x1 y1 hr4 hg4 b4 hr5 hg5 b25 RA B5
      go_wp2_with fail
      refine CF.mono ?_
      rintro e w6 ⟨bb, rfl, hbb, b6⟩
      obtain rfl : bb = true := hbb.mpr (fits_col HSH.out)
      have B36 : Below w3.heap.size w3 w6 := HB5.out.trans (b6.mono s5)
      have HB36 : Hid (Below w3.heap.size w3 w6) := B36
      have HB56 : Hid (Below w5.heap.size w5 w6) := b6
      have s6 := b6.size
      have HX6 : Hid (Box w6 w2.heap.size #[.int .i64 0, .slice aor nb capr] 53) := HX3.out.below B36 z3
      obtain ⟨x0, x1, -, -⟩ := res_cells HX6.out
      have b16 : Below w1.heap.size w1 w6 := HB2.out.trans ((HB3.out.mono s2).trans (B36.mono (by omega)))
      have c0 : w6.cell? ⟨bl, offl, none⟩ = some (.slice ao0 N cap0) := (b16.cell (p := ⟨bl, offl, none⟩) hbl).trans cl0
      have BW6 : Below w.heap.size w w6 := HB1.out.trans (b16.mono s1)
      have HBW6 : Hid (Below w.heap.size w w6) := BW6
      have hRi : (0 : Int) < (R : Int) := by omega
      have tl : ((nb : Int) != (nb : Int)) = false := by simp
      clear CF hbb b6 B36 b16 BW6
      by_cases hN0 : N = 0
      · have tN : ((N : Int) == 0) = true := by simp; omega
        have HBF : Hid (Below w.heap.size w w6) := HBW6.out
        go_wp2
        go_ret
        exact ⟨rfl, HBF.out⟩
      · have tN : ((N : Int) == 0) = false := by simp; omega
        have row6 : w6.ownsRow w3.heap.size 22 1 (.slice (some ⟨g5, 0, none⟩) (R + nb) cap5) (R + nb) (valsOf (R + nb) ea) := row_kept HR5.out fun q hq => HB56.out.block q (HR5.out.lt q hq).2
        have hg56 : g5 < w6.heap.size := by omega
        have HLA6 : Hid (RowsAt (w6.alloc (.cells #[] 22)) (some ⟨g5, 0, none⟩) (R + nb) fun i => ea (0 + i)) := ⟨fun _ => ⟨g5, 0, rfl, fun i hi => by
            simp only [Nat.zero_add]
            exact (cell_alloc_old w6 _ g5 i hg56).trans ((row6.cellAt i (by omega)).trans (valsOf_get _ _ _ hi))⟩, fun i hi => by
            simp only [Nat.zero_add]
            obtain ⟨a1, a2, a3, _⟩ := HEA.out i hi
            rw [a3]
            rfl⟩
        have HROW6 : Hid (w6.ownsRow w3.heap.size 22 1 (.slice (some ⟨g5, 0, none⟩) (R + nb) cap5) (R + nb) (valsOf (R + nb) ea)) := row6
        clear row6
        go_wp2_with (at_builtin; refine wp_appendRowsG rfl (.tmp 56) (.tmp 57) rfl w6.heap.size (.slice (some ⟨w6.heap.size, 0, none⟩) 0 0) 0 ea ?_ ?_ (some ⟨g5, 0, none⟩) (R + nb) cap5 ?_ ?_ (by omega) ?_ ?_; (simp [Act.eval]); exact World.ownsRow_lit (base := w6.heap.size) (e := 22) (size := 1) w6 #[] 0 (Nat.le_refl _) (Nat.zero_le _) rfl; (simp [Act.eval]); exact HLA6.out; simp; intro v7 w7 hr7 hg7)
        simp only [Nat.zero_add] at hr7
        have B7 : Below w6.heap.size w6 w7 := below_lit (o := .cells #[] 22) hg7 rfl rfl rfl rfl
        obtain ⟨g7, cap7, hv7, hg71, hg72⟩ := row_form hr7 (by omega)
        subst hv7
        have s7 := B7.size
        have hr7' : w7.ownsRow w6.heap.size 22 1 (.slice (some ⟨g7, 0, none⟩) (R + nb) cap7) (R + nb) (valsOf (R + nb) fun i => if (fun _ => N : Nat → Nat) i = 0 then nilS else ea i) := by
          rw [valsOf_eq (g := ea) (fun i _ => by simp [hN0])]
          exact hr7
        clear hr7 hg7 x0 x1 c0
        go_loopw [9] (fun j wr => ∃ k : Nat, k ≤ nb ∧ j = .int .i64 k ∧ ∃ n' : Nat → Nat, (∀ i, i < R + nb → n' i = 0 ∨ n' i = N) ∧ R + nb ≤ cntN n' (R + nb) + k ∧ wr.ownsRow w6.heap.size 22 1 (.slice (some ⟨g7, 0, none⟩) (R + nb) cap7) (R + nb) (valsOf (R + nb) fun i => if n' i = 0 then nilS else ea i) ∧ Below w6.heap.size w6 wr ∧ w7.heap.size ≤ wr.heap.size) (fun j _ => nb - (intOf j).toNat)
        case atStart => exact ⟨0, Nat.zero_le _, rfl, fun _ => N, fun _ _ => .inr rfl, by rw [cntN_allC (fun _ _ => hN0)]; exact Nat.le_refl _, hr7', B7, Nat.le_refl _⟩
        case round =>
          clear hr7' B7
          obtain ⟨k, hk, rfl, n', hn4, hcnt, hrow, hbel, hsz⟩ := hrel
          by_cases hlt : k < nb
          · have bw : Below w.heap.size w wr := HBW6.out.trans (hbel.mono HBW6.out.size)
            have CL := lwAt_any _ n0 f0 (k + 5) (R + nb) (by omega) (by omega) (by omega) w.heap.size wr (HR0.out.below bw (Nat.le_refl _)) HK0.out (by omega)
            have e1 : ((k + 5 : Nat) : Int) = (k : Int) + 5 := by simp
            have e2 : ((R + nb : Nat) : Int) = (R : Int) + (nb : Int) := by simp
            rw [e1, e2] at CL
            have HN4 : Hid (∀ i, i < R + nb → n' i = 0 ∨ n' i = N) := hn4
            have HCN : Hid (R + nb ≤ cntN n' (R + nb) + k) := hcnt
            have HROW : Hid (wr.ownsRow w6.heap.size 22 1 (.slice (some ⟨g7, 0, none⟩) (R + nb) cap7) (R + nb) (valsOf (R + nb) fun i => if n' i = 0 then nilS else ea i)) := hrow
            have HBL : Hid (Below w6.heap.size w6 wr) := hbel
            clear hn4 hcnt hrow hbel bw e1 e2
            go_wp2_with fail
            refine CL.mono ?_
            rintro e w8 ⟨r, hr, rfl, b8⟩
            have row8 : w8.ownsRow w6.heap.size 22 1 (.slice (some ⟨g7, 0, none⟩) (R + nb) cap7) (R + nb) (valsOf (R + nb) fun i => if n' i = 0 then nilS else ea i) := row_kept HROW.out fun q hq => b8.block q ((HROW.out.lt q hq).2)
            have c8 := (row8.cellAt r (by omega)).trans (valsOf_get _ _ _ hr)
            have z8 := row8.frozenAt r
            obtain ⟨u8, hu8⟩ : ∃ u, u = (if n' r = 0 then nilS else ea r) := ⟨_, rfl⟩
            rw [← hu8] at c8
            have hst := (row8.stored r nilS).1
            rw [valsOf_set (R + nb) _ (fun i => if lessC n' r i = 0 then nilS else ea i) r nilS hr (fun i hi => by
              unfold lessC
              by_cases c : i = r
              · simp [c]
              · simp [c])] at hst
            have N4 : ∀ i, i < R + nb → lessC n' r i = 0 ∨ lessC n' r i = N := fun i hi => by
              unfold lessC
              by_cases c : i = r
              · left; rw [if_pos c]
              · rw [if_neg c]; exact HN4.out i hi
            have NC : R + nb ≤ cntN (lessC n' r) (R + nb) + (k + 1) := by
              have h1 := cnt_lessC n' r (R + nb)
              have h2 := HCN.out
              have h3 : (if r < R + nb then 1 else 0 : Nat) ≤ 1 := by split <;> omega
              omega
            have NB : Below w6.heap.size w6 (w8.setCell ⟨g7, r, none⟩ nilS) := (HBL.out.trans (b8.mono HBL.out.size)).setCell hg71 _
            have NS : w7.heap.size ≤ (w8.setCell ⟨g7, r, none⟩ nilS).heap.size := by have := b8.size; simp; omega
            have hri : (r : Int) < (R : Int) + (nb : Int) := by omega
            clear CL b8 row8 HN4 HCN HROW HBL hu8
            go_wp2
            go_roundw
            case rel => exact ⟨k + 1, by omega, by go_num, _, N4, NC, hst, NB, NS⟩
            case measure => simp [intOf]; omega
          · obtain rfl : k = nb := by omega
            have hcD : R ≤ cntN n' (R + k) := by omega
            have HCD : Hid (R ≤ cntN n' (R + k)) := hcD
            have hdc := dc_some HSH.out hN4 (by omega) hn4 hcD
            have HDC0 : Hid (DcAns (R : Int) (k : Int) (R + k) n' 0) := hdc.1
            have HN00 : Hid (n' (nthN n' (R + k) 0) = N) := hdc.2
            have szr := hbel.size
            have hg7r : g7 < wr.heap.size := by omega
            have b3r : Below w3.heap.size w3 wr := HB36.out.trans (hbel.mono HB36.out.size)
            have b2r : Below w2.heap.size w2 wr := HB3.out.trans (b3r.mono (by omega))
            have HB2r : Hid (Below w2.heap.size w2 wr) := b2r
            have HB6r : Hid (Below w6.heap.size w6 wr) := hbel
            have RM : RdM wr wr.heap.size (.slice (some ⟨g7, 0, none⟩) (R + k) cap7) (R + k) n' (allN R ff) := rdm_lessC (h1 := w2.heap.size) (e := ea) (by omega) hg7r b2r.size (fun i hi => (hrow.cellAt i (by omega)).trans (valsOf_get _ _ _ hi)) (fun i hi => (HEA.out i hi).below b2r (Nat.le_refl _)) hn4
            have CD := HD.out R k _ (R + k) n' (allN R ff) wr.heap.size wr RM (Nat.le_refl _) (allN_byt HKF.out)
            obtain ⟨wA, hwA⟩ : ∃ wA, wA = wr := ⟨_, rfl⟩
            rw [← hwA] at HB2r HB6r CD szr ⊢
            clear hcD hdc hn4 hcnt hrow hbel b3r b2r RM hsz hwA hg7r
            go_wp2_with fail
            refine CD.mono ?_
            rintro e w9 ⟨x9, v9, rfl, ha9, o9, b9⟩
            obtain rfl : x9 = 0 := ha9.one HDC0.out
            simp only [if_pos] at o9
            rw [Int.toNat_natCast, HN00.out] at o9
            obtain ⟨ao9, cap9, rfl⟩ := o9.slice
            obtain ⟨ed, hrd1, hrd2, hrd3⟩ := o9.rowsAt
            obtain ⟨bd, offd, haod, hbd⟩ := hrd2 (by omega)
            subst haod
            have HCD9 : Hid (∀ i, i < R + k → w9.cell? ⟨bd, offd + i, none⟩ = some (ed i)) := by
              obtain ⟨b', o', h1, h2⟩ := hrd1.1 (by omega)
              cases h1
              exact h2
            have HED : Hid (∀ i, i < R + k → Rd w9 w9.heap.size (ed i) N (allN R ff i)) := fun i hi => by
              obtain ⟨a1, a2, a3, a4, a5⟩ := hrd3 i hi
              refine ⟨a1, a2, a3, a4, fun h0 => ?_⟩
              obtain ⟨p1, p2, p3, p4, p5⟩ := a5 h0
              exact ⟨p1, p2, p3, p4, fun j hj => by rw [p5 j hj, col_back (by omega) (by omega) (by omega) HCD.out HKF.out]⟩
            have HB9 : Hid (Below wA.heap.size wA w9) := b9
            have s9 := b9.size
            unfold bytesR
            clear CD ha9 o9 b9 hrd1 hrd2 hrd3 HDC0
            have bx : Below w9.heap.size w9 (w9.alloc (.cells #[.int .i64 0, .slice (some ⟨bd, offd, none⟩) (R + k) cap9] 53)) := (Below.refl _ _).alloc (Nat.le_refl _) _
            have X10 : Box (w9.alloc (.cells #[.int .i64 0, .slice (some ⟨bd, offd, none⟩) (R + k) cap9] 53)) w9.heap.size #[.int .i64 0, .slice (some ⟨bd, offd, none⟩) (R + k) cap9] 53 := box_new _ _ _
            obtain ⟨w10, hw10⟩ : ∃ w10, w10 = w9.alloc (.cells #[.int .i64 0, .slice (some ⟨bd, offd, none⟩) (R + k) cap9] 53) := ⟨_, rfl⟩
            rw [← hw10] at bx X10
            have z10 : w9.heap.size < w10.heap.size := X10.lt
            have HX10 : Hid (Box w10 w9.heap.size #[.int .i64 0, .slice (some ⟨bd, offd, none⟩) (R + k) cap9] 53) := X10
            have HB10 : Hid (Below w9.heap.size w9 w10) := bx
            have HA10 : Hid (Below wA.heap.size wA w10) := HB9.out.trans (bx.mono s9)
            have s10 := HA10.out.size
            clear bx X10
            have tl2 : ((R : Int) + (k : Int) != (R : Int) + (k : Int)) = false := by simp
            go_wp2
            rw [← hw10]
            clear hw10
            go_loopw [11] (fun j wr => ∃ i : Nat, i ≤ R + k ∧ j = .int .i64 i ∧ Below w10.heap.size w10 wr) (fun j _ => R + k - (intOf j).toNat)
            case atStart => exact ⟨0, Nat.zero_le _, rfl, Below.refl _ _⟩
            case round =>
              obtain ⟨i, hi, rfl, hb⟩ := hrel
              have HB : Hid (Below w10.heap.size w10 wr) := hb
              have bA : Below wA.heap.size wA wr := HA10.out.trans (hb.mono s10)
              have b6r : Below w6.heap.size w6 wr := HB6r.out.trans (bA.mono szr)
              have b9r : Below w9.heap.size w9 wr := HB10.out.trans (hb.mono (by omega))
              have b2r : Below w2.heap.size w2 wr := HB2r.out.trans (bA.mono HB2r.out.size)
              obtain ⟨x0, x1, -, -⟩ := res_cells (HX10.out.below hb z10)
              by_cases hli : i < R + k
              · have hlii : (i : Int) < (R : Int) + (k : Int) := by omega
                have c1 : wr.cell? ⟨bd, offd + i, none⟩ = some (ed i) := (b9r.cell (p := ⟨bd, offd + i, none⟩) hbd).trans (HCD9.out i hli)
                have c2 : wr.cell? ⟨g5, i, none⟩ = some (ea i) := (b6r.cell (p := ⟨g5, i, none⟩) hg56).trans ((HROW6.out.cellAt i (by omega)).trans (valsOf_get _ _ _ hli))
                have rS := (HED.out i hli).below b9r (Nat.le_refl _)
                have rW := (HEA.out i hli).below b2r (Nat.le_refl _)
                obtain ⟨ys, hys⟩ : ∃ y, y = ed i := ⟨_, rfl⟩
                obtain ⟨yw, hyw⟩ : ∃ y, y = ea i := ⟨_, rfl⟩
                rw [← hys] at c1 rS
                rw [← hyw] at c2 rW
                have CWq : ∀ q, Calls Try.prog 24 #[ys, yw] (wr.drewN q) fun e w' => e = .returned (.bool true) ∧ Below (wr.drewN q).heap.size (wr.drewN q) w' := fun q => lwBytes_same ys yw N (allN R ff i) w9.heap.size w2.heap.size (wr.drewN q) rS rW
                have CW1 := CWq 1
                obtain ⟨aos, caps, hss, _, _⟩ := rS
                obtain ⟨aow, capw, hsw, _, _⟩ := rW
                subst hss
                subst hsw
                clear hys hyw b9r b6r b2r hb CWq bA
                go_wp2
                first | go_region_with (go_at_call 24; refine CW1.mono ?_; rintro ee w13 ⟨rfl, b13⟩) | fail
                all_goals
                  have R13 : Below w10.heap.size w10 w13 := HB.out.trans ((undrewX b13).mono HB.out.size)
                  clear b13 c1 c2 x0 x1 CW1
                  go_wp2
                  go_roundw
                  case rel => exact ⟨i + 1, by omega, by go_num, R13⟩
                  case measure => simp [intOf]; omega
              · obtain rfl : i = R + k := by omega
                have BF : Below w.heap.size w wr := HBW6.out.trans (b6r.mono HBW6.out.size)
                have hni : ¬ (((R + k : Nat) : Int) < (R : Int) + (k : Int)) := by omega
                clear hb bA b6r b9r b2r
                go_wp2
                go_ret
                exact ⟨rfl, BF⟩
  · have HX : Hid (x ≠ 0) := hx
    have tx : (x != 0) = true := by simp [hx]
    have CSp := fun (w3 : World) (b3 : Below w2.heap.size w2 w3) => specEncodeC_any _ R nn ff b w1.heap.size w3 ((HRL.out.below HB2.out (Nat.le_refl _)).below b3 s2) (Nat.le_trans s2 b3.size) HKF.out
    have HCS : Hid (∀ (w3 : World), Below w2.heap.size w2 w3 → Calls Try.prog 30 #[.slice aol R capl, .int .i64 b] w3 fun ee w' => ∃ x v', ee = .returned (bytesR x v') ∧ CeAns R nn b x ∧ OwnB w' w3.heap.size w'.heap.size v' (if x = 0 then b.toNat else 0) (fun _ => nn 0) (parN R ff) ∧ Below w3.heap.size w3 w') := CSp
    clear CSp HG HNB hx
    have hfd := fun (vv : Value) => fieldL0 x vv
    have txx : (x == x) = true := by simp
    go_wp2
    first | go_region_with (go_at_call 30; refine (HCS.out _ ?_).mono ?_; exact below_drewN ((Below.refl _ _).alloc (Nat.le_refl _) _) _; rintro e w4 ⟨x', vb', rfl, ha', ob', b4⟩; obtain rfl := ha'.one HA.out; obtain ⟨ao', cap', rfl⟩ := ob'.slice; unfold bytesR; have b4' : Below w2.heap.size w2 w4 := ((Below.refl w2.heap.size w2).alloc (Nat.le_refl _) _).trans ((undrewX b4).mono (by simp)); obtain ⟨q0, -, -, -⟩ := res_cells ((box_new w2 #[.int .i64 x', .slice aor nb capr] 53).below (undrewX b4) (by simp))) | fail
    all_goals
      have B4 : Below w.heap.size w w4 := HB1.out.trans ((HB2.out.mono s1).trans (b4'.mono (by omega)))
      clear b4 b4' q0 ob' ha'
      go_wp2
      go_ret
      exact ⟨rfl, B4⟩
end Go.Proofs.Ytoadjpacchhleaa
