/- Walk of the program's ShiftRow. -/
import Derived.Test.YtoadjpacchhleaiWImplC
import Derived.Test.YtoadjpacchhleaiWOwnG
import Derived.Test.YtoadjpacchhleaiWRowE
namespace Go.Proofs.Ytoadjpacchhleai
open Go.RowKit F256
set_option linter.unusedVariables false
set_option linter.unusedSimpArgs false

/-- the shifted blocks on the way: the first k are done -/
def wayS (D : Nat) (f : Mat) (b : Nat → Nat) (k : Nat) : Mat := fun i j => if i < k then shiftN D f b i j else encN D b i j
theorem wayS_byt {D : Nat} {f : Mat} {b : Nat → Nat} (kf : Byt f) (kb : ∀ i, b i < 256) (k : Nat) : Byt (wayS D f b k) := fun i j => by
  unfold wayS shiftN
  split
  · exact xor_lt (kf i j) (encN_byt kb i j)
  · exact encN_byt kb i j
theorem wayS_step {D : Nat} {f : Mat} {b : Nat → Nat} (kf : Byt f) {k : Nat} (t : Nat) :
    joinN (wayS D f b (k + 1)) t = if 4 * k ≤ t ∧ t < 4 * k + 4 then joinN (wayS D f b k) t ^^^ mulN 1 (f k (t - 4 * k)) else joinN (wayS D f b k) t := by
  unfold joinN
  by_cases c : 4 * k ≤ t ∧ t < 4 * k + 4
  · rw [if_pos c, one_mulN (kf _ _)]
    have e1 : t / 4 = k := by omega
    have e2 : t % 4 = t - 4 * k := by omega
    rw [e1, e2]
    simp [wayS, shiftN, Nat.xor_comm]
  · rw [if_neg c]
    have e1 : t / 4 ≠ k := by omega
    unfold wayS
    by_cases c2 : t / 4 < k
    · rw [if_pos (by omega), if_pos c2]
    · rw [if_neg (by omega), if_neg c2]

set_option maxHeartbeats 8000000 in
theorem implShift_rd (d s : Int) (v vb : Value) (R : Nat) (n : Nat → Nat) (f : Mat) (m : Nat) (b : Nat → Nat) (h1 l2 h2 : Nat) (w : World) (r1 : RdM w h1 v R n f) (rb : Own w l2 h2 vb m b) (hh : h1 ≤ w.heap.size) (hh2 : h2 ≤ w.heap.size) (kf : Byt f) (kb : ∀ i, b i < 256) :
    Calls Try.prog 27 #[.int .i64 d, .int .i64 s, v, vb] w fun ee w' => ∃ x v', ee = .returned (bytesR x v') ∧ ShiftAns d s R n m x ∧ OwnG w' w.heap.size w'.heap.size v' (if x = 0 then (d + s).toNat else 0) (fun _ => 4) (shiftN d.toNat f b) ∧ Below w.heap.size w w' := by
  have hmm := rb.le
  obtain ⟨aob, capb, rfl⟩ := rb.slice
  have HB : Hid (Own w l2 h2 (.slice aob m capb) m b) := rb
  have HR : Hid (RdM w h1 v R n f) := r1
  obtain ⟨ao, cap, e, rfl, hmR, hc, he⟩ := r1
  unfold maxLen at hmR hmm
  have HHE : Hid (∀ i, i < R → Rd w h1 (e i) (n i) (f i)) := he
  have HHC : Hid (R ≠ 0 → ∃ b off, ao = some ⟨b, off, none⟩ ∧ b < h1 ∧ ∀ i, i < R → w.cell? ⟨b, off + i, none⟩ = some (e i)) := hc
  clear rb hc he
  go_enter Try.func27, Try.ntmps27
  go_wp2_with fail
  refine (rowInBounds_any d s _).mono ?_
  rintro e0 w1 ⟨b1, rfl, hb1, b1'⟩
  have HS : Hid (b1 = true ↔ Shp d s) := hb1
  have B1 : Below w.heap.size w w1 := bnew b1'
  have X1 : Box w1 w.heap.size #[.int .i64 0, .slice none 0 0] 42 := (box_new w _ _).below b1' (by simp)
  have z1 : w.heap.size < w1.heap.size := X1.lt
  obtain ⟨x0, x1, y0, y1⟩ := res_cells X1
  clear hb1 b1'
  cases b1 with
  | false =>
    have HNO : Hid (¬ Shp d s) := fun h => by have := HS.out.mpr h; cases this
    clear HS
    go_wp2
    exact bodyPost_ret (v := bytesR 3 (.slice none 0 0)) (by simp [results, Try.results27, go_sem, bytesR, x0, x1]) rfl ⟨3, _, rfl, .inl ⟨rfl, HNO.out⟩, OwnG.none _ _ _ _ _, (B1.setCell (Nat.le_refl _) _).setCell (Nat.le_refl _) _⟩
  | true =>
    have hsh := HS.out.mp rfl
    have HSH : Hid (Shp d s) := hsh
    obtain ⟨q1, q2, q3, q4⟩ := hsh
    obtain ⟨D, rfl⟩ : ∃ D : Nat, d = D := ⟨d.toNat, by omega⟩
    obtain ⟨S, rfl⟩ : ∃ S : Nat, s = S := ⟨s.toNat, by omega⟩
    have CT := allThere_any (.slice ao R cap) R n f h1 ((D : Int) + (S : Int)) w1 (HR.out.below B1 hh)
    clear HS
    go_wp2_with fail
    refine CT.mono ?_
    rintro e0 w2 ⟨b2, rfl, hb2, b2'⟩
    have HT : Hid (b2 = true ↔ WholeP R n ((D : Int) + (S : Int))) := hb2
    have B2 : Below w.heap.size w w2 := B1.trans (b2'.mono B1.size)
    have X2 : Box w2 w.heap.size #[.int .i64 0, .slice none 0 0] 42 := X1.below b2' z1
    have z2 : w.heap.size < w2.heap.size := X2.lt
    clear x0 x1 y0 y1
    obtain ⟨x0, x1, y0, y1⟩ := res_cells X2
    clear hb2 b2' X1 B1 z1 CT
    cases b2 with
    | false =>
      have HNO : Hid (¬ WholeP R n ((D : Int) + (S : Int))) := fun h => by have := HT.out.mpr h; cases this
      clear HT
      go_wp2
      exact bodyPost_ret (v := bytesR 1 (.slice none 0 0)) (by simp [results, Try.results27, go_sem, bytesR, x0, x1]) rfl ⟨1, _, rfl, .inr (.inl ⟨rfl, HSH.out, .inl HNO.out⟩), OwnG.none _ _ _ _ _, (B2.setCell (Nat.le_refl _) _).setCell (Nat.le_refl _) _⟩
    | true =>
      have HTH : Hid (WholeP R n ((D : Int) + (S : Int))) := HT.out.mp rfl
      clear HT
      by_cases hlen : m = 4 * D
      · have hlen2 : (m : Int) = (D : Int) * 4 := by omega
        have tl : ((m : Int) != (D : Int) * 4) = false := by simp; omega
        have rb1 := (HB.out.below B2 hh2).rd
        rw [hlen] at rb1
        have C := blocksOf_any D S (by omega) (by omega) (by omega) (.slice aob (4 * D) capb) b h2 w2 rb1 (Nat.le_trans hh2 B2.size) kb
        rw [← hlen] at C
        have HL : Hid (m = 4 * D) := hlen
        have hRD0 : R = D + S := by have := HTH.out.2; omega
        have HRD : Hid (R = D + S) := hRD0
        have hR0 : 0 < R := by omega
        clear rb1 hlen hlen2 hRD0 x0 x1 y0 y1
        go_wp2_with fail
        refine C.mono ?_
        rintro e0 w4 ⟨v4, rfl, ⟨g4, cap4, h4, C4, om⟩, b4⟩
        have hv4 := om.val
        subst hv4
        have om0 := om.congr (f' := wayS D f b 0) (fun i j _ _ => by simp [wayS])
        have B4 : Below w.heap.size w w4 := B2.trans (b4.mono B2.size)
        have X4 : Box w4 w.heap.size #[.int .i64 0, .slice none 0 0] 42 := X2.below b4 z2
        have hlow4 : w2.heap.size ≤ h4 := om.hlow
        have hhigh4 : h4 < w4.heap.size := om.hhigh
        have hg4 : g4 < w4.heap.size := om.high
        have s2 := B2.size
        clear om b4 C X2
        obtain ⟨b0, off, hao, hblt, hcell⟩ := HHC.out (by omega)
        subst hao
        have HC : Hid (∀ i, i < R → w.cell? ⟨b0, off + i, none⟩ = some (e i)) := hcell
        have hb0w : b0 < w.heap.size := by omega
        clear hcell HHC
        go_wp2
        go_loopw [36] (fun i wr => ∃ k : Nat, k ≤ R ∧ i = .int .i64 k ∧ FlatE wr w2.heap.size w4.heap.size (.slice (some ⟨g4, 0, none⟩) (D + S) cap4) (D + S) (wayS D f b k) g4 cap4 h4 C4 ∧ Box wr w.heap.size #[.int .i64 0, .slice none 0 0] 42 ∧ Below w.heap.size w wr ∧ w4.heap.size ≤ wr.heap.size) (fun i _ => R - (intOf i).toNat)
        case atStart => exact ⟨0, Nat.zero_le _, rfl, om0, X4, B4, Nat.le_refl _⟩
        case round =>
          clear om0 X4 B4
          obtain ⟨k, hk, rfl, hF, hX, hbel, hsz⟩ := hrel
          by_cases hlt : k < R
          · have hkR := HRD.out
            have c1 : wr.cell? ⟨b0, off + k, none⟩ = some (e k) := (hbel.cell (p := ⟨b0, off + k, none⟩) hb0w).trans (HC.out k hlt)
            have rk := (HHE.out k hlt).below hbel hh
            rw [HTH.out.1 k hlt] at rk
            obtain ⟨x, hx⟩ : ∃ x, x = e k := ⟨_, rfl⟩
            rw [← hx] at c1 rk
            obtain ⟨A, hA⟩ : ∃ A, A = 4 * k := ⟨_, rfl⟩
            have c2 : wr.cell? ⟨g4, k, none⟩ = some (.slice (some ⟨h4, A, none⟩) 4 4) := by rw [hA]; exact hF.cell k (by omega)
            obtain ⟨aox, capx, hxs, hmx, hcx⟩ := rk
            obtain ⟨bx, ox, hax, hbx, hcellx⟩ := hcx (by omega)
            subst hax
            subst hxs
            have CA : ∀ q, Calls Try.prog 61 #[.slice (some ⟨h4, A, none⟩) 4 4, .slice (some ⟨bx, ox, none⟩) 4 capx, .int .u8 (1 : Nat)] (wr.drewN q) fun e w' => e = .returned (.tuple #[]) ∧ Own w' h4 (h4 + 1) (.slice (some ⟨h4, 0, none⟩) (4 * (D + S)) C4) (4 * (D + S)) (joinN (wayS D f b (k + 1))) ∧ Chg h4 (h4 + 1) (wr.drewN q) w' := fun q =>
              addScaled_at h4 C4 (4 * (D + S)) A 4 (joinN (wayS D f b k)) (f k) (joinN (wayS D f b (k + 1))) 1 h4 (h4 + 1) bx ox 4 capx (wr.drewN q) hF.flat (by omega) (by show h4 + 1 ≤ wr.heap.size; omega) (by show bx < wr.heap.size; omega) (fun hh => by omega) (.inl (.inl (by omega))) hcellx (Nat.le_refl _) (Nat.lt_succ_self _)
                (fun i => wayS_byt kf kb k _ _) (fun i => kf k i) (by omega) (fun t _ => by rw [hA]; exact wayS_step kf t) (by omega)
            have CA1 := CA 1
            have e1 : ((1 : Nat) : Int) = 1 := rfl
            rw [e1] at CA1
            have HF : Hid (FlatE wr w2.heap.size w4.heap.size (.slice (some ⟨g4, 0, none⟩) (D + S) cap4) (D + S) (wayS D f b k) g4 cap4 h4 C4) := hF
            have HX : Hid (Box wr w.heap.size #[.int .i64 0, .slice none 0 0] 42) := hX
            have HBL : Hid (Below w.heap.size w wr) := hbel
            have hkDS : k < D + S := by omega
            have hkDSi : (k : Int) < (D : Int) + (S : Int) := by omega
            clear hF hX hbel hx hA CA hcx hcellx e1 hkR
            go_wp2
            go_region_with (go_at_call 61; refine CA1.mono ?_; rintro e0 w7 ⟨rfl, o7, ch7⟩)
            all_goals
              have F7 := (HF.out.kept (w' := wr.drewN 1) rfl rfl).set o7 ch7
              have X7 : Box w7 w.heap.size #[.int .i64 0, .slice none 0 0] 42 := Box.chg (w := wr.drewN 1) HX.out ch7 (.inl (by omega))
              have B7 : Below w.heap.size w w7 := (below_drewN HBL.out 1).trans (ch7.below (by omega) HBL.out.size)
              have S7 : w4.heap.size ≤ w7.heap.size := Nat.le_trans hsz ch7.size
              clear o7 ch7 HF HX HBL CA1 c1 c2
              go_wp2
              go_roundw
              case rel => exact ⟨k + 1, by omega, by go_num, F7, X7, B7, S7⟩
              case measure => simp [intOf]; omega
          · obtain rfl : k = R := by omega
            have F9 := hF.congr (f' := shiftN D f b) (fun i j hi _ => by have := HRD.out; unfold wayS; rw [if_pos (by omega)])
            have HF9 : Hid (FlatE wr w2.heap.size w4.heap.size (.slice (some ⟨g4, 0, none⟩) (D + S) cap4) (D + S) (shiftN D f b) g4 cap4 h4 C4) := F9
            obtain ⟨x0, x1, y0, y1⟩ := res_cells hX
            have z4 := hX.lt
            clear hF F9 hX
            go_wp2
            refine bodyPost_ret (v := bytesR 0 (.slice (some ⟨g4, 0, none⟩) (D + S) cap4)) (by simp [results, Try.results27, go_sem, bytesR, x0, x1]) rfl ⟨0, _, rfl, .inr (.inr ⟨rfl, HSH.out, HTH.out, by have := HL.out; omega⟩), ?_, (hbel.setCell (Nat.le_refl _) _).setCell (Nat.le_refl _) _⟩
            have o1 := out_store wr w.heap.size (w.heap.size + 1) w.heap.size 0 (.int .i64 0) (Nat.le_refl _) (by omega)
            have o2 := out_store (wr.setCell ⟨w.heap.size, 0, none⟩ (.int .i64 0)) w.heap.size (w.heap.size + 1) w.heap.size 1 (.slice (some ⟨g4, 0, none⟩) (D + S) cap4) (Nat.le_refl _) (by omega)
            simp only [if_pos]
            have e1 : ((D : Int) + (S : Int)).toNat = D + S := by omega
            rw [e1, Int.toNat_natCast]
            exact .inr ⟨rfl, _, _, _, _, (HF9.out.chg (o1.trans o2).chg (.inr (by omega))).weaken (by omega) (by rw [(o1.trans o2).size]; exact hsz)⟩
      · have tl : ((m : Int) != (D : Int) * 4) = true := by simp; omega
        have HNE : Hid ((m : Int) ≠ (D : Int) * 4) := by show (m : Int) ≠ (D : Int) * 4; omega
        clear hlen
        go_wp2
        exact bodyPost_ret (v := bytesR 1 (.slice none 0 0)) (by simp [results, Try.results27, go_sem, bytesR, x0, x1]) rfl ⟨1, _, rfl, .inr (.inl ⟨rfl, HSH.out, .inr HNE.out⟩), OwnG.none _ _ _ _ _, (B2.setCell (Nat.le_refl _) _).setCell (Nat.le_refl _) _⟩
theorem implShift_any (d s : Int) (v vb : Value) (R : Nat) (n : Nat → Nat) (f : Mat) (m : Nat) (b : Nat → Nat) (l1 h1 l2 h2 : Nat) (w : World) (o1 : OwnM w l1 h1 v R n f) (rb : Own w l2 h2 vb m b) (hh : h1 ≤ w.heap.size) (hh2 : h2 ≤ w.heap.size) (kf : Byt f) (kb : ∀ i, b i < 256) :
    Calls Try.prog 27 #[.int .i64 d, .int .i64 s, v, vb] w fun ee w' => ∃ x v', ee = .returned (bytesR x v') ∧ ShiftAns d s R n m x ∧ OwnG w' w.heap.size w'.heap.size v' (if x = 0 then (d + s).toNat else 0) (fun _ => 4) (shiftN d.toNat f b) ∧ Below w.heap.size w w' := implShift_rd d s v vb R n f m b h1 l2 h2 w o1.rd rb hh hh2 kf kb
end Go.Proofs.Ytoadjpacchhleai
