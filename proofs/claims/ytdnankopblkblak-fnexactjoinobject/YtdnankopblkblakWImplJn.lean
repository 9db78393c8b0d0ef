/- Walks of the program's allLong and JoinObject. -/
import Derived.Test.YtdnankopblkblakWJoinP
import Derived.Test.YtdnankopblkblakWImplSp
namespace Go.Proofs.Ytdnankopblkblak
open Go.RowKit F256
set_option linter.unusedVariables false
set_option linter.unusedSimpArgs false

set_option maxHeartbeats 1000000 in
/-- whether all rows have W bytes -/
theorem allLong_any (v : Value) (R : Nat) (n : Nat → Nat) (f : Mat) (hi : Nat) (W : Nat) (hW : W ≤ 1000) (bb : Bool) (hbb : bb = true ↔ ∀ i, i < R → n i = W) (w : World) (r : RdM w hi v R n f) :
    Calls Try.prog 46 #[v, .int .i64 (W : Int)] w fun e w' => e = .returned (.bool bb) ∧ w' = w := by
  obtain ⟨ao, cap, e, rfl, hm, hc, he⟩ := r
  unfold maxLen at hm
  have HB : Hid (bb = true ↔ ∀ i, i < R → n i = W) := hbb
  clear hbb
  go_enter Try.func46, Try.ntmps46
  go_wp2
  go_loop [9] (fun i => ∃ k : Nat, k ≤ R ∧ i = .int .i64 k ∧ ∀ i, i < k → n i = W) (fun i => R - (intOf i).toNat)
  case atStart => exact ⟨0, Nat.zero_le _, rfl, fun i hi => by omega⟩
  case round =>
    obtain ⟨k, hk, rfl, hall⟩ := hrel
    have HALL : Hid (∀ i, i < k → n i = W) := hall
    clear hall
    by_cases hlt : k < R
    · obtain ⟨b, off, rfl, hblt, hcell⟩ := hc (by omega)
      obtain ⟨aok, capk, hsk, hmk, hqk⟩ := he k hlt
      have hck : w.cell? ⟨b, off + k, none⟩ = some (.slice aok (n k) capk) := by rw [← hsk]; exact hcell k hlt
      unfold maxLen at hmk
      obtain ⟨nk, hnk⟩ : ∃ x, x = n k := ⟨_, rfl⟩
      rw [← hnk] at hck hmk
      have HN : Hid (nk = n k) := hnk
      clear hc he hcell hsk hqk hnk
      by_cases heq : nk = W
      · subst heq
        have tn : ((nk : Int) != (nk : Int)) = false := by simp
        go_wp2
        go_round
        case rel => exact ⟨k + 1, by omega, by go_num, fun i hi => by
                      by_cases cc : i = k
                      · rw [cc, ← HN.out]
                      · exact HALL.out i (by omega)⟩
        case measure => simp [intOf]; omega
      · have tn : ((nk : Int) != (W : Int)) = true := by simp; omega
        have HF : Hid (bb = false) := by
          show bb = false
          cases hb : bb with
          | false => rfl
          | true => exact absurd (HN.out.trans (HB.out.mp hb k hlt)) heq
        clear heq
        go_wp2
        go_ret
        have hf := HF.out
        subst hf
        exact ⟨rfl, rfl⟩
    · obtain rfl : k = R := by omega
      have HF : Hid (bb = true) := HB.out.mpr HALL.out
      go_wp2
      go_ret
      have hf := HF.out
      subst hf
      exact ⟨rfl, rfl⟩
/-- the first k rows of W bytes, one behind the other, zeros behind them -/
def upTo (W : Nat) (f : Mat) (k : Nat) : Nat → Nat := fun i => if i < W * k then joinW W f i else 0
theorem upTo_zero (W : Nat) (f : Mat) : upTo W f 0 = fun _ => 0 := by funext i; simp [upTo]
theorem upTo_row {W L k c : Nat} {f : Mat} (hc : c ≤ W) (h1 : W * k + c ≤ L) (h2 : c = L - W * k ∨ c = W) : splice (cellsOf L (upTo W f k)) (W * k) (cellsOf c (f k)) = cellsOf L (upTo W f (k + 1)) := by
  refine splice_cells L (W * k) c _ _ _ h1 (fun i hi => ?_)
  unfold upTo
  rw [Nat.mul_succ]
  by_cases hk : i < W * k
  · rw [if_pos (by omega), if_neg (by omega), if_pos hk]
  · by_cases hk2 : i < W * k + c
    · rw [if_pos (by omega), if_pos ⟨by omega, hk2⟩]
      have := joinW_at W f k (i - W * k) (by omega)
      rw [← this]
      congr 1
      omega
    · rw [if_neg (by omega), if_neg (by omega), if_neg hk]
theorem copy_src_part {w : World} {hi n c cap : Nat} {ao : Option Addr} {f : Nat → Nat} (r : Rd w hi (.slice ao n cap) n f) (hc : c ≤ n) (h : 0 < (cellsOf c f).length) : ∃ ad, ao = some ad ∧ ∀ j v, (cellsOf c f)[j]? = some v → w.cell? (ad.add j) = some v := by
  have h' := h
  rw [cellsOf_length] at h'
  obtain ⟨ad, h1, h2⟩ := copy_src r (by rw [cellsOf_length]; omega)
  refine ⟨ad, h1, fun j v hj => h2 j v ?_⟩
  by_cases hjc : j < c
  · rw [cellsOf_get c f j hjc] at hj
    rw [cellsOf_get n f j (by omega)]
    exact hj
  · rw [List.getElem?_eq_none (by rw [cellsOf_length]; omega)] at hj
    cases hj

set_option maxHeartbeats 8000000 in
theorem implJoin_any (s : Nat → Int) (v : Value) (R : Nat) (n : Nat → Nat) (f : Mat) (l : Int) (h1 : Nat) (w : World) (r : RdM w h1 v R n f) (hh : h1 ≤ w.heap.size) :
    Calls Try.prog 25 #[shapeV s, v, .int .i64 l] w fun ee w' => ∃ x v', ee = .returned (bytesR x v') ∧ JoAns s R n l x ∧ Own w' w.heap.size w'.heap.size v' (if x = 0 then l.toNat else 0) (joinW (4 * (s 2).toNat) f) ∧ Below w.heap.size w w' := by
  have HR : Hid (RdM w h1 v R n f) := r
  obtain ⟨ao, cap, e, rfl, hm, hc, he⟩ := r
  unfold maxLen at hm
  have HHE : Hid (∀ i, i < R → Rd w h1 (e i) (n i) (f i)) := he
  have HHC : Hid (R ≠ 0 → ∃ b off, ao = some ⟨b, off, none⟩ ∧ b < h1 ∧ ∀ i, i < R → w.cell? ⟨b, off + i, none⟩ = some (e i)) := hc
  clear hc he
  have CP := implParts_any s l
  unfold shapeV at *
  go_enter Try.func25, Try.ntmps25
  go_wp2_with fail
  refine (CP _).mono ?_
  rintro e0 w1 ⟨x, c, rfl, hp, b1'⟩
  obtain ⟨X1, X2, B1, z1⟩ := two_new b1'
  obtain ⟨y0, y1, y2, y3⟩ := res_cells X2
  have z0 : w.heap.size < w1.heap.size := by omega
  have HP : Hid (PfAns s l x c) := hp
  have HX1 : Hid (Box w1 w.heap.size #[.int .i64 (s 0), .int .i64 (s 1), .int .i64 (s 2), .int .i64 (s 3), .int .i64 (s 4), .int .i64 (s 5), .int .i64 (s 6), .int .i64 (s 7), .int .i64 (s 8)] 27) := X1
  have HX2 : Hid (Box w1 (w.heap.size + 1) #[.int .i64 0, .slice none 0 0] 46) := X2
  have BA : Below w.heap.size w (w1.alloc (.cells #[.int .i64 c, .int .i64 x] 25)) := B1.alloc B1.size _
  clear b1' X1 X2 hp CP
  unfold intR
  have HQ : Hid (∀ d : Int, (((w1.setCell ⟨w.heap.size + 1, 0, none⟩ (.int .i64 d)).setCell ⟨w.heap.size + 1, 1, none⟩ (.slice none 0 0)).alloc (.cells #[.int .i64 c, .int .i64 x] 25)).cell? ⟨w.heap.size + 1, 0, none⟩ = some (.int .i64 d) ∧ (((w1.setCell ⟨w.heap.size + 1, 0, none⟩ (.int .i64 d)).setCell ⟨w.heap.size + 1, 1, none⟩ (.slice none 0 0)).alloc (.cells #[.int .i64 c, .int .i64 x] 25)).cell? ⟨w.heap.size + 1, 1, none⟩ = some (.slice none 0 0)) := fun d => by
    have sz2 : w.heap.size + 1 < ((w1.setCell ⟨w.heap.size + 1, 0, none⟩ (.int .i64 d)).setCell ⟨w.heap.size + 1, 1, none⟩ (.slice none 0 0)).heap.size := by simp; exact z1
    have u0 : ((w1.setCell ⟨w.heap.size + 1, 0, none⟩ (.int .i64 d)).setCell ⟨w.heap.size + 1, 1, none⟩ (.slice none 0 0)).cell? ⟨w.heap.size + 1, 0, none⟩ = some (.int .i64 d) := by simp [go_sem, y0, y1]
    have u1 : ((w1.setCell ⟨w.heap.size + 1, 0, none⟩ (.int .i64 d)).setCell ⟨w.heap.size + 1, 1, none⟩ (.slice none 0 0)).cell? ⟨w.heap.size + 1, 1, none⟩ = some (.slice none 0 0) := by simp [go_sem, y0, y1]
    exact ⟨alloc_cell sz2 u0, alloc_cell sz2 u1⟩
  by_cases hc0 : c = 0
  · subst hc0
    have HOK : Hid (OkShape s ∧ 1 ≤ l ∧ l ≤ 3 * (s 2 * 4) ∧ x = (l + s 2 * 4 - 1) / (s 2 * 4)) := by
      rcases HP.out with ⟨_, h, _⟩ | ⟨_, _, h, _⟩ | ⟨_, _, _, h, _⟩ | ⟨h1, h2, h3, _, h4⟩
      · omega
      · omega
      · omega
      · exact ⟨h1, h2, h3, h4⟩
    obtain ⟨D, hD, hD1, hD3⟩ := ok_data HOK.out.1
    have HDT : Hid ((s 2).toNat = D) := by show (s 2).toNat = D; rw [hD]; simp
    obtain ⟨L, rfl⟩ : ∃ L : Nat, l = L := ⟨l.toNat, by have := HOK.out.2.1; omega⟩
    have hL1 : 1 ≤ L := by have := HOK.out.2.1; omega
    have hL2 : L ≤ 12 * D := by have := HOK.out.2.2.1; rw [hD] at this; omega
    have hxP : x = ((partN D L : Nat) : Int) := by rw [HOK.out.2.2.2, hD, part_int hD1]
    obtain ⟨p1, p2, p3, p4⟩ := part_bounds hD1 hD3 hL1 hL2
    have HPLL : Hid (∀ k, k < partN D L → 4 * D * k < L) := fun k hk => part_lt hD1 hL1 hk
    obtain ⟨P, hP⟩ : ∃ P, P = partN D L := ⟨_, rfl⟩
    rw [← hP] at hxP p1 p2 p3 p4 HPLL
    obtain ⟨W, hW⟩ : ∃ W, W = 4 * D := ⟨_, rfl⟩
    have HW : Hid (4 * (s 2).toNat = W) := by show 4 * (s 2).toNat = W; rw [HDT.out, hW]
    rw [← hW] at p3 p4 HPLL
    have CW := rowLength_be s W (by rw [hD]; omega) (by omega) (by omega)
    have hW12 : W ≤ 12 ∧ 4 ≤ W := by omega
    have HPW : Hid (L ≤ P * W ∧ P * W ≤ 36) := ⟨p3, p4⟩
    subst hxP
    clear hP hW hD p3 p4 HOK
    by_cases hRP : R = P
    · subst hRP
      obtain ⟨wA, hwA⟩ : ∃ wA, wA = w1.alloc (.cells #[.int .i64 0, .int .i64 (R : Int)] 25) := ⟨_, rfl⟩
      have HXA : Hid (Box wA w.heap.size #[.int .i64 (s 0), .int .i64 (s 1), .int .i64 (s 2), .int .i64 (s 3), .int .i64 (s 4), .int .i64 (s 5), .int .i64 (s 6), .int .i64 (s 7), .int .i64 (s 8)] 27) := by
        show Box wA w.heap.size _ _
        rw [hwA]; exact HX1.out.allocd _
      have HXB : Hid (Box wA (w.heap.size + 1) #[.int .i64 0, .slice none 0 0] 46) := by
        show Box wA (w.heap.size + 1) _ _
        rw [hwA]; exact HX2.out.allocd _
      have HBA : Hid (Below w.heap.size w wA) := by show Below w.heap.size w wA; rw [hwA]; exact BA
      have zA : w.heap.size + 1 < wA.heap.size := HXB.out.lt
      have tR : ((R : Int) != (R : Int)) = false := by simp
      clear BA
      have XA := HX1.out.allocd (.cells #[.int .i64 0, .int .i64 (R : Int)] 25)
      obtain ⟨x0, x1, x2, x3, x4, x5, x6, x7, x8⟩ := box9 XA
      clear XA
      go_wp2_with fail
      refine (CW _).mono ?_
      rintro ee w3 ⟨rfl, b3⟩
      rw [← hwA] at b3
      clear hwA y0 y1 y2 y3 x0 x1 x2 x3 x4 x5 x6 x7 x8
      have HB3 : Hid (Below w.heap.size w w3) := HBA.out.trans (b3.mono HBA.out.size)
      have HX3 : Hid (Box w3 (w.heap.size + 1) #[.int .i64 0, .slice none 0 0] 46) := HXB.out.below b3 zA
      have z3 : w.heap.size + 1 < w3.heap.size := HX3.out.lt
      have HR3 : Hid (RdM w3 h1 (.slice ao R cap) R n f) := HR.out.below HB3.out hh
      clear b3 HXA HXB HBA zA HX1 HX2
      obtain ⟨bb, hbb⟩ : ∃ bb : Bool, bb = true ↔ ∀ i, i < R → n i = W := by
        by_cases c : ∀ i, i < R → n i = W
        · exact ⟨true, ⟨fun _ => c, fun _ => rfl⟩⟩
        · exact ⟨false, ⟨fun h => (by cases h), fun h => absurd h c⟩⟩
      have CA := allLong_any (.slice ao R cap) R n f h1 W (by omega) bb hbb w3 HR3.out
      have HBB : Hid (bb = true ↔ ∀ i, i < R → n i = W) := hbb
      clear hbb
      go_wp2_with fail
      refine CA.mono ?_
      rintro ee w4 ⟨rfl, hw4⟩
      obtain rfl := hw4.symm
      clear CA
      cases bb with
      | false =>
        have HJ : Hid (JoAns s R n (L : Int) 1) := .inr (.inl ⟨rfl, _, HP.out, .inr (by
          have h1 : ¬ ∀ i, i < R → n i = W := fun h => by have := HBB.out.mpr h; cases this
          rw [HW.out]
          exact Classical.byContradiction fun h2 => h1 fun i hi => Classical.byContradiction fun h3 => h2 ⟨i, hi, h3⟩)⟩)
        obtain ⟨r0, r1, r2, r3⟩ := res_cells HX3.out
        go_wp2
        exact bodyPost_ret (v := bytesR 1 (.slice none 0 0)) (by simp [results, Try.results25, go_sem, bytesR, r0, r1]) rfl ⟨1, _, rfl, HJ.out, own_nil _ _ _ _, (HB3.out.setCell (Nat.le_succ _) _).setCell (Nat.le_succ _) _⟩
      | true =>
        have HALL : Hid (∀ i, i < R → n i = W) := HBB.out.mp rfl
        have HJ : Hid (JoAns s R n (L : Int) 0) := .inr (.inr ⟨rfl, _, HP.out, rfl, fun i hi => by rw [HW.out]; exact HALL.out i hi⟩)
        have HANS : Hid (∀ w' v', Own w' w.heap.size w'.heap.size v' L (joinW W f) → Below w.heap.size w w' → ∃ x v'', Ending.returned (bytesR 0 v') = .returned (bytesR x v'') ∧ JoAns s R n (L : Int) x ∧ Own w' w.heap.size w'.heap.size v'' (if x = 0 then ((L : Int)).toNat else 0) (joinW (4 * (s 2).toNat) f) ∧ Below w.heap.size w w') := fun w' v' ho hb => ⟨0, v', rfl, HJ.out, by rw [if_pos rfl, HW.out, Int.toNat_natCast]; exact ho, hb⟩
        have HPL : Hid (∀ k, k < R → W * k < L) := HPLL.out
        clear HBB HJ HP HR CW HPLL
        go_wp2_with (at_make; refine wp_makeB _ rfl _ _ rfl _ _ L rfl rfl rfl rfl (by omega) ?_; intro w5 ho5 hb5 hz5)
        have HF0 : Hid (w5.heap[w3.heap.size]? = some (.cells (cellsOf L (upTo W f 0)).toArray 5 (0, 0))) := by
          have := ho5.full
          rw [show (cellsOf L fun _ => 0) = cellsOf L (upTo W f 0) from congrArg (cellsOf L) (upTo_zero W f).symm] at this
          exact this
        clear ho5
        go_loopw [9, 39] (fun u i wr => ∃ k : Nat, k ≤ R ∧ i = .int .i64 k ∧ (k < R → u = .slice (some ⟨w3.heap.size, W * k, none⟩) (L - W * k) (L - W * k)) ∧ Hid (wr.heap[w3.heap.size]? = some (.cells (cellsOf L (upTo W f k)).toArray 5 (0, 0))) ∧ Below w3.heap.size w3 wr ∧ w3.heap.size < wr.heap.size) (fun _ i _ => R - (intOf i).toNat)
        case atStart => exact ⟨0, Nat.zero_le _, rfl, fun _ => by simp, HF0, hb5, hz5⟩
        case round =>
          clear HF0 hb5 hz5
          obtain ⟨k, hk, rfl, hu, hF, hb, hz⟩ := hrel
          by_cases hlt : k < R
          · obtain rfl := hu hlt
            have HB : Hid (Below w3.heap.size w3 wr) := hb
            have HBW : Hid (Below w.heap.size w wr) := HB3.out.trans (hb.mono HB3.out.size)
            obtain ⟨b, off, hao, hblt, hcell⟩ := HHC.out (by omega)
            subst hao
            have hbw : b < w.heap.size := by omega
            have hck : wr.cell? ⟨b, off + k, none⟩ = some (e k) := (HBW.out.cell (p := ⟨b, off + k, none⟩) hbw).trans (hcell k hlt)
            have rk : Rd wr h1 (e k) W (f k) := by have := HHE.out k hlt; rw [HALL.out k hlt] at this; exact this.below HBW.out hh
            obtain ⟨aok, capk, hsk, hmk, hqk⟩ := rk
            have HRK : Hid (Rd wr h1 (.slice aok W capk) W (f k)) := ⟨aok, capk, rfl, hmk, hqk⟩
            rw [hsk] at hck
            obtain ⟨A, hA⟩ : ∃ A, A = W * k := ⟨_, rfl⟩
            have hAn : A < L := by rw [hA]; exact HPL.out k hlt
            have hA1 : k + 1 < R → A + W < L := fun h => by have := HPL.out (k + 1) h; rw [Nat.mul_succ, ← hA] at this; exact this
            obtain ⟨Ln, hLn⟩ : ∃ x, x = L - A := ⟨_, rfl⟩
            obtain ⟨c, hc⟩ : ∃ c, c = Nat.min W Ln := ⟨_, rfl⟩
            have hcm : c ≤ Ln ∧ c ≤ W ∧ (c = Ln ∨ c = W) := by
              have : c = min W Ln := hc
              omega
            have HSP : Hid (splice (cellsOf L (upTo W f k)) A (cellsOf c (f k)) = cellsOf L (upTo W f (k + 1))) := by
              show splice (cellsOf L (upTo W f k)) A (cellsOf c (f k)) = cellsOf L (upTo W f (k + 1))
              rw [hA]
              exact upTo_row hcm.2.1 (by rw [← hA]; omega) (by rw [← hA]; omega)
            have HL1 : Hid ((cellsOf c (f k)).length = Nat.min W Ln) := by show (cellsOf c (f k)).length = Nat.min W Ln; rw [cellsOf_length, hc]
            have HL2 : Hid (A + (cellsOf c (f k)).length ≤ (cellsOf L (upTo W f k)).length) := by
              show A + (cellsOf c (f k)).length ≤ (cellsOf L (upTo W f k)).length
              rw [cellsOf_length, cellsOf_length]; omega
            obtain ⟨ar, har, hsl⟩ := run_slice_from w3.heap.size A Ln Ln c hcm.1
            have HAO : Hid (k + 1 < R → (.slice ar (Ln - c) (Ln - c) : Value) = .slice (some ⟨w3.heap.size, W * (k + 1), none⟩) (L - W * (k + 1)) (L - W * (k + 1))) := fun h => by
              have h1 := hA1 h
              have h2 : c = W := by omega
              rw [har (by omega), Nat.mul_succ, ← hA, h2]
              congr 1 <;> omega
            have HSRC : Hid (∀ hp : 0 < (cellsOf c (f k)).length, ∃ ad, aok = some ad ∧ ∀ j v, (cellsOf c (f k))[j]? = some v → wr.cell? (ad.add j) = some v) := fun hp => copy_src_part HRK.out hcm.2.1 hp
            obtain ⟨r1, hr1⟩ : ∃ x, x = Ln - c := ⟨_, rfl⟩
            rw [← hr1] at hsl HAO
            have hlc : (cellsOf c (f k)).length = c := cellsOf_length _ _
            rw [← hA, ← hLn]
            have hc12 : c ≤ 12 := by omega
            clear hb hu hA hA1 hLn hc hcm har hr1 hAn hcell hsk hqk hmk HRK
            go_wp2_with (refine wpList_copy_splice rfl (.tmp 44) (.tmp 45) 33 33 rfl 5 Try.underlying33 size_u8 (some ⟨w3.heap.size, A, none⟩) aok Ln Ln W capk rfl ?_ w3.heap.size A (cellsOf L (upTo W f k)) 5 hF.out (cellsOf c (f k)) HL1.out (fun hp => ⟨rfl, HSRC.out hp⟩) HL2.out (cellsOf_one c _) w3.heap.size w3 HB.out (Nat.le_refl _) ?_; (simp [Act.eval]); intro w6 hF6 hb6; rw [hlc])
            have F6 := hF6.out
            rw [HSP.out] at F6
            have HF6 : Hid (w6.heap[w3.heap.size]? = some (.cells (cellsOf L (upTo W f (k + 1))).toArray 5 (0, 0))) := F6
            have z6 : w3.heap.size < w6.heap.size := (Array.getElem?_eq_some_iff.1 F6).1
            clear F6 hF6
            go_roundw
            case rel => exact ⟨k + 1, by omega, by go_num, HAO.out, HF6, hb6, z6⟩
            case measure => simp [intOf]; omega
          · obtain rfl : k = R := by omega
            have B9 : Below w.heap.size w wr := HB3.out.trans (hb.mono HB3.out.size)
            obtain ⟨r0, r1, r2, r3⟩ := res_cells (HX3.out.below hb z3)
            have O9 : Own wr w3.heap.size wr.heap.size (.slice (some ⟨w3.heap.size, 0, none⟩) L L) L (upTo W f k) := own_of_full hF.out (Nat.le_refl _) (by unfold maxLen; omega)
            have O8 : Own wr w3.heap.size wr.heap.size (.slice (some ⟨w3.heap.size, 0, none⟩) L L) L (joinW W f) := O9.congr (fun i hi => by
              have := HPW.out.1
              rw [Nat.mul_comm] at this
              simp [upTo, show i < W * k by omega])
            have HO8 : Hid (Own wr w3.heap.size wr.heap.size (.slice (some ⟨w3.heap.size, 0, none⟩) L L) L (joinW W f)) := O8
            clear hb hu O9 O8 hF
            go_wp2
            refine bodyPost_ret (v := bytesR 0 (.slice (some ⟨w3.heap.size, 0, none⟩) L L)) (by simp [results, Try.results25, go_sem, bytesR, r0, r1]) rfl (HANS.out _ _ ?_ ((B9.setCell (Nat.le_succ _) _).setCell (Nat.le_succ _) _))
            have o1 := out_store wr (w.heap.size + 1) (w.heap.size + 2) (w.heap.size + 1) 0 (.int .i64 0) (Nat.le_refl _) (by omega)
            have o2 := out_store (wr.setCell ⟨w.heap.size + 1, 0, none⟩ (.int .i64 0)) (w.heap.size + 1) (w.heap.size + 2) (w.heap.size + 1) 1 (.slice (some ⟨w3.heap.size, 0, none⟩) L L) (Nat.le_refl _) (by omega)
            exact (HO8.out.out (o1.trans o2) (.inr (by omega))).weaken (by omega) (by rw [(o1.trans o2).size]; exact Nat.le_refl _)
    · have tR : ((R : Int) != (P : Int)) = true := by simp; omega
      have HJ : Hid (JoAns s R n (L : Int) 1) := .inr (.inl ⟨rfl, _, HP.out, .inl (by omega)⟩)
      obtain ⟨q0, q1⟩ := HQ.out 1
      clear hRP
      go_wp2
      exact bodyPost_ret (v := bytesR 1 (.slice none 0 0)) (by simp [results, Try.results25, go_sem, bytesR, q0, q1]) rfl ⟨1, _, rfl, HJ.out, own_nil _ _ _ _, ((B1.setCell (Nat.le_succ _) _).setCell (Nat.le_succ _) _).alloc (by simp; omega) _⟩
  · have tc : (c != 0) = true := by simp [hc0]
    have HJ : Hid (JoAns s R n l c) := .inl ⟨hc0, x, HP.out⟩
    obtain ⟨q0, q1⟩ := HQ.out c
    go_wp2
    refine bodyPost_ret (v := bytesR c (.slice none 0 0)) (by simp [results, Try.results25, go_sem, bytesR, q0, q1]) rfl ⟨c, _, rfl, HJ.out, ?_, ((B1.setCell (Nat.le_succ _) _).setCell (Nat.le_succ _) _).alloc (by simp; omega) _⟩
    rw [if_neg hc0]
    exact own_nil _ _ _ _
end Go.Proofs.Ytdnankopblkblak
