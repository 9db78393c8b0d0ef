/- Walk of the specification's JoinObject. -/
import Derived.Test.YtdnankopblkblakWJoinO
import Derived.Test.YtdnankopblkblakShapeB
import Derived.BigQuiet
import Derived.Deep.QuietTactic
namespace Go.Proofs.Ytdnankopblkblak
open Go.RowKit F256
set_option linter.unusedVariables false
set_option linter.unusedSimpArgs false

/-- rows of W bytes, one behind the other -/
def joinW (W : Nat) (f : Mat) : Nat → Nat := fun t => f (t / W) (t % W)
theorem joinW_at (W : Nat) (f : Mat) (k i : Nat) (hi : i < W) : joinW W f (W * k + i) = f k i := by
  unfold joinW
  rw [Nat.mul_add_div (by omega), Nat.mul_add_mod, Nat.div_eq_of_lt hi, Nat.mod_eq_of_lt hi, Nat.add_zero]
theorem Own.cut {w : World} {lo hi g N L cap : Nat} {f : Nat → Nat} (h : Own w lo hi (.slice (some ⟨g, 0, none⟩) N cap) N f) (hL : L ≤ N) : Own w lo hi (.slice (some ⟨g, 0, none⟩) L cap) L f := by
  refine ⟨⟨by rw [cellsOf_length]; omega, ?_⟩, h.2⟩
  rcases h.1.2 with ⟨h1, _⟩ | ⟨g', cap', cur, h1, hbg, hgg, hnc, hcm, hcs, htake⟩
  · cases h1
  · cases h1
    refine .inr ⟨g, cap, cur, rfl, hbg, hgg, by omega, hcm, hcs, ?_⟩
    have h2 : List.take (L * 1) (List.take (N * 1) cur.toList) = List.take (L * 1) (cellsOf N f) := by rw [htake]
    rw [List.take_take, Nat.min_eq_left (by omega)] at h2
    rw [h2]
    apply List.ext_getElem?
    intro i
    rw [List.getElem?_take]
    by_cases hi : i < L
    · rw [if_pos (by omega), cellsOf_get _ _ _ (by omega), cellsOf_get _ _ _ hi]
    · rw [if_neg (by omega), List.getElem?_eq_none (by rw [cellsOf_length]; omega)]

set_option maxHeartbeats 1000000 in
theorem l2JoinW_any (v : Value) (R W : Nat) (n : Nat → Nat) (f : Mat) (h1 : Nat) (w : World) (r : RdM w h1 v R n f) (hh : h1 ≤ w.heap.size) (hR : R ≤ 1000) (hW1 : 1 ≤ W) (hW : W ≤ 100) (h4 : ∀ i, i < R → n i = W) :
    Calls Try.prog 45 #[v] w fun e w' => ∃ v', e = .returned v' ∧ Own w' w.heap.size w'.heap.size v' (W * R) (joinW W f) ∧ Below w.heap.size w w' := by
  obtain ⟨ao, cap, e, rfl, hm, hc, he⟩ := r
  have HE : Hid (∀ i, i < R → Rd w h1 (e i) W (f i)) := fun i hi => by have := he i hi; rw [h4 i hi] at this; exact this
  clear he h4
  go_enter Try.func45, Try.ntmps45
  go_wp2
  go_loopw [3, 4] (fun u i wr => ∃ k : Nat, k ≤ R ∧ i = .int .i64 k ∧ Own wr w.heap.size wr.heap.size u (W * k) (joinW W f) ∧ Below w.heap.size w wr) (fun _ i _ => R - (intOf i).toNat)
  case atStart => exact ⟨0, Nat.zero_le _, rfl, own_lit0 w _, (Below.refl _ _).alloc (Nat.le_refl _) _⟩
  case round =>
    obtain ⟨k, hk, rfl, hown, hb⟩ := hrel
    by_cases hlt : k < R
    · obtain ⟨b, off, rfl, hblt, hcell⟩ := hc (by omega)
      have hck : wr.cell? ⟨b, off + k, none⟩ = some (e k) := (hb.cell (p := ⟨b, off + k, none⟩) (by show b < w.heap.size; omega)).trans (hcell k hlt)
      have rk : Rd wr h1 (e k) W (f k) := (HE.out k hlt).below hb hh
      obtain ⟨x, hx⟩ : ∃ x, x = e k := ⟨_, rfl⟩
      rw [← hx] at hck rk
      have HRK : Hid (Rd wr h1 x W (f k)) := rk
      obtain ⟨aox, capx, hxs, _, _⟩ := rk
      subst hxs
      obtain ⟨A, hA⟩ : ∃ A, A = W * k := ⟨_, rfl⟩
      have hA9 : A ≤ 100 * 1000 := by rw [hA]; exact Nat.mul_le_mul hW (by omega)
      have HA : Hid (A = W * k) := hA
      have HG : Hid (∀ i, i < W → joinW W f (A + i) = f k i) := fun i hi => by rw [HA.out]; exact joinW_at W f k i hi
      rw [← hA] at hown
      have HO : Hid (Own wr w.heap.size wr.heap.size u3 A (joinW W f)) := hown
      have HB : Hid (Below w.heap.size w wr) := hb
      have hsz := hb.size
      have hm4 : A + W ≤ 1000000 := by omega
      have hW0 : 0 < W := by omega
      clear hc hcell hown hb hx hA
      go_wp2_with (at_builtin; refine wp_appendX rfl (.tmp 12) (.tmp 16) rfl w.heap.size wr.heap.size u3 A (joinW W f) ?_ HO.out h1 (.slice aox W capx) W (f k) ?_ HRK.out hW0 HG.out hm4 hsz ?_; (simp [Act.eval]); (simp [Act.eval]); intro v2 w2 ho2 hg2)
      have R2 : Below w.heap.size w w2 := HB.out.grown hg2 hsz (fun q hq => (HO.out.1.lt q hq).1)
      have e4 : A + W = W * (k + 1) := by rw [HA.out, Nat.mul_succ]
      rw [e4] at ho2
      clear hg2 HO HB HRK
      go_wp2
      go_roundw
      case rel => exact ⟨k + 1, by omega, by go_num, ho2, R2⟩
      case measure => simp [intOf]; omega
    · obtain rfl : k = R := by omega
      go_wp2
      go_ret
      exact ⟨_, rfl, hown, hb⟩

/-- the answers of JoinObject to R lists -/
def JoAns (s : Nat → Int) (R : Nat) (n : Nat → Nat) (l : Int) (x : Int) : Prop :=
  (x ≠ 0 ∧ ∃ v, PfAns s l v x) ∨ (x = 1 ∧ ∃ v, PfAns s l v 0 ∧ ((R : Int) ≠ v ∨ ∃ i, i < R ∧ n i ≠ 4 * (s 2).toNat)) ∨ (x = 0 ∧ ∃ v, PfAns s l v 0 ∧ (R : Int) = v ∧ ∀ i, i < R → n i = 4 * (s 2).toNat)
theorem pf_not1 {s : Nat → Int} {l v : Int} (h : PfAns s l v 1) : False := by
  rcases h with ⟨_, h, _⟩ | ⟨_, _, h, _⟩ | ⟨_, _, _, h, _⟩ | ⟨_, _, _, h, _⟩ <;> omega
theorem JoAns.one {s : Nat → Int} {R : Nat} {n : Nat → Nat} {l x y : Int} (h : JoAns s R n l x) (k : JoAns s R n l y) : x = y := by
  rcases h with ⟨h0, v, h⟩ | ⟨rfl, v, h, h2⟩ | ⟨rfl, v, h, h2, h3⟩ <;> rcases k with ⟨k0, u, k⟩ | ⟨rfl, u, k, k2⟩ | ⟨rfl, u, k, k2, k3⟩
  · exact (h.one k).2
  · exact absurd (h.one k).2 h0
  · exact (h.one k).2
  · exact absurd (h.one k).2.symm k0
  · rfl
  · obtain rfl := (h.one k).1
    rcases h2 with h2 | ⟨i, hi, h2⟩
    · exact absurd k2 h2
    · exact absurd (k3 i hi) h2
  · exact (h.one k).2
  · obtain rfl := (h.one k).1
    rcases k2 with k2 | ⟨i, hi, k2⟩
    · exact absurd h2 k2
    · exact absurd (h3 i hi) k2
  · rfl
theorem l4Wide_be (s : Nat → Int) (W : Nat) (hW : s 2 * 4 = (W : Int)) (h1 : 1 ≤ s 2) (h2 : s 2 ≤ 1000) (w : World) :
    Calls Try.prog 44 #[.agg #[.int .i64 (s 0), .int .i64 (s 1), .int .i64 (s 2), .int .i64 (s 3), .int .i64 (s 4), .int .i64 (s 5), .int .i64 (s 6), .int .i64 (s 7), .int .i64 (s 8)]] w fun e w' => e = .returned (.int .i64 (W : Int)) ∧ Below w.heap.size w w' :=
  (l4Wide_ex s W hW h1 h2 w).mono fun e w' h => ⟨h.1, by rw [h.2]; exact (Below.refl _ _).alloc (Nat.le_refl _) _⟩

set_option maxHeartbeats 8000000 in
theorem specJoin_any (s : Nat → Int) (v : Value) (R : Nat) (n : Nat → Nat) (f : Mat) (l : Int) (h1 : Nat) (w : World) (r : RdM w h1 v R n f) (hh : h1 ≤ w.heap.size) :
    Calls Try.prog 23 #[shapeV s, v, .int .i64 l] w fun ee w' => ∃ x v', ee = .returned (bytesR x v') ∧ JoAns s R n l x ∧ Own w' w.heap.size w'.heap.size v' (if x = 0 then l.toNat else 0) (joinW (4 * (s 2).toNat) f) ∧ Below w.heap.size w w' := by
  have HR : Hid (RdM w h1 v R n f) := r
  obtain ⟨ao, cap, e, rfl, hm, hc, he⟩ := r
  unfold maxLen at hm
  have HHE : Hid (∀ i, i < R → Rd w h1 (e i) (n i) (f i)) := he
  have HHC : Hid (R ≠ 0 → ∃ b off, ao = some ⟨b, off, none⟩ ∧ b < h1 ∧ ∀ i, i < R → w.cell? ⟨b, off + i, none⟩ = some (e i)) := hc
  clear hc he
  have CP := specParts_any s l
  unfold shapeV at *
  go_enter Try.func23, Try.ntmps23
  go_wp2_with fail
  refine (CP _).mono ?_
  rintro e0 w1 ⟨x, c, rfl, hp, b1'⟩
  obtain ⟨X1, X2, B1, z1⟩ := two_new b1'
  obtain ⟨y0, y1, y2, y3⟩ := res_cells X2
  have z0 : w.heap.size < w1.heap.size := by omega
  have HP : Hid (PfAns s l x c) := hp
  have HX1 : Hid (Box w1 w.heap.size #[.int .i64 (s 0), .int .i64 (s 1), .int .i64 (s 2), .int .i64 (s 3), .int .i64 (s 4), .int .i64 (s 5), .int .i64 (s 6), .int .i64 (s 7), .int .i64 (s 8)] 27) := X1
  have HX2 : Hid (Box w1 (w.heap.size + 1) #[.int .i64 0, .slice none 0 0] 46) := X2
  have BA : Below w.heap.size w (w1.alloc (.cells #[.int .i64 c, .int .i64 x] 25)) := B1.alloc B1.size _
  clear b1' X1 X2 hp CP
  unfold intR
  have HQ : Hid (∀ d : Int, (((w1.setCell ⟨w.heap.size + 1, 0, none⟩ (.int .i64 d)).setCell ⟨w.heap.size + 1, 1, none⟩ (.slice none 0 0)).alloc (.cells #[.int .i64 c, .int .i64 x] 25)).cell? ⟨w.heap.size + 1, 0, none⟩ = some (.int .i64 d) ∧ (((w1.setCell ⟨w.heap.size + 1, 0, none⟩ (.int .i64 d)).setCell ⟨w.heap.size + 1, 1, none⟩ (.slice none 0 0)).alloc (.cells #[.int .i64 c, .int .i64 x] 25)).cell? ⟨w.heap.size + 1, 1, none⟩ = some (.slice none 0 0)) := fun d => by
    have sz2 : w.heap.size + 1 < ((w1.setCell ⟨w.heap.size + 1, 0, none⟩ (.int .i64 d)).setCell ⟨w.heap.size + 1, 1, none⟩ (.slice none 0 0)).heap.size := by simp; exact z1
    have u0 : ((w1.setCell ⟨w.heap.size + 1, 0, none⟩ (.int .i64 d)).setCell ⟨w.heap.size + 1, 1, none⟩ (.slice none 0 0)).cell? ⟨w.heap.size + 1, 0, none⟩ = some (.int .i64 d) := by simp [go_sem, y0, y1]
    have u1 : ((w1.setCell ⟨w.heap.size + 1, 0, none⟩ (.int .i64 d)).setCell ⟨w.heap.size + 1, 1, none⟩ (.slice none 0 0)).cell? ⟨w.heap.size + 1, 1, none⟩ = some (.slice none 0 0) := by simp [go_sem, y0, y1]
    exact ⟨alloc_cell sz2 u0, alloc_cell sz2 u1⟩
  by_cases hc0 : c = 0
  · subst hc0
    have HOK : Hid (OkShape s ∧ 1 ≤ l ∧ l ≤ 3 * (s 2 * 4) ∧ x = (l + s 2 * 4 - 1) / (s 2 * 4)) := by
      rcases HP.out with ⟨_, h, _⟩ | ⟨_, _, h, _⟩ | ⟨_, _, _, h, _⟩ | ⟨h1, h2, h3, _, h4⟩
      · omega
      · omega
      · omega
      · exact ⟨h1, h2, h3, h4⟩
    obtain ⟨D, hD, hD1, hD3⟩ := ok_data HOK.out.1
    have HDT : Hid ((s 2).toNat = D) := by show (s 2).toNat = D; rw [hD]; simp
    obtain ⟨L, rfl⟩ : ∃ L : Nat, l = L := ⟨l.toNat, by have := HOK.out.2.1; omega⟩
    have hL1 : 1 ≤ L := by have := HOK.out.2.1; omega
    have hL2 : L ≤ 12 * D := by have := HOK.out.2.2.1; rw [hD] at this; omega
    have hxP : x = ((partN D L : Nat) : Int) := by rw [HOK.out.2.2.2, hD, part_int hD1]
    obtain ⟨p1, p2, p3, p4⟩ := part_bounds hD1 hD3 hL1 hL2
    obtain ⟨P, hP⟩ : ∃ P, P = partN D L := ⟨_, rfl⟩
    rw [← hP] at hxP p1 p2 p3 p4
    obtain ⟨W, hW⟩ : ∃ W, W = 4 * D := ⟨_, rfl⟩
    have HW : Hid (4 * (s 2).toNat = W) := by show 4 * (s 2).toNat = W; rw [HDT.out, hW]
    rw [← hW] at p3 p4
    have CW := l4Wide_be s W (by rw [hD]; omega) (by omega) (by omega)
    have hW12 : W ≤ 12 ∧ 4 ≤ W := by omega
    have HPW : Hid (L ≤ P * W ∧ P * W ≤ 36) := ⟨p3, p4⟩
    subst hxP
    clear hP hW hD p3 p4 HOK
    by_cases hRP : R = P
    · subst hRP
      obtain ⟨wA, hwA⟩ : ∃ wA, wA = w1.alloc (.cells #[.int .i64 0, .int .i64 (R : Int)] 25) := ⟨_, rfl⟩
      have HXA : Hid (Box wA w.heap.size #[.int .i64 (s 0), .int .i64 (s 1), .int .i64 (s 2), .int .i64 (s 3), .int .i64 (s 4), .int .i64 (s 5), .int .i64 (s 6), .int .i64 (s 7), .int .i64 (s 8)] 27) := by
        show Box wA w.heap.size _ _
        rw [hwA]; exact HX1.out.allocd _
      have HXB : Hid (Box wA (w.heap.size + 1) #[.int .i64 0, .slice none 0 0] 46) := by
        show Box wA (w.heap.size + 1) _ _
        rw [hwA]; exact HX2.out.allocd _
      have HBA : Hid (Below w.heap.size w wA) := by show Below w.heap.size w wA; rw [hwA]; exact BA
      have zA : w.heap.size + 1 < wA.heap.size := HXB.out.lt
      have tR : ((R : Int) != (R : Int)) = false := by simp
      clear BA
      go_wp2
      rw [← hwA]
      clear hwA y0 y1 y2 y3
      go_loopw [8] (fun i wr => ∃ k : Nat, k ≤ R ∧ i = .int .i64 k ∧ (∀ i, i < k → n i = W) ∧ Below wA.heap.size wA wr) (fun i _ => R - (intOf i).toNat)
      case atStart => exact ⟨0, Nat.zero_le _, rfl, fun i hi => by omega, Below.refl _ _⟩
      case round =>
        obtain ⟨k, hk, rfl, hall, hb⟩ := hrel
        have HALL : Hid (∀ i, i < k → n i = W) := hall
        have HB : Hid (Below wA.heap.size wA wr) := hb
        have hB : Below w.heap.size w wr := HBA.out.trans (hb.mono HBA.out.size)
        have szr := hb.size
        clear hall
        by_cases hlt : k < R
        · obtain ⟨b, off, hao, hblt, hcell⟩ := HHC.out (by omega)
          subst hao
          have hbw : b < w.heap.size := by omega
          have hck : wr.cell? ⟨b, off + k, none⟩ = some (e k) := (hB.cell (p := ⟨b, off + k, none⟩) hbw).trans (hcell k hlt)
          obtain ⟨aok, capk, hsk, hmk, hqk⟩ := HHE.out k hlt
          unfold maxLen at hmk
          obtain ⟨nk, hnk⟩ : ∃ x, x = n k := ⟨_, rfl⟩
          have HNK : Hid (nk = n k) := hnk
          rw [hsk, ← hnk] at hck
          rw [← hnk] at hmk
          obtain ⟨x0, x1, x2, x3, x4, x5, x6, x7, x8⟩ := box9 (HXA.out.below hb (by omega))
          have hbr : b < wr.heap.size := by have := hB.size; omega
          clear hcell hsk hqk hnk hb hB
          by_cases heq : nk = W
          · subst heq
            have tn : ((nk : Int) != (nk : Int)) = false := by simp
            go_wp2
            go_region_with (go_at_call 44; refine (CW _).mono ?_; rintro ee w5 ⟨rfl, b5⟩; have b5' : Below wr.heap.size wr w5 := ⟨b5.os, b5.tape, b5.output, b5.size, b5.block⟩; have hck5 := (b5'.cell (p := ⟨b, off + k, none⟩) hbr).trans hck)
            all_goals
              have R5 : Below wA.heap.size wA w5 := HB.out.trans (b5'.mono szr)
              clear b5 b5' hck hck5 x0 x1 x2 x3 x4 x5 x6 x7 x8
              go_wp2
              go_roundw
              case rel => exact ⟨k + 1, by omega, by go_num, fun i hi => by
                            by_cases cc : i = k
                            · rw [cc, ← HNK.out]
                            · exact HALL.out i (by omega), R5⟩
              case measure => simp [intOf]; omega
          · have tn : ((nk : Int) != (W : Int)) = true := by simp; omega
            have HJ : Hid (JoAns s R n (L : Int) 1) := .inr (.inl ⟨rfl, _, HP.out, .inr ⟨k, hlt, by rw [HW.out, ← HNK.out]; exact heq⟩⟩)
            clear heq
            go_wp2
            go_region_with (go_at_call 44; refine (CW _).mono ?_; rintro ee w5 ⟨rfl, b5⟩; have b5' : Below wr.heap.size wr w5 := ⟨b5.os, b5.tape, b5.output, b5.size, b5.block⟩; have hck5 := (b5'.cell (p := ⟨b, off + k, none⟩) hbr).trans hck)
            all_goals
              have R5 : Below wA.heap.size wA w5 := HB.out.trans (b5'.mono szr)
              have B5 : Below w.heap.size w w5 := HBA.out.trans (R5.mono HBA.out.size)
              obtain ⟨r0, r1, r2, r3⟩ := res_cells (HXB.out.below R5 zA)
              clear b5 b5' hck hck5 x0 x1 x2 x3 x4 x5 x6 x7 x8
              go_wp2
              exact bodyPost_ret (v := bytesR 1 (.slice none 0 0)) (by simp [results, Try.results23, go_sem, bytesR, r0, r1]) rfl ⟨1, _, rfl, HJ.out, own_nil _ _ _ _, (B5.setCell (Nat.le_succ _) _).setCell (Nat.le_succ _) _⟩
        · obtain rfl : k = R := by omega
          have HJ : Hid (JoAns s k n (L : Int) 0) := .inr (.inr ⟨rfl, _, HP.out, rfl, fun i hi => by rw [HW.out]; exact HALL.out i hi⟩)
          have CJ := l2JoinW_any (.slice ao k cap) k W n f h1 wr (HR.out.below hB hh) (Nat.le_trans hh hB.size) (by omega) (by omega) (by omega) HALL.out
          clear hb
          go_wp2_with fail
          refine CJ.mono ?_
          rintro ee w6 ⟨v6, rfl, o6, b6⟩
          have hk0 : W * k ≠ 0 := by
            have := HPW.out.1
            rw [Nat.mul_comm] at this
            omega
          obtain ⟨g6, cap6, hg6, g61, g62, g63, g64⟩ := o6.form hk0
          subst hg6
          have hLN : L ≤ W * k := by have := HPW.out.1; rw [Nat.mul_comm] at this; exact this
          have hLc : (L : Int) ≤ (cap6 : Int) := by omega
          have hL0 : L ≠ 0 := by omega
          have HO6 : Hid (Own w6 wr.heap.size w6.heap.size (.slice (some ⟨g6, 0, none⟩) L cap6) L (joinW W f)) := o6.cut hLN
          have R6 : Below wA.heap.size wA w6 := HB.out.trans (b6.mono szr)
          have B6 : Below w.heap.size w w6 := hB.trans (b6.mono hB.size)
          have s6 := b6.size
          obtain ⟨r0, r1, r2, r3⟩ := res_cells (HXB.out.below R6 zA)
          obtain ⟨T, hT⟩ : ∃ T, T = W * k := ⟨_, rfl⟩
          rw [← hT]
          clear o6 b6 CJ hk0 hLN hT hB
          go_wp2
          refine bodyPost_ret (v := bytesR 0 (.slice (some ⟨g6, 0, none⟩) L cap6)) (by simp [results, Try.results23, go_sem, bytesR, r0, r1]) rfl ⟨0, _, rfl, HJ.out, ?_, (B6.setCell (Nat.le_succ _) _).setCell (Nat.le_succ _) _⟩
          have o1 := out_store w6 (w.heap.size + 1) (w.heap.size + 2) (w.heap.size + 1) 0 (.int .i64 0) (Nat.le_refl _) (by omega)
          have o2 := out_store (w6.setCell ⟨w.heap.size + 1, 0, none⟩ (.int .i64 0)) (w.heap.size + 1) (w.heap.size + 2) (w.heap.size + 1) 1 (.slice (some ⟨g6, 0, none⟩) L cap6) (Nat.le_refl _) (by omega)
          simp only [if_pos]
          rw [HW.out, Int.toNat_natCast]
          exact (HO6.out.out (o1.trans o2) (.inr (by omega))).weaken (by omega) (by rw [(o1.trans o2).size]; exact Nat.le_refl _)
    · have tR : ((R : Int) != (P : Int)) = true := by simp; omega
      have HJ : Hid (JoAns s R n (L : Int) 1) := .inr (.inl ⟨rfl, _, HP.out, .inl (by omega)⟩)
      obtain ⟨q0, q1⟩ := HQ.out 1
      clear hRP
      go_wp2
      exact bodyPost_ret (v := bytesR 1 (.slice none 0 0)) (by simp [results, Try.results23, go_sem, bytesR, q0, q1]) rfl ⟨1, _, rfl, HJ.out, own_nil _ _ _ _, ((B1.setCell (Nat.le_succ _) _).setCell (Nat.le_succ _) _).alloc (by simp; omega) _⟩
  · have tc : (c != 0) = true := by simp [hc0]
    have HJ : Hid (JoAns s R n l c) := .inl ⟨hc0, x, HP.out⟩
    obtain ⟨q0, q1⟩ := HQ.out c
    go_wp2
    refine bodyPost_ret (v := bytesR c (.slice none 0 0)) (by simp [results, Try.results23, go_sem, bytesR, q0, q1]) rfl ⟨c, _, rfl, HJ.out, ?_, ((B1.setCell (Nat.le_succ _) _).setCell (Nat.le_succ _) _).alloc (by simp; omega) _⟩
    rw [if_neg hc0]
    exact own_nil _ _ _ _
end Go.Proofs.Ytdnankopblkblak
