/- Walk of the program's SplitObject. -/
import Derived.Test.YtdnankopblkblakWJoinO
import Derived.Test.YtdnankopblkblakShapeB
import Derived.Test.YtdnankopblkblakWImplPf
import Derived.Test.YtdnankopblkblakWImplLc
import Derived.Test.YtdnankopblkblakWJoin
namespace Go.Proofs.Ytdnankopblkblak
open Go.RowKit F256
set_option linter.unusedVariables false
set_option linter.unusedSimpArgs false

/-- list[m:] -/
theorem run_slice_from (b off n cap m : Nat) (hm : m ≤ n) : ∃ ao, (cap ≠ m → ao = some ⟨b, off + m, none⟩) ∧ ∀ w, (Instr.slice 33 (.slice (some ⟨b, off, none⟩) n cap) (some (.int .i64 (m : Int))) none none).run Try.prog w = .ok (.slice ao (n - m) (cap - m)) w := by
  by_cases h : cap = m
  · refine ⟨some ⟨b, off, none⟩, fun k => absurd h k, fun w => ?_⟩
    have e1 : (m : Int) ≤ (n : Int) := by omega
    subst h
    simp [Instr.slice, run_underlying Try.underlying33, Instr.sliceBounds, Instr.sliceBound, asIntOf, go_sem, e1, hm]
  · refine ⟨some ⟨b, off + m, none⟩, fun _ => rfl, fun w => ?_⟩
    have e1 : (m : Int) ≤ (n : Int) := by omega
    simp [Instr.slice, run_underlying Try.underlying33, Instr.sliceBounds, Instr.sliceBound, asIntOf, go_sem, e1, hm, h]
theorem rowLength_be (s : Nat → Int) (W : Nat) (hW : s 2 * 4 = (W : Int)) (h1 : 1 ≤ s 2) (h2 : s 2 ≤ 1000) (w : World) :
    Calls Try.prog 40 #[.agg #[.int .i64 (s 0), .int .i64 (s 1), .int .i64 (s 2), .int .i64 (s 3), .int .i64 (s 4), .int .i64 (s 5), .int .i64 (s 6), .int .i64 (s 7), .int .i64 (s 8)]] w fun e w' => e = .returned (.int .i64 (W : Int)) ∧ Below w.heap.size w w' :=
  (rowLength_any s h1 h2 w).mono fun e w' h => ⟨by rw [h.1, hW], h.2⟩
theorem rd_part {w : World} {hi gb n cap : Nat} {f : Nat → Nat} (r : Rd w hi (.slice (some ⟨gb, 0, none⟩) n cap) n f) (A c C : Nat) (h : A + c ≤ n) : Rd w hi (.slice (some ⟨gb, A, none⟩) c C) c (fun i => f (A + i)) := by
  obtain ⟨ao, cp, he, hm, hc⟩ := r
  refine ⟨_, _, rfl, by omega, fun h0 => ?_⟩
  obtain ⟨b, off, h1, h2, h3⟩ := hc (by omega)
  simp only [Value.slice.injEq, true_and] at he
  obtain ⟨he, -⟩ := he
  rw [← he] at h1
  simp only [Option.some.injEq, Addr.mk.injEq] at h1
  obtain ⟨rfl, rfl, -⟩ := h1
  refine ⟨_, _, rfl, h2, fun i hi => ?_⟩
  have := h3 (A + i) (by omega)
  rw [Nat.zero_add] at this
  exact this
theorem full_stored {w4 : World} {g hi W gl k : Nat} {x : Value} (ho : Own w4 g hi (.slice (some ⟨g, 0, none⟩) W W) W (fun _ => 0)) (h : gl < g) : (w4.setCell ⟨gl, k, none⟩ x).heap[g]? = some (.cells (cellsOf W fun _ => 0).toArray 5 (0, 0)) :=
  ((out_store w4 gl (gl + 1) gl k x (Nat.le_refl _) (Nat.lt_succ_self _)).block g (.inr h)).trans ho.full
theorem OwnE.filled {wA w' : World} {lo hi hi' B : Nat} {v : Value} {R : Nat} {n : Nat → Nat} {M M' : Mat} {g cap k : Nat} {e : Nat → Value} (h : OwnE wA lo hi v R n M g cap e) (hb : Below B wA w') (hg : g < B) (hhi : hi ≤ hi')
    (hoth : ∀ j, j < R → j ≠ k → ∀ q, (e j).ownBlock = some q → q < B) (ho : Own w' lo hi' (e k) (n k) (M' k)) (hM : ∀ j, j < R → j ≠ k → M' j = M j) : OwnE w' lo hi' v R n M' g cap e := by
  refine ⟨h.val, h.low, Nat.lt_of_lt_of_le h.high hhi, row_kept h.row fun q hq => hb.block q ?_, fun j hj => ?_, h.apart⟩
  · rw [h.val] at hq
    simp [Value.ownBlock] at hq
    omega
  · by_cases c : j = k
    · subst c; exact ho
    · rw [hM j hj c]
      exact ((h.each j hj).kept fun q hq => hb.block q (hoth j hj c q hq)).weaken (Nat.le_refl _) hhi
theorem part_lt {D n k : Nat} (hD : 1 ≤ D) (hn : 1 ≤ n) (h : k < partN D n) : 4 * D * k < n := by
  unfold partN at h
  have h2 : (k + 1) * (4 * D) ≤ n + 4 * D - 1 := (Nat.le_div_iff_mul_le (by omega)).mp h
  rw [Nat.succ_mul, Nat.mul_comm] at h2
  omega
theorem splitN_row {D n k c : Nat} {f : Nat → Nat} (hc : c ≤ 4 * D) (h : (∀ i, i < 4 * D → (i < c ↔ 4 * D * k + i < n))) : splice (cellsOf (4 * D) fun _ => 0) 0 (cellsOf c fun i => f (4 * D * k + i)) = cellsOf (4 * D) (splitN D n f k) := by
  refine splice_cells (4 * D) 0 c _ _ _ (by omega) (fun i hi => ?_)
  unfold splitN
  by_cases hc' : i < c
  · rw [if_pos ((h i hi).mp hc'), if_pos ⟨by omega, by omega⟩, Nat.sub_zero]
  · rw [if_neg (fun x => hc' ((h i hi).mpr x)), if_neg (by omega)]

set_option maxHeartbeats 8000000 in
theorem implSplit_any (s : Nat → Int) (vb : Value) (n : Nat) (f : Nat → Nat) (lo hi : Nat) (w : World) (ob : Own w lo hi vb n f) (hh : hi ≤ w.heap.size) :
    Calls Try.prog 16 #[shapeV s, vb] w fun ee w' => ∃ x v', ee = .returned (bytesR x v') ∧ SoAns s n x ∧ OwnB w' w.heap.size w'.heap.size v' (if x = 0 then partN (s 2).toNat n else 0) (fun _ => 4 * (s 2).toNat) (splitN (s 2).toNat n f) ∧ Below w.heap.size w w' := by
  have HOB : Hid (Own w lo hi vb n f) := ob
  have hmb : n ≤ 9223372036854775807 := by obtain ⟨_, _, _, h, _⟩ := ob.rd; unfold maxLen at h; omega
  obtain ⟨aob, capb, rfl⟩ := ob.slice
  have CP := implParts_any s (n : Int)
  unfold shapeV at *
  clear ob
  go_enter Try.func16, Try.ntmps16
  go_wp2_with fail
  refine (CP _).mono ?_
  rintro e w1 ⟨x, c, rfl, hp, b1'⟩
  obtain ⟨X1, X2, B1, z1⟩ := two_new b1'
  obtain ⟨x0, x1, x2, x3, x4, x5, x6, x7, x8⟩ := box9 X1
  obtain ⟨y0, y1, y2, y3⟩ := res_cells X2
  have z0 : w.heap.size < w1.heap.size := by omega
  have HP : Hid (PfAns s (n : Int) x c) := hp
  have HX1 : Hid (Box w1 w.heap.size #[.int .i64 (s 0), .int .i64 (s 1), .int .i64 (s 2), .int .i64 (s 3), .int .i64 (s 4), .int .i64 (s 5), .int .i64 (s 6), .int .i64 (s 7), .int .i64 (s 8)] 27) := X1
  have HX2 : Hid (Box w1 (w.heap.size + 1) #[.int .i64 0, .slice none 0 0] 36) := X2
  have BA : Below w.heap.size w (w1.alloc (.cells #[.int .i64 c, .int .i64 x] 25)) := B1.alloc B1.size _
  clear b1' X1 X2 hp CP
  unfold intR
  by_cases hc0 : c = 0
  · subst hc0
    have HOK : Hid (OkShape s ∧ 1 ≤ (n : Int) ∧ (n : Int) ≤ 3 * (s 2 * 4) ∧ x = ((n : Int) + s 2 * 4 - 1) / (s 2 * 4)) := by
      rcases HP.out with ⟨_, h, _⟩ | ⟨_, _, h, _⟩ | ⟨_, _, _, h, _⟩ | ⟨h1, h2, h3, _, h4⟩
      · omega
      · omega
      · omega
      · exact ⟨h1, h2, h3, h4⟩
    obtain ⟨D, hD, hD1, hD3⟩ := ok_data HOK.out.1
    have hn1 : 1 ≤ n := by have := HOK.out.2.1; omega
    have hn2 : n ≤ 12 * D := by have := HOK.out.2.2.1; rw [hD] at this; omega
    have HDT : Hid ((s 2).toNat = D) := by show (s 2).toNat = D; rw [hD]; simp
    have hxP : x = ((partN D n : Nat) : Int) := by rw [HOK.out.2.2.2, hD, part_int hD1]
    have HPL : Hid (∀ k, k < partN D n → 4 * D * k < n) := fun k hk => part_lt hD1 hn1 hk
    obtain ⟨p1, p2, p3, p4⟩ := part_bounds hD1 hD3 hn1 hn2
    have HSR : Hid (∀ k c, c ≤ 4 * D → (∀ i, i < 4 * D → (i < c ↔ 4 * D * k + i < n)) → splice (cellsOf (4 * D) fun _ => 0) 0 (cellsOf c fun i => f (4 * D * k + i)) = cellsOf (4 * D) (splitN D n f k)) := fun k c h1 h2 => splitN_row h1 h2
    have HANS : Hid (∀ w' v', OwnB w' w.heap.size w'.heap.size v' (partN D n) (fun _ => 4 * D) (splitN D n f) → Below w.heap.size w w' → ∃ x v'', Ending.returned (bytesR 0 v') = .returned (bytesR x v'') ∧ SoAns s n x ∧ OwnB w' w.heap.size w'.heap.size v'' (if x = 0 then partN (s 2).toNat n else 0) (fun _ => 4 * (s 2).toNat) (splitN (s 2).toNat n f) ∧ Below w.heap.size w w') := fun w' v' ho hb => ⟨0, v', rfl, ⟨x, HP.out⟩, by rw [if_pos rfl, HDT.out]; exact ho, hb⟩
    obtain ⟨M, hM⟩ : ∃ M, M = splitN D n f := ⟨_, rfl⟩
    obtain ⟨P, hP⟩ : ∃ P, P = partN D n := ⟨_, rfl⟩
    rw [← hP] at hxP p1 p2 p3 p4 HPL HANS
    rw [← hM] at HSR HANS
    obtain ⟨W, hW⟩ : ∃ W, W = 4 * D := ⟨_, rfl⟩
    rw [← hW] at p3 p4 HPL HSR HANS
    have CW := rowLength_be s W (by rw [hD]; omega) (by omega) (by omega)
    have hW12 : W ≤ 12 ∧ 4 ≤ W := by omega
    have HNW : Hid (n ≤ P * W) := p3
    subst hxP
    clear hP hM hW hD p3 p4 HOK HP HDT hD1 hD3 hn2
    obtain ⟨gb, capb', hgb, gb1, gb2, gb3, gb4⟩ := HOB.out.form (by omega)
    simp only [Value.slice.injEq, true_and] at hgb
    obtain ⟨rfl, rfl⟩ := hgb
    have HRB : Hid (∀ wx, Below w.heap.size w wx → Rd wx hi (.slice (some ⟨gb, 0, none⟩) n capb) n f) := fun wx h => HOB.out.rd.below h hh
    obtain ⟨wA, hwA⟩ : ∃ wA, wA = w1.alloc (.cells #[.int .i64 0, .int .i64 (P : Int)] 25) := ⟨_, rfl⟩
    have HXA : Hid (Box wA w.heap.size #[.int .i64 (s 0), .int .i64 (s 1), .int .i64 (s 2), .int .i64 (s 3), .int .i64 (s 4), .int .i64 (s 5), .int .i64 (s 6), .int .i64 (s 7), .int .i64 (s 8)] 27) := by
      show Box wA w.heap.size _ _
      rw [hwA]; exact HX1.out.allocd _
    have HXB : Hid (Box wA (w.heap.size + 1) #[.int .i64 0, .slice none 0 0] 36) := by
      show Box wA (w.heap.size + 1) _ _
      rw [hwA]; exact HX2.out.allocd _
    have HBA : Hid (Below w.heap.size w wA) := by show Below w.heap.size w wA; rw [hwA]; exact BA
    have zA : w.heap.size + 1 < wA.heap.size := HXB.out.lt
    clear BA HX1 HX2 HOB x0 x1 x2 x3 x4 x5 x6 x7 x8 y0 y1 y2 y3
    go_wp2_with (at_make; refine wp_makeM _ rfl _ _ rfl _ _ P rfl rfl rfl rfl (by omega) ?_; intro w2 hown2 hb2 hz2)
    have hGA : wA.heap.size = w1.heap.size + 1 := by rw [hwA]; simp
    rw [← hwA] at hown2 hb2 hz2
    rw [← hGA]
    clear hwA hGA
    have E0 : OwnE w2 wA.heap.size w2.heap.size (.slice (some ⟨wA.heap.size, 0, none⟩) P P) P (lenN W 0) M wA.heap.size P (fun _ => nilS) := ownE_made hown2 (Nat.le_refl _) hz2 (fun i hi => by simp [lenN])
    clear hown2
    go_loopw [7, 25] (fun u i wr => ∃ k : Nat, k ≤ P ∧ i = .int .i64 k ∧ (k < P → u = .slice (some ⟨gb, W * k, none⟩) (n - W * k) (capb - W * k)) ∧ ∃ e', OwnE wr wA.heap.size wr.heap.size (.slice (some ⟨wA.heap.size, 0, none⟩) P P) P (lenN W k) M wA.heap.size P e' ∧ Below wA.heap.size wA wr) (fun _ i _ => P - (intOf i).toNat)
    case atStart => exact ⟨0, Nat.zero_le _, rfl, fun _ => by simp, _, E0, hb2⟩
    case round =>
      clear E0 hb2 hz2
      obtain ⟨k, hk, rfl, hu, e', hE, hb⟩ := hrel
      by_cases hlt : k < P
      · obtain rfl := hu hlt
        have HOE : Hid (OwnE wr wA.heap.size wr.heap.size (.slice (some ⟨wA.heap.size, 0, none⟩) P P) P (lenN W k) M wA.heap.size P e') := hE
        have HB : Hid (Below wA.heap.size wA wr) := hb
        have HBW : Hid (Below w.heap.size w wr) := HBA.out.trans (hb.mono HBA.out.size)
        have szr := hb.size
        have szg := hE.high
        obtain ⟨x0, x1, x2, x3, x4, x5, x6, x7, x8⟩ := box9 (HXA.out.below hb (by omega))
        obtain ⟨A, hA⟩ : ∃ A, A = W * k := ⟨_, rfl⟩
        have hAn : A < n := by rw [hA]; exact HPL.out k hlt
        have hA1 : k + 1 < P → A + W < n := fun h => by have := HPL.out (k + 1) h; rw [Nat.mul_succ, ← hA] at this; exact this
        have hA2 : ¬ k + 1 < P → n ≤ A + W := fun h => by
          have h1 := HNW.out
          have h2 : P = k + 1 := by omega
          rw [h2, Nat.succ_mul, Nat.mul_comm, ← hA] at h1
          exact h1
        obtain ⟨Ln, hLn⟩ : ∃ x, x = n - A := ⟨_, rfl⟩
        obtain ⟨Cp, hCp⟩ : ∃ x, x = capb - A := ⟨_, rfl⟩
        obtain ⟨c, hc⟩ : ∃ c, c = Nat.min Ln W := ⟨_, rfl⟩
        have hcm : c ≤ Ln ∧ c ≤ W ∧ (c = Ln ∨ c = W) := by
          have : c = min Ln W := hc
          omega
        have HSP : Hid (splice (cellsOf W fun _ => 0) 0 (cellsOf c fun i => f (A + i)) = cellsOf W (M k)) := by
          show splice (cellsOf W fun _ => 0) 0 (cellsOf c fun i => f (A + i)) = cellsOf W (M k)
          rw [hA]
          exact HSR.out k c hcm.2.1 (fun i hi => by rw [← hA]; omega)
        have HL1 : Hid ((cellsOf c fun i => f (A + i)).length = Nat.min Ln W) := by show (cellsOf c fun i => f (A + i)).length = Nat.min Ln W; rw [cellsOf_length, hc]
        have HL2 : Hid (0 + (cellsOf c fun i => f (A + i)).length ≤ (cellsOf W fun _ => 0).length) := by
          show 0 + (cellsOf c fun i => f (A + i)).length ≤ (cellsOf W fun _ => 0).length
          rw [cellsOf_length, cellsOf_length]; omega
        obtain ⟨ao, hao, hsl⟩ := run_slice_from gb A Ln Cp c hcm.1
        have HAO : Hid (k + 1 < P → (.slice ao (Ln - c) (Cp - c) : Value) = .slice (some ⟨gb, W * (k + 1), none⟩) (n - W * (k + 1)) (capb - W * (k + 1))) := fun h => by
          have h1 := hA1 h
          have h2 : c = W := by omega
          rw [hao (by omega), Nat.mul_succ, ← hA, h2]
          congr 1 <;> omega
        have HRD : Hid (∀ wx, Below w.heap.size w wx → Rd wx hi (.slice (some ⟨gb, A, none⟩) c Cp) c (fun i => f (A + i))) := fun wx h => rd_part (HRB.out wx h) A c Cp (by omega)
        obtain ⟨r1, hr1⟩ : ∃ x, x = Ln - c := ⟨_, rfl⟩
        obtain ⟨r2, hr2⟩ : ∃ x, x = Cp - c := ⟨_, rfl⟩
        rw [← hr1, ← hr2] at hsl HAO
        have hlc : (cellsOf c fun i => f (A + i)).length = c := cellsOf_length _ _
        rw [← hA, ← hLn, ← hCp]
        have hc12 : c ≤ 12 := by omega
        clear hE hb hu hA hA1 hA2 hLn hCp hc hcm hao hr1 hr2 hAn
        go_wp2_with fail
        refine (CW _).mono ?_
        rintro ee w3 ⟨rfl, b3⟩
        have E3 := HOE.out.below b3 (Nat.le_refl _)
        have s3 := b3.size
        have HB3 : Hid (Below wA.heap.size wA w3) := HB.out.trans (b3.mono szr)
        have HW3 : Hid (Below w.heap.size w w3) := HBW.out.trans (b3.mono HBW.out.size)
        have HE3 : Hid (OwnE w3 wA.heap.size wr.heap.size (.slice (some ⟨wA.heap.size, 0, none⟩) P P) P (lenN W k) M wA.heap.size P e') := E3
        clear x0 x1 x2 x3 x4 x5 x6 x7 x8 b3 E3 HOE HB HBW
        go_wp2_with (first | (at_make; refine wp_makeB _ rfl _ _ rfl _ _ W rfl rfl rfl rfl (by omega) ?_; intro w4 ho4 hb4 hz4; have q1 : w4.cell? ⟨wA.heap.size, k, none⟩ = some (e' k) := (HE3.out.below hb4 s3).cell k hlt; have q2 : w4.frozen? ⟨wA.heap.size, k, none⟩ = false := (HE3.out.below hb4 s3).frozen k; have HO4 : Hid (Own w4 w3.heap.size w4.heap.size (.slice (some ⟨w3.heap.size, 0, none⟩) W W) W (fun _ => 0)) := ho4; have HB4 : Hid (Below w3.heap.size w3 w4) := hb4; have HWB : Hid (Below w.heap.size w (w4.setCell ⟨wA.heap.size, k, none⟩ (.slice (some ⟨w3.heap.size, 0, none⟩) W W))) := ((HW3.out.trans (hb4.mono HW3.out.size)).setCell (Nat.le_trans (Nat.le_succ _) (Nat.le_of_lt zA)) _); clear ho4 hb4) | (refine wpList_copy_splice rfl (.tmp 38) (.tmp 39) 33 33 rfl 5 Try.underlying33 size_u8 (some ⟨w3.heap.size, 0, none⟩) (some ⟨gb, A, none⟩) W W Ln Cp ?_ rfl w3.heap.size 0 (cellsOf W fun _ => 0) 5 (full_stored HO4.out (Nat.lt_of_lt_of_le szg s3)) (cellsOf c fun i => f (A + i)) HL1.out (fun hp => ⟨rfl, copy_src (HRD.out _ HWB.out) (by rw [cellsOf_length] at hp ⊢; exact hp)⟩) HL2.out (cellsOf_one c _) w3.heap.size (w4.setCell ⟨wA.heap.size, k, none⟩ (.slice (some ⟨w3.heap.size, 0, none⟩) W W)) (Below.refl _ _) (Nat.le_refl _) ?_; (simp [Act.eval]); intro w6 hF6 hb6; rw [hlc]))
        have HE4 := HE3.out.below HB4.out s3
        have ER := HE4.lay k hlt (n' := lenN W (k + 1)) (M' := fun j => if j = k then (fun _ => 0) else M j) (lo2 := w3.heap.size) (hi2 := w4.heap.size) (x := .slice (some ⟨w3.heap.size, 0, none⟩) W W) (by
          rw [show lenN W (k + 1) k = W by simp [lenN]]
          exact HO4.out.congr (fun i _ => by simp)) s3 (Nat.le_trans s3 HB4.out.size) (fun j hj hne => by
          unfold lenN
          by_cases cc : j < k
          · rw [if_pos cc, if_pos (by omega)]
          · rw [if_neg cc, if_neg (by omega)]) (fun j hj hne => by simp [hne])
        have F6 := hF6.out
        rw [HSP.out] at F6
        have s6 : w4.heap.size ≤ w6.heap.size := by have := hb6.size; simpa using this
        have O6 : Own w6 wA.heap.size w6.heap.size (.slice (some ⟨w3.heap.size, 0, none⟩) W W) W (M k) := own_of_full F6 HB3.out.size (by unfold maxLen; omega)
        have E6 := ER.filled (k := k) (M' := M) (hi' := w6.heap.size) hb6 (Nat.lt_of_lt_of_le szg s3) s6 (fun j hj hne q hq => by
          simp only [if_neg hne] at hq
          exact ((HE3.out.each j hj).1.lt q hq).2) (by
          rw [show lenN W (k + 1) k = W by simp [lenN]]
          simp only [if_pos]
          exact O6) (fun j hj hne => by simp [hne])
        have B6 : Below wA.heap.size wA w6 := ((HB3.out.trans (HB4.out.mono HB3.out.size)).setCell (Nat.le_refl _) _).trans (hb6.mono HB3.out.size)
        clear HE4 ER F6 O6 hF6 hb6 HO4 HB4 HWB HE3 HRD
        go_roundw
        case rel => exact ⟨k + 1, by omega, by go_num, HAO.out, _, E6, B6⟩
        case measure => simp [intOf]; omega
      · obtain rfl : k = P := by omega
        have E9 : OwnE wr wA.heap.size wr.heap.size (.slice (some ⟨wA.heap.size, 0, none⟩) k k) k (fun _ => W) M wA.heap.size k e' := ⟨hE.val, hE.low, hE.high, hE.row, fun i hi => by
          have := hE.each i hi
          rw [show lenN W k i = W by simp [lenN, hi]] at this
          exact this, hE.apart⟩
        have B9 : Below w.heap.size w wr := HBA.out.trans (hb.mono HBA.out.size)
        have X9 := HXB.out.below hb zA
        have z9 := X9.lt
        have HE9 : Hid (OwnE wr wA.heap.size wr.heap.size (.slice (some ⟨wA.heap.size, 0, none⟩) k k) k (fun _ => W) M wA.heap.size k e') := E9
        obtain ⟨r0, r1, r2, r3⟩ := res_cells X9
        clear hE hb hu E9 X9
        go_wp2
        refine bodyPost_ret (v := bytesR 0 (.slice (some ⟨wA.heap.size, 0, none⟩) k k)) (by simp [results, Try.results16, go_sem, bytesR, r0, r1]) rfl (HANS.out _ _ ?_ ((B9.setCell (Nat.le_succ _) _).setCell (Nat.le_succ _) _))
        have o1 := out_store wr (w.heap.size + 1) (w.heap.size + 2) (w.heap.size + 1) 0 (.int .i64 0) (Nat.le_refl _) (by omega)
        have o2 := out_store (wr.setCell ⟨w.heap.size + 1, 0, none⟩ (.int .i64 0)) (w.heap.size + 1) (w.heap.size + 2) (w.heap.size + 1) 1 (.slice (some ⟨wA.heap.size, 0, none⟩) k k) (Nat.le_refl _) (by omega)
        exact .inr ((OwnM.out ⟨_, _, _, HE9.out⟩ (o1.trans o2) (.inr (by omega))).weaken (by omega) (by rw [(o1.trans o2).size]; exact Nat.le_refl _))
  · have tc : (c != 0) = true := by simp [hc0]
    clear x0 x1 x2 x3 x4 x5 x6 x7 x8
    go_wp2
    have sz2 : w.heap.size + 1 < ((w1.setCell ⟨w.heap.size + 1, 0, none⟩ (.int .i64 c)).setCell ⟨w.heap.size + 1, 1, none⟩ (.slice none 0 0)).heap.size := by simp; exact z1
    have u0 : ((w1.setCell ⟨w.heap.size + 1, 0, none⟩ (.int .i64 c)).setCell ⟨w.heap.size + 1, 1, none⟩ (.slice none 0 0)).cell? ⟨w.heap.size + 1, 0, none⟩ = some (.int .i64 c) := by simp [go_sem, y0, y1]
    have u1 : ((w1.setCell ⟨w.heap.size + 1, 0, none⟩ (.int .i64 c)).setCell ⟨w.heap.size + 1, 1, none⟩ (.slice none 0 0)).cell? ⟨w.heap.size + 1, 1, none⟩ = some (.slice none 0 0) := by simp [go_sem, y0, y1]
    have q0 := alloc_cell (o := .cells #[.int .i64 c, .int .i64 x] 25) sz2 u0
    have q1 := alloc_cell (o := .cells #[.int .i64 c, .int .i64 x] 25) sz2 u1
    refine bodyPost_ret (v := bytesR c (.slice none 0 0)) (by simp [results, Try.results16, go_sem, bytesR, q0, q1]) rfl ⟨c, _, rfl, ⟨x, HP.out⟩, ?_, ((B1.setCell (Nat.le_succ _) _).setCell (Nat.le_succ _) _).alloc (by simp; omega) _⟩
    rw [if_neg hc0]
    exact OwnB.none _ _ _ _ _
end Go.Proofs.Ytdnankopblkblak
