/- For every shape and every slice of bytes the program's SplitObject answers as the specification's does, writes into no argument and hands back memory of its own: the law FnExactSplitObject returns true at every input, and changes nothing that was there. No condition. -/
import Derived.Test.YtdnankopblkblakRows
import Derived.Test.YtdnankopblkblakFrameM
import Derived.Test.YtdnankopblkblakFrameS
import Derived.Test.YtdnankopblkblakShapeB
import Derived.Test.YtdnankopblkblakWLists
import Derived.Test.YtdnankopblkblakWSz
import Derived.Test.YtdnankopblkblakWImplSp
namespace Go.Proofs.Ytdnankopblkblak
open Go.ChangeShapes Go.WideShapes Go.ChangeAt Go.RowKit F256
set_option linter.unusedVariables false

theorem so_ans (s : Nat → Int) (n : Nat) : ∃ c, SoAns s n c := by
  unfold SoAns
  by_cases h : OkShape s
  · by_cases k : (n : Int) < 1
    · exact ⟨6, 0, .inr (.inl ⟨h, k, rfl, rfl⟩)⟩
    · by_cases m : 3 * (s 2 * 4) < (n : Int)
      · exact ⟨2, 0, .inr (.inr (.inl ⟨h, by omega, m, rfl, rfl⟩))⟩
      · exact ⟨0, _, .inr (.inr (.inr ⟨h, by omega, by omega, rfl, rfl⟩))⟩
  · exact ⟨3, 0, .inl ⟨h, rfl, rfl⟩⟩
theorem sumN_same (N m : Nat) (hm : m ≤ 6) (hN : N ≤ 4000) : sumN (fun _ => N) m ≤ 100000 := by
  have : ∀ k, sumN (fun _ => N) k = k * N := by
    intro k
    induction k with
    | zero => simp [sumN]
    | succ k ih => rw [sumN, ih, Nat.succ_mul]
  rw [this]
  have := Nat.mul_le_mul hm hN
  omega
theorem fnExactSplitObject_both (s0 : Nat → Int) (h0 : ∀ i, -9223372036854775808 ≤ s0 i ∧ s0 i ≤ 9223372036854775807) (n1 : Nat) (f1 : Nat → Nat) (k1 : ∀ i, f1 i < 256) : ∃ (c : Int) (m : Nat) (nn : Nat → Nat) (g : Mat), m ≤ 4000 ∧ sumN nn m ≤ 100000 ∧
    (∀ (v1 : Value) (l1 e1 : Nat) (w : World), Own w l1 e1 v1 n1 f1 → e1 ≤ w.heap.size →
      Calls Try.prog 14 #[shapeV s0, v1] w fun e w' => ∃ v', e = .returned (bytesR c v') ∧ OwnB w' w.heap.size w'.heap.size v' m nn g ∧ Below w.heap.size w w') ∧
    (∀ (v1 : Value) (l1 e1 : Nat) (w : World), Own w l1 e1 v1 n1 f1 → e1 ≤ w.heap.size →
      Calls Try.prog 16 #[shapeV s0, v1] w fun e w' => ∃ v', e = .returned (bytesR c v') ∧ OwnB w' w.heap.size w'.heap.size v' m nn g ∧ Below w.heap.size w w') := by
  obtain ⟨c, hc⟩ := so_ans s0 n1
  have hb : (if c = 0 then partN (s0 2).toNat n1 else 0) ≤ 3 ∧ (c = 0 → 4 * (s0 2).toNat ≤ 12) := by
    by_cases h0 : c = 0
    · subst h0
      obtain ⟨v, hv⟩ := hc
      rcases hv with ⟨_, h, _⟩ | ⟨_, _, h, _⟩ | ⟨_, _, _, h, _⟩ | ⟨h1, h2, h3, _, _⟩
      · omega
      · omega
      · omega
      · obtain ⟨D, hD, hD1, hD3⟩ := ok_data h1
        have hT : (s0 2).toNat = D := by rw [hD]; simp
        rw [if_pos rfl, hT]
        exact ⟨(part_bounds hD1 hD3 (by omega) (by rw [hD] at h3; omega)).2.1, fun _ => by omega⟩
    · rw [if_neg h0]
      exact ⟨by omega, fun h => absurd h h0⟩
  refine ⟨c, (if c = 0 then partN (s0 2).toNat n1 else 0), fun _ => 4 * (s0 2).toNat, splitN (s0 2).toNat n1 f1, by omega, ?_, fun v1 l1 e1 w o he => (specSplit_any s0 v1 n1 f1 e1 w o.rd he).mono ?_, fun v1 l1 e1 w o he => (implSplit_any s0 v1 n1 f1 l1 e1 w o he).mono ?_⟩
  · by_cases h0 : c = 0
    · exact sumN_same _ _ (by omega) (by have := hb.2 h0; omega)
    · rw [if_neg h0]
      show (0 : Nat) ≤ 100000
      omega
  · rintro e w' ⟨x, v', rfl, hx, ho, hbb⟩
    obtain rfl := hx.one hc
    exact ⟨v', rfl, ho, hbb⟩
  · rintro e w' ⟨x, v', rfl, hx, ho, hbb⟩
    obtain rfl := hx.one hc
    exact ⟨v', rfl, ho, hbb⟩

set_option maxHeartbeats 4000000 in
theorem fnExactSplitObject_walk (s0 : Nat → Int) (h0 : ∀ i, -9223372036854775808 ≤ s0 i ∧ s0 i ≤ 9223372036854775807) (a1 : Option Addr) (n1 c1 : Nat) (z1 : List Int) (w : World) (q1 : IsRow w a1 n1 c1 z1) :
    Calls Try.prog 5 #[shapeV s0, .slice a1 n1 c1] w fun e w' => e = .returned (.bool true) ∧ Below w.heap.size w w' := by
  obtain ⟨f1, k1, r1⟩ := q1.rd
  have l1 : n1 ≤ 9223372036854775807 := by obtain ⟨_, _, _, h, _⟩ := r1; unfold maxLen at h; omega
  clear q1
  by_cases t1 : 1048576 < n1
  · unfold shapeV
    go_enter Try.func5, Try.ntmps5
    go_wp2
    go_ret
    exact ⟨rfl, (Below.refl _ _).alloc (Nat.le_refl _) _⟩
  obtain ⟨c, m, nn, g, hm, hsm, hs, hi⟩ := fnExactSplitObject_both s0 h0 n1 f1 k1
  clear k1
  have bel := Below.refl w.heap.size w
  have CT := toShape_any s0
  unfold shapeV at *
  go_enter Try.func5, Try.ntmps5
  go_wp2_with fail
  obtain ⟨wS, hwS⟩ : ∃ x, x = w.alloc (.cells #[.int .i64 (s0 0), .int .i64 (s0 1), .int .i64 (s0 2), .int .i64 (s0 3), .int .i64 (s0 4), .int .i64 (s0 5), .int .i64 (s0 6), .int .i64 (s0 7), .int .i64 (s0 8)] 23) := ⟨_, rfl⟩
  rw [← hwS]
  have boxS := box_new w #[.int .i64 (s0 0), .int .i64 (s0 1), .int .i64 (s0 2), .int .i64 (s0 3), .int .i64 (s0 4), .int .i64 (s0 5), .int .i64 (s0 6), .int .i64 (s0 7), .int .i64 (s0 8)] 23
  rw [← hwS] at boxS
  have eboxS := boxS.lt
  have bS : Below w.heap.size w wS := by rw [hwS]; exact (Below.refl _ _).alloc (Nat.le_refl _) _
  replace r1 := r1.below bS (by omega)
  replace bel := bS
  clear bS hwS
  obtain ⟨x0, x1, x2, x3, x4, x5, x6, x7, x8⟩ := box9 boxS
  refine (CT _).mono ?_
  rintro e w1 ⟨rfl, b1⟩
  clear x0 x1 x2 x3 x4 x5 x6 x7 x8
  have sw1 : wS.heap.size ≤ w1.heap.size := b1.size
  replace r1 := r1.below b1 (by omega)
  replace boxS := boxS.below b1 (by omega)
  replace bel := bthen bel b1
  go_wp2_with fail
  refine (toByteS_any _ n1 f1 w.heap.size _ r1 (by omega) (by omega)).mono ?_
  rintro e w2 ⟨vt1, rfl, ot1, b2⟩
  have sw2 : w1.heap.size ≤ w2.heap.size := b2.size
  replace r1 := r1.below b2 (by omega)
  replace boxS := boxS.below b2 (by omega)
  replace bel := bthen bel b2
  go_wp2_with fail
  refine (hs vt1 _ _ _ ot1 (by omega)).mono ?_
  rintro e w3 ⟨vW, rfl, oW, b3⟩
  obtain ⟨aoW, capW, rfl⟩ := oW.slice
  unfold bytesR
  have sw3 : w2.heap.size ≤ w3.heap.size := b3.size
  replace r1 := r1.below b3 (by omega)
  replace boxS := boxS.below b3 (by omega)
  replace ot1 := ot1.below b3 (by omega)
  replace bel := bthen bel b3
  clear ot1
  go_wp2_with fail
  have rx := r1.below (Below.alloc (Below.refl w3.heap.size w3) (Nat.le_refl _) (.cells #[.int .i64 c, .slice aoW m capW] 36)) (by omega)
  refine (toByteS_any _ n1 f1 w.heap.size _ rx (by simp <;> omega) (by omega)).mono ?_
  rintro e w4 ⟨vx1, rfl, ox1, b4⟩
  clear rx
  replace ox1 := ox1.weaken (lo' := w3.heap.size + 1) (by simp) (Nat.le_refl _)
  have sw4 : w3.heap.size ≤ w4.heap.size := (bnew b4).size
  have boxW := (box_new w3 _ _).below b4 (by simp)
  have eboxW : w3.heap.size < w4.heap.size := bsize b4
  replace r1 := r1.below (bnew b4) (by omega)
  replace boxS := boxS.below (bnew b4) (by omega)
  replace oW := oW.below (bnew b4) (by omega)
  replace bel := bthen bel (bnew b4)
  obtain ⟨x0, x1, x2, x3, x4, x5, x6, x7, x8⟩ := box9 boxS
  go_wp2_with fail
  refine (CT _).mono ?_
  rintro e w5 ⟨rfl, b5⟩
  clear x0 x1 x2 x3 x4 x5 x6 x7 x8
  have sw5 : w4.heap.size ≤ w5.heap.size := b5.size
  replace r1 := r1.below b5 (by omega)
  replace boxS := boxS.below b5 (by omega)
  replace oW := oW.below b5 (by omega)
  replace boxW := boxW.below b5 (by omega)
  replace ox1 := ox1.below b5 (by omega)
  replace bel := bthen bel b5
  go_wp2_with fail
  refine (hi vx1 _ _ _ ox1 (by omega)).mono ?_
  rintro e w6 ⟨vG, rfl, oG, b6⟩
  obtain ⟨aoG, capG, rfl⟩ := oG.slice
  unfold bytesR
  have sw6 : w5.heap.size ≤ w6.heap.size := b6.size
  replace r1 := r1.below b6 (by omega)
  replace boxS := boxS.below b6 (by omega)
  replace oW := oW.below b6 (by omega)
  replace boxW := boxW.below b6 (by omega)
  replace ox1 := ox1.below b6 (by omega)
  replace bel := bthen bel b6
  obtain ⟨d0, d1, -, -⟩ := res_cells boxW
  have dz : w3.heap.size < w6.heap.size := by omega
  go_wp2_with fail
  have rx := oG.alloc (.cells #[.int .i64 c, .slice aoG m capG] 36)
  have ry := oW.alloc (.cells #[.int .i64 c, .slice aoG m capG] 36)
  refine (eqListsR_same c (.slice aoG m capG) (.slice aoW m capW) m nn g _ _ _ rx.rd ry.rd (by simp <;> omega) (by simp <;> omega)).mono ?_
  clear rx ry d0 d1 dz
  rintro e w7 ⟨rfl, b7⟩
  have sw7 : w6.heap.size ≤ w7.heap.size := (bnew b7).size
  have boxG := (box_new w6 _ _).below b7 (by simp)
  have eboxG : w6.heap.size < w7.heap.size := bsize b7
  replace r1 := r1.below (bnew b7) (by omega)
  replace boxS := boxS.below (bnew b7) (by omega)
  replace oW := oW.below (bnew b7) (by omega)
  replace boxW := boxW.below (bnew b7) (by omega)
  replace ox1 := ox1.below (bnew b7) (by omega)
  replace oG := oG.below (bnew b7) (by omega)
  replace bel := bthen bel (bnew b7)
  go_wp2_with fail
  refine (toByteS_any _ n1 f1 w.heap.size _ r1 (by omega) (by omega)).mono ?_
  rintro e w8 ⟨vy1, rfl, oy1, b8⟩
  have sw8 : w7.heap.size ≤ w8.heap.size := b8.size
  replace r1 := r1.below b8 (by omega)
  replace boxS := boxS.below b8 (by omega)
  replace oW := oW.below b8 (by omega)
  replace boxW := boxW.below b8 (by omega)
  replace ox1 := ox1.below b8 (by omega)
  replace oG := oG.below b8 (by omega)
  replace boxG := boxG.below b8 (by omega)
  replace bel := bthen bel b8
  go_wp2_with fail
  refine (eqByteS_same vx1 vy1 n1 f1 _ _ _ ox1.rd oy1.rd).mono ?_
  rintro e w9 ⟨rfl, b9⟩
  clear oy1
  have sw9 : w8.heap.size ≤ w9.heap.size := b9.size
  replace r1 := r1.below b9 (by omega)
  replace boxS := boxS.below b9 (by omega)
  replace oW := oW.below b9 (by omega)
  replace boxW := boxW.below b9 (by omega)
  replace ox1 := ox1.below b9 (by omega)
  replace oG := oG.below b9 (by omega)
  replace boxG := boxG.below b9 (by omega)
  replace bel := bthen bel b9
  go_wp2_with fail
  refine (markByteS_any vx1 n1 f1 _ _ 1 (by omega) (by omega) _ ox1).mono ?_
  rintro e w10 ⟨rfl, om1, out1⟩
  have ch := out1.chg
  clear out1
  clear ox1 om1
  have sw10 : w9.heap.size ≤ w10.heap.size := ch.size
  replace r1 := r1.chg ch (by omega) (by omega)
  replace boxS := boxS.chg ch (by omega)
  replace oW := oW.chg ch (by omega)
  replace boxW := boxW.chg ch (by omega)
  replace oG := oG.chg ch (by omega)
  replace boxG := boxG.chg ch (by omega)
  replace bel := bel.trans (ch.below (by omega) (by omega))
  clear ch
  skip
  obtain ⟨d0, d1, -, -⟩ := res_cells boxW
  obtain ⟨d2, d3, -, -⟩ := res_cells boxG
  go_wp2_with fail
  refine (eqListsR_same c (.slice aoG m capG) (.slice aoW m capW) m nn g _ _ _ oG.rd oW.rd (by omega) (by omega)).mono ?_
  clear d0 d1 d2 d3
  rintro e w11 ⟨rfl, b11⟩
  have sw11 : w10.heap.size ≤ w11.heap.size := b11.size
  replace r1 := r1.below b11 (by omega)
  replace boxS := boxS.below b11 (by omega)
  replace oW := oW.below b11 (by omega)
  replace boxW := boxW.below b11 (by omega)
  replace oG := oG.below b11 (by omega)
  replace boxG := boxG.below b11 (by omega)
  replace bel := bthen bel b11
  obtain ⟨d0, d1, -, -⟩ := res_cells boxG
  go_wp2_with fail
  refine (markListsR_any c (.slice aoG m capG) m nn g _ _ 1 (by omega) (by omega) (by omega) _ oG (by omega)).mono ?_
  rintro e w12 ⟨rfl, oM, ch⟩
  clear d0 d1 oG
  have sw12 : w11.heap.size ≤ w12.heap.size := ch.size
  replace r1 := r1.chg ch (by omega) (by omega)
  replace boxS := boxS.chg ch (by omega)
  replace oW := oW.chg ch (by omega)
  replace boxW := boxW.chg ch (by omega)
  replace boxG := boxG.chg ch (by omega)
  replace bel := bel.trans (ch.below (by omega) (by omega))
  clear ch
  obtain ⟨d0, d1, -, -⟩ := res_cells boxG
  go_wp2_with fail
  refine (heldListsR_any c (.slice aoG m capG) m nn _ 1 (by omega) (by omega) (by omega) _ oM.rd (by omega)).mono ?_
  rintro e w13 ⟨rfl, b13⟩
  clear d0 d1
  have sw13 : w12.heap.size ≤ w13.heap.size := b13.size
  replace r1 := r1.below b13 (by omega)
  replace boxS := boxS.below b13 (by omega)
  replace oW := oW.below b13 (by omega)
  replace boxW := boxW.below b13 (by omega)
  replace boxG := boxG.below b13 (by omega)
  replace oM := oM.below b13 (by omega)
  replace bel := bthen bel b13
  obtain ⟨x0, x1, x2, x3, x4, x5, x6, x7, x8⟩ := box9 boxS
  go_wp2_with fail
  refine (CT _).mono ?_
  rintro e w14 ⟨rfl, b14⟩
  clear x0 x1 x2 x3 x4 x5 x6 x7 x8
  have sw14 : w13.heap.size ≤ w14.heap.size := b14.size
  replace r1 := r1.below b14 (by omega)
  replace boxS := boxS.below b14 (by omega)
  replace oW := oW.below b14 (by omega)
  replace boxW := boxW.below b14 (by omega)
  replace boxG := boxG.below b14 (by omega)
  replace oM := oM.below b14 (by omega)
  replace bel := bthen bel b14
  go_wp2_with fail
  refine (toByteS_any _ n1 f1 w.heap.size _ r1 (by omega) (by omega)).mono ?_
  rintro e w15 ⟨vu1, rfl, ou1, b15⟩
  have sw15 : w14.heap.size ≤ w15.heap.size := b15.size
  replace r1 := r1.below b15 (by omega)
  replace boxS := boxS.below b15 (by omega)
  replace oW := oW.below b15 (by omega)
  replace boxW := boxW.below b15 (by omega)
  replace boxG := boxG.below b15 (by omega)
  replace oM := oM.below b15 (by omega)
  replace bel := bthen bel b15
  go_wp2_with fail
  refine (hi vu1 _ _ _ ou1 (by omega)).mono ?_
  rintro e w16 ⟨vH, rfl, oH, b16⟩
  obtain ⟨aoH, capH, rfl⟩ := oH.slice
  unfold bytesR
  have sw16 : w15.heap.size ≤ w16.heap.size := b16.size
  replace r1 := r1.below b16 (by omega)
  replace boxS := boxS.below b16 (by omega)
  replace oW := oW.below b16 (by omega)
  replace boxW := boxW.below b16 (by omega)
  replace boxG := boxG.below b16 (by omega)
  replace oM := oM.below b16 (by omega)
  replace ou1 := ou1.below b16 (by omega)
  replace bel := bthen bel b16
  clear ou1
  obtain ⟨d0, d1, -, -⟩ := res_cells boxW
  have dz : w3.heap.size < w16.heap.size := by omega
  go_wp2_with fail
  have rx := oH.alloc (.cells #[.int .i64 c, .slice aoH m capH] 36)
  have ry := oW.alloc (.cells #[.int .i64 c, .slice aoH m capH] 36)
  refine (eqListsR_same c (.slice aoH m capH) (.slice aoW m capW) m nn g _ _ _ rx.rd ry.rd (by simp <;> omega) (by simp <;> omega)).mono ?_
  clear rx ry d0 d1 dz
  rintro e w17 ⟨rfl, b17⟩
  have sw17 : w16.heap.size ≤ w17.heap.size := (bnew b17).size
  have boxH := (box_new w16 _ _).below b17 (by simp)
  have eboxH : w16.heap.size < w17.heap.size := bsize b17
  replace r1 := r1.below (bnew b17) (by omega)
  replace boxS := boxS.below (bnew b17) (by omega)
  replace oW := oW.below (bnew b17) (by omega)
  replace boxW := boxW.below (bnew b17) (by omega)
  replace boxG := boxG.below (bnew b17) (by omega)
  replace oM := oM.below (bnew b17) (by omega)
  replace oH := oH.below (bnew b17) (by omega)
  replace bel := bthen bel (bnew b17)
  obtain ⟨d0, d1, -, -⟩ := res_cells boxG
  go_wp2_with fail
  refine (heldListsR_any c (.slice aoG m capG) m nn _ 1 (by omega) (by omega) (by omega) _ oM.rd (by omega)).mono ?_
  rintro e w18 ⟨rfl, b18⟩
  clear d0 d1
  have sw18 : w17.heap.size ≤ w18.heap.size := b18.size
  replace r1 := r1.below b18 (by omega)
  replace boxS := boxS.below b18 (by omega)
  replace oW := oW.below b18 (by omega)
  replace boxW := boxW.below b18 (by omega)
  replace boxG := boxG.below b18 (by omega)
  replace oM := oM.below b18 (by omega)
  replace oH := oH.below b18 (by omega)
  replace boxH := boxH.below b18 (by omega)
  replace bel := bthen bel b18
  go_wp2
  go_ret
  exact ⟨rfl, bel⟩

set_option maxRecDepth 100000 in
theorem fnExactSplitObject_lifted (os : Os) (started : os.Started) (H : Type) (enc : TypeId × Value → H) :
    ReturnsInHanded {} Try.checked os 5 .any (Rows.fnExactSplitObjectSpec.pre6 enc Try.prog Try.f5 Rows.fnExactSplitObjectRow.domain false) (Rows.fnExactSplitObjectSpec.post enc Try.prog Try.f5 false true false false) := by
  refine returnsInHanded_of_change (C := Try.checked) frame_own started (by kernel_rfl) Try.func5
    (ChangeSpec.witness6 (enc := enc) (C := Try.checked) false ⟨#[], #[.agg #[.int .i64 0, .int .i64 0, .int .i64 0, .int .i64 0, .int .i64 0, .int .i64 0, .int .i64 0, .int .i64 0, .int .i64 0], .slice none 0 0], []⟩ 8 (by kernel_rfl) (by kernel_rfl) (by kernel_rfl) (by kernel_rfl)) ?_
  intro W base args ds gs before hval0 hW hcnd _
  have hval : ∀ (j : Nat) t v, Try.f5.params[j]? = some t → args[j]? = some v → Value.okWide Try.prog W .any base t v := hval0
  have hW' := hW
  obtain ⟨p, q, hA0, hV, rfl, hfz, hnd⟩ := hW
  have hA : DataW.TrodAll enc Try.prog W 0 (fun _ => true) true Try.f5.params.toList args.toList ds p := hA0
  rw [Try.params5] at hA hval
  obtain ⟨v0, vs0, d0, ds0, p0, q0, hargs, rfl, rfl, h0, r0⟩ := trodAll_cons hA
  obtain ⟨v1, vs1, d1, ds1, p1, q1, rfl, rfl, rfl, h1, r1⟩ := trodAll_cons r0
  obtain ⟨rfl, rfl, rfl⟩ := trodAll_nil r1
  obtain rfl : args = #[v0, v1] := by cases args; simp_all
  obtain ⟨rfl, rfl⟩ := trodVars_none hV
  have k0 := h0
  have lt0 : ∀ x ∈ p0, x.block < W.heap.size := by obtain ⟨m, hm⟩ := k0; exact DataW.trod_lt m _ _ _ hm
  obtain ⟨s0, rfl, hs0⟩ := shape_of_trod Try.underlying23 Try.underlying2 (by kernel_rfl) (by kernel_rfl) (fun i hi => by
    match i, hi with
    | 0, _ => exact ⟨_, rfl, rfl, rfl⟩
    | 1, _ => exact ⟨_, rfl, rfl, rfl⟩
    | 2, _ => exact ⟨_, rfl, rfl, rfl⟩
    | 3, _ => exact ⟨_, rfl, rfl, rfl⟩
    | 4, _ => exact ⟨_, rfl, rfl, rfl⟩
    | 5, _ => exact ⟨_, rfl, rfl, rfl⟩
    | 6, _ => exact ⟨_, rfl, rfl, rfl⟩
    | 7, _ => exact ⟨_, rfl, rfl, rfl⟩
    | 8, _ => exact ⟨_, rfl, rfl, rfl⟩) (hval 0 23 v0 rfl rfl) h0
  obtain ⟨a1, len1, cap1, rfl⟩ := okWide_slice Try.underlying33 (hval 1 33 v1 rfl rfl)
  have k1 := h1
  have lt1 : ∀ x ∈ p1, x.block < W.heap.size := by obtain ⟨m, hm⟩ := k1; exact DataW.trod_lt m _ _ _ hm
  obtain ⟨z1, w1⟩ : ∃ zs, IsRow W a1 len1 cap1 zs := row_of_trod Try.underlying33 Try.underlying5 (by kernel_rfl) h1
  clear hA0 hval0
  refine (fnExactSplitObject_walk s0 hs0 a1 len1 cap1 z1 W w1).mono fun e W' ⟨he, bel⟩ => ?_
  subst he
  exact ⟨_, rfl, _, _, _, [], _, [], hW', trodAll_mk1 (shut_bool Try.underlying4 _), (trodAll_cons_mk (Below.trod frame_laid (by kernel_rfl) (of_decide_eq_true (by kernel_rfl)) k0 bel lt0) (trodAll_cons_mk (Below.trod frame_laid (by kernel_rfl) (of_decide_eq_true (by kernel_rfl)) k1 bel lt1) trodAll_mk0)), rfl, bel.frame _, fun h => by cases h⟩

theorem fnExactSplitObject_proved : Rows.FnExactSplitObjectSaid :=
  OpenClaim.holds_of_wide 5 Try.f5 rfl rfl rfl rfl rfl rfl rfl ⟨rfl, rfl, rfl, rfl, rfl⟩ rfl rfl rfl rfl rfl (by kernel_rfl) Try.func5 (by kernel_rfl)
    (of_decide_eq_true (by kernel_rfl)) (by unfold Func.isWrapper; first | (rw [if_pos (by decide +kernel)]; kernel_rfl) | (rw [if_neg (by decide +kernel)]; exact ⟨rfl, rfl⟩))
    (fun os started H enc _ => fnExactSplitObject_lifted os started H enc)
#print axioms fnExactSplitObject_proved
end Go.Proofs.Ytdnankopblkblak
