/- For every shape, every slice of slices of bytes and every number the program's JoinObject answers as the specification's does, writes into no argument and hands back memory of its own: the law FnExactJoinObject returns true at every input, and changes nothing that was there. No condition. -/
import Derived.Test.YtdnankopblkblakRows
import Derived.Test.YtdnankopblkblakFrameM
import Derived.Test.YtdnankopblkblakFrameS
import Derived.Test.YtdnankopblkblakShapeB
import Derived.Test.YtdnankopblkblakWLists
import Derived.Test.YtdnankopblkblakWSz
import Derived.Test.YtdnankopblkblakWImplJn
namespace Go.Proofs.Ytdnankopblkblak
open Go.ChangeShapes Go.WideShapes Go.ChangeAt Go.RowKit F256
set_option linter.unusedVariables false

theorem pf_ans (s : Nat → Int) (l : Int) : ∃ x c, PfAns s l x c := by
  by_cases h : OkShape s
  · by_cases k : l < 1
    · exact ⟨0, 6, .inr (.inl ⟨h, k, rfl, rfl⟩)⟩
    · by_cases m : 3 * (s 2 * 4) < l
      · exact ⟨0, 2, .inr (.inr (.inl ⟨h, by omega, m, rfl, rfl⟩))⟩
      · exact ⟨_, 0, .inr (.inr (.inr ⟨h, by omega, by omega, rfl, rfl⟩))⟩
  · exact ⟨0, 3, .inl ⟨h, rfl, rfl⟩⟩
theorem jo_ans (s : Nat → Int) (R : Nat) (n : Nat → Nat) (l : Int) : ∃ c, JoAns s R n l c := by
  obtain ⟨v, c, h⟩ := pf_ans s l
  by_cases h0 : c = 0
  · subst h0
    by_cases h1 : (R : Int) = v
    · by_cases h2 : ∀ i, i < R → n i = 4 * (s 2).toNat
      · exact ⟨0, .inr (.inr ⟨rfl, v, h, h1, h2⟩)⟩
      · exact ⟨1, .inr (.inl ⟨rfl, v, h, .inr (Classical.byContradiction fun h3 => h2 fun i hi => Classical.byContradiction fun h4 => h3 ⟨i, hi, h4⟩)⟩)⟩
    · exact ⟨1, .inr (.inl ⟨rfl, v, h, .inl h1⟩)⟩
  · exact ⟨c, .inl ⟨h0, v, h⟩⟩
theorem fnExactJoinObject_both (s0 : Nat → Int) (h0 : ∀ i, -9223372036854775808 ≤ s0 i ∧ s0 i ≤ 9223372036854775807) (n1 : Nat) (m1 : Nat → Nat) (f1 : Nat → Nat → Nat) (k1 : ∀ i j, f1 i j < 256) (a2 : Int) (h2 : -9223372036854775808 ≤ a2 ∧ a2 ≤ 9223372036854775807) : ∃ (c : Int) (m : Nat) (g : Nat → Nat), m ≤ 4000 ∧
    (∀ (v1 : Value) (l1 e1 : Nat) (w : World), OwnM w l1 e1 v1 n1 m1 f1 → e1 ≤ w.heap.size →
      Calls Try.prog 23 #[shapeV s0, v1, .int .i64 a2] w fun e w' => ∃ v', e = .returned (bytesR c v') ∧ Own w' w.heap.size w'.heap.size v' m g ∧ Below w.heap.size w w') ∧
    (∀ (v1 : Value) (l1 e1 : Nat) (w : World), OwnM w l1 e1 v1 n1 m1 f1 → e1 ≤ w.heap.size →
      Calls Try.prog 25 #[shapeV s0, v1, .int .i64 a2] w fun e w' => ∃ v', e = .returned (bytesR c v') ∧ Own w' w.heap.size w'.heap.size v' m g ∧ Below w.heap.size w w') := by
  obtain ⟨c, hc⟩ := jo_ans s0 n1 m1 a2
  have hb : (if c = 0 then a2.toNat else 0) ≤ 4000 := by
    by_cases h0 : c = 0
    · subst h0
      rw [if_pos rfl]
      rcases hc with ⟨h, _⟩ | ⟨h, _⟩ | ⟨_, v, hv, _⟩
      · exact absurd rfl h
      · omega
      · rcases hv with ⟨_, h, _⟩ | ⟨_, _, h, _⟩ | ⟨_, _, _, h, _⟩ | ⟨h1, h2, h3, _, _⟩
        · omega
        · omega
        · omega
        · obtain ⟨D, hD, hD1, hD3⟩ := ok_data h1
          rw [hD] at h3
          omega
    · rw [if_neg h0]; omega
  refine ⟨c, (if c = 0 then a2.toNat else 0), joinW (4 * (s0 2).toNat) f1, hb, fun v1 l1 e1 w o he => (specJoin_any s0 v1 n1 m1 f1 a2 e1 w o.rd he).mono ?_, fun v1 l1 e1 w o he => (implJoin_any s0 v1 n1 m1 f1 a2 e1 w o.rd he).mono ?_⟩
  · rintro e w' ⟨x, v', rfl, hx, ho, hbb⟩
    obtain rfl := hx.one hc
    exact ⟨v', rfl, ho, hbb⟩
  · rintro e w' ⟨x, v', rfl, hx, ho, hbb⟩
    obtain rfl := hx.one hc
    exact ⟨v', rfl, ho, hbb⟩

set_option maxHeartbeats 4000000 in
theorem fnExactJoinObject_walk (s0 : Nat → Int) (h0 : ∀ i, -9223372036854775808 ≤ s0 i ∧ s0 i ≤ 9223372036854775807) (a1 : Option Addr) (n1 c1 : Nat) (m1 : Nat → Nat) (f1 : Nat → Nat → Nat) (k1 : ∀ i j, f1 i j < 256) (a2 : Int) (h2 : -9223372036854775808 ≤ a2 ∧ a2 ≤ 9223372036854775807) (w : World) (r1 : RdM w w.heap.size (.slice a1 n1 c1) n1 m1 f1) :
    Calls Try.prog 6 #[shapeV s0, .slice a1 n1 c1, .int .i64 a2] w fun e w' => e = .returned (.bool true) ∧ Below w.heap.size w w' := by
  have l1 : n1 ≤ 9223372036854775807 := by obtain ⟨_, _, _, _, h, _⟩ := r1; unfold maxLen at h; omega
  obtain ⟨c, m, g, hm, hs, hi⟩ := fnExactJoinObject_both s0 h0 n1 m1 f1 k1 a2 h2
  clear k1
  have bel := Below.refl w.heap.size w
  have CT := toShape_any s0
  unfold shapeV at *
  go_enter Try.func6, Try.ntmps6
  go_wp2_with fail
  obtain ⟨wS, hwS⟩ : ∃ x, x = w.alloc (.cells #[.int .i64 (s0 0), .int .i64 (s0 1), .int .i64 (s0 2), .int .i64 (s0 3), .int .i64 (s0 4), .int .i64 (s0 5), .int .i64 (s0 6), .int .i64 (s0 7), .int .i64 (s0 8)] 23) := ⟨_, rfl⟩
  rw [← hwS]
  have boxS := box_new w #[.int .i64 (s0 0), .int .i64 (s0 1), .int .i64 (s0 2), .int .i64 (s0 3), .int .i64 (s0 4), .int .i64 (s0 5), .int .i64 (s0 6), .int .i64 (s0 7), .int .i64 (s0 8)] 23
  rw [← hwS] at boxS
  have eboxS := boxS.lt
  have bS : Below w.heap.size w wS := by rw [hwS]; exact (Below.refl _ _).alloc (Nat.le_refl _) _
  replace r1 := r1.below bS (by omega)
  replace bel := bS
  clear bS hwS
  refine (szByteSS_any _ n1 m1 f1 _ _ r1 1048576 (by omega)).mono ?_
  rintro e wz ⟨x1, rfl, hx1, hwz⟩
  obtain rfl := hwz.symm
  rcases hx1 with rfl | ⟨sz1, rfl⟩
  · go_wp2
    go_ret
    exact ⟨rfl, bel⟩
  have le1 : ∀ i, i < n1 → m1 i ≤ 1000000000 := fun i hi => by have := le_sumN m1 hi; omega
  obtain ⟨x0, x1, x2, x3, x4, x5, x6, x7, x8⟩ := box9 boxS
  go_wp2_with fail
  refine (CT _).mono ?_
  rintro e w1 ⟨rfl, b1⟩
  clear x0 x1 x2 x3 x4 x5 x6 x7 x8
  have sw1 : wS.heap.size ≤ w1.heap.size := b1.size
  replace r1 := r1.below b1 (by omega)
  replace boxS := boxS.below b1 (by omega)
  replace bel := bthen bel b1
  go_wp2_with fail
  refine (toByteSS_any _ n1 m1 f1 w.heap.size _ r1 (by omega) (by omega) le1).mono ?_
  rintro e w2 ⟨vt1, rfl, ot1, b2⟩
  have sw2 : w1.heap.size ≤ w2.heap.size := b2.size
  replace r1 := r1.below b2 (by omega)
  replace boxS := boxS.below b2 (by omega)
  replace bel := bthen bel b2
  go_wp2_with fail
  refine (hs vt1 _ _ _ ot1 (by omega)).mono ?_
  rintro e w3 ⟨vW, rfl, oW, b3⟩
  obtain ⟨aoW, capW, rfl⟩ := oW.slice
  unfold bytesR
  have sw3 : w2.heap.size ≤ w3.heap.size := b3.size
  replace r1 := r1.below b3 (by omega)
  replace boxS := boxS.below b3 (by omega)
  replace ot1 := ot1.below b3 (by omega)
  replace bel := bthen bel b3
  clear ot1
  go_wp2_with fail
  have rx := r1.below (Below.alloc (Below.refl w3.heap.size w3) (Nat.le_refl _) (.cells #[.int .i64 c, .slice aoW m capW] 46)) (by omega)
  refine (toByteSS_any _ n1 m1 f1 w.heap.size _ rx (by simp <;> omega) (by omega) le1).mono ?_
  rintro e w4 ⟨vx1, rfl, ox1, b4⟩
  clear rx
  replace ox1 := ox1.weaken (lo' := w3.heap.size + 1) (by simp) (Nat.le_refl _)
  have sw4 : w3.heap.size ≤ w4.heap.size := (bnew b4).size
  have boxW := (box_new w3 _ _).below b4 (by simp)
  have eboxW : w3.heap.size < w4.heap.size := bsize b4
  replace r1 := r1.below (bnew b4) (by omega)
  replace boxS := boxS.below (bnew b4) (by omega)
  replace oW := oW.below (bnew b4) (by omega)
  replace bel := bthen bel (bnew b4)
  obtain ⟨x0, x1, x2, x3, x4, x5, x6, x7, x8⟩ := box9 boxS
  go_wp2_with fail
  refine (CT _).mono ?_
  rintro e w5 ⟨rfl, b5⟩
  clear x0 x1 x2 x3 x4 x5 x6 x7 x8
  have sw5 : w4.heap.size ≤ w5.heap.size := b5.size
  replace r1 := r1.below b5 (by omega)
  replace boxS := boxS.below b5 (by omega)
  replace oW := oW.below b5 (by omega)
  replace boxW := boxW.below b5 (by omega)
  replace ox1 := ox1.below b5 (by omega)
  replace bel := bthen bel b5
  go_wp2_with fail
  refine (hi vx1 _ _ _ ox1 (by omega)).mono ?_
  rintro e w6 ⟨vG, rfl, oG, b6⟩
  obtain ⟨aoG, capG, rfl⟩ := oG.slice
  unfold bytesR
  have sw6 : w5.heap.size ≤ w6.heap.size := b6.size
  replace r1 := r1.below b6 (by omega)
  replace boxS := boxS.below b6 (by omega)
  replace oW := oW.below b6 (by omega)
  replace boxW := boxW.below b6 (by omega)
  replace ox1 := ox1.below b6 (by omega)
  replace bel := bthen bel b6
  obtain ⟨d0, d1, -, -⟩ := res_cells boxW
  have dz : w3.heap.size < w6.heap.size := by omega
  go_wp2_with fail
  have rx := oG.alloc (.cells #[.int .i64 c, .slice aoG m capG] 46)
  have ry := oW.alloc (.cells #[.int .i64 c, .slice aoG m capG] 46)
  refine (eqBytesR_same c (.slice aoG m capG) (.slice aoW m capW) m g _ _ _ rx.rd ry.rd (by simp <;> omega) (by simp <;> omega)).mono ?_
  clear rx ry d0 d1 dz
  rintro e w7 ⟨rfl, b7⟩
  have sw7 : w6.heap.size ≤ w7.heap.size := (bnew b7).size
  have boxG := (box_new w6 _ _).below b7 (by simp)
  have eboxG : w6.heap.size < w7.heap.size := bsize b7
  replace r1 := r1.below (bnew b7) (by omega)
  replace boxS := boxS.below (bnew b7) (by omega)
  replace oW := oW.below (bnew b7) (by omega)
  replace boxW := boxW.below (bnew b7) (by omega)
  replace ox1 := ox1.below (bnew b7) (by omega)
  replace oG := oG.below (bnew b7) (by omega)
  replace bel := bthen bel (bnew b7)
  go_wp2_with fail
  refine (toByteSS_any _ n1 m1 f1 w.heap.size _ r1 (by omega) (by omega) le1).mono ?_
  rintro e w8 ⟨vy1, rfl, oy1, b8⟩
  have sw8 : w7.heap.size ≤ w8.heap.size := b8.size
  replace r1 := r1.below b8 (by omega)
  replace boxS := boxS.below b8 (by omega)
  replace oW := oW.below b8 (by omega)
  replace boxW := boxW.below b8 (by omega)
  replace ox1 := ox1.below b8 (by omega)
  replace oG := oG.below b8 (by omega)
  replace boxG := boxG.below b8 (by omega)
  replace bel := bthen bel b8
  go_wp2_with fail
  refine (eqByteSS_same vx1 vy1 n1 m1 f1 _ _ _ ox1.rd oy1.rd (by omega) (by omega)).mono ?_
  rintro e w9 ⟨rfl, b9⟩
  clear oy1
  have sw9 : w8.heap.size ≤ w9.heap.size := b9.size
  replace r1 := r1.below b9 (by omega)
  replace boxS := boxS.below b9 (by omega)
  replace oW := oW.below b9 (by omega)
  replace boxW := boxW.below b9 (by omega)
  replace ox1 := ox1.below b9 (by omega)
  replace oG := oG.below b9 (by omega)
  replace boxG := boxG.below b9 (by omega)
  replace bel := bthen bel b9
  go_wp2_with fail
  refine (markByteSS_any vx1 n1 m1 f1 _ _ 1 (by omega) (by omega) (by omega) _ ox1 (by omega)).mono ?_
  rintro e w10 ⟨rfl, ch⟩
  clear ox1
  have sw10 : w9.heap.size ≤ w10.heap.size := ch.size
  replace r1 := r1.chg ch (by omega) (by omega)
  replace boxS := boxS.chg ch (by omega)
  replace oW := oW.chg ch (by omega)
  replace boxW := boxW.chg ch (by omega)
  replace oG := oG.chg ch (by omega)
  replace boxG := boxG.chg ch (by omega)
  replace bel := bel.trans (ch.below (by omega) (by omega))
  clear ch
  skip
  obtain ⟨d0, d1, -, -⟩ := res_cells boxW
  obtain ⟨d2, d3, -, -⟩ := res_cells boxG
  go_wp2_with fail
  refine (eqBytesR_same c (.slice aoG m capG) (.slice aoW m capW) m g _ _ _ oG.rd oW.rd (by omega) (by omega)).mono ?_
  clear d0 d1 d2 d3
  rintro e w11 ⟨rfl, b11⟩
  have sw11 : w10.heap.size ≤ w11.heap.size := b11.size
  replace r1 := r1.below b11 (by omega)
  replace boxS := boxS.below b11 (by omega)
  replace oW := oW.below b11 (by omega)
  replace boxW := boxW.below b11 (by omega)
  replace oG := oG.below b11 (by omega)
  replace boxG := boxG.below b11 (by omega)
  replace bel := bthen bel b11
  obtain ⟨d0, d1, -, -⟩ := res_cells boxG
  go_wp2_with fail
  refine (markBytesR_any c (.slice aoG m capG) m g _ _ 1 (by omega) (by omega) _ oG).mono ?_
  rintro e w12 ⟨rfl, oM, ch⟩
  clear d0 d1 oG
  have sw12 : w11.heap.size ≤ w12.heap.size := ch.size
  replace r1 := r1.chg ch (by omega) (by omega)
  replace boxS := boxS.chg ch (by omega)
  replace oW := oW.chg ch (by omega)
  replace boxW := boxW.chg ch (by omega)
  replace boxG := boxG.chg ch (by omega)
  replace bel := bel.trans (ch.below (by omega) (by omega))
  clear ch
  obtain ⟨d0, d1, -, -⟩ := res_cells boxG
  go_wp2_with fail
  refine (heldBytesR_any c (.slice aoG m capG) m _ 1 (by omega) (by omega) _ oM.rd (by omega)).mono ?_
  rintro e w13 ⟨rfl, b13⟩
  clear d0 d1
  have sw13 : w12.heap.size ≤ w13.heap.size := b13.size
  replace r1 := r1.below b13 (by omega)
  replace boxS := boxS.below b13 (by omega)
  replace oW := oW.below b13 (by omega)
  replace boxW := boxW.below b13 (by omega)
  replace boxG := boxG.below b13 (by omega)
  replace oM := oM.below b13 (by omega)
  replace bel := bthen bel b13
  obtain ⟨x0, x1, x2, x3, x4, x5, x6, x7, x8⟩ := box9 boxS
  go_wp2_with fail
  refine (CT _).mono ?_
  rintro e w14 ⟨rfl, b14⟩
  clear x0 x1 x2 x3 x4 x5 x6 x7 x8
  have sw14 : w13.heap.size ≤ w14.heap.size := b14.size
  replace r1 := r1.below b14 (by omega)
  replace boxS := boxS.below b14 (by omega)
  replace oW := oW.below b14 (by omega)
  replace boxW := boxW.below b14 (by omega)
  replace boxG := boxG.below b14 (by omega)
  replace oM := oM.below b14 (by omega)
  replace bel := bthen bel b14
  go_wp2_with fail
  refine (toByteSS_any _ n1 m1 f1 w.heap.size _ r1 (by omega) (by omega) le1).mono ?_
  rintro e w15 ⟨vu1, rfl, ou1, b15⟩
  have sw15 : w14.heap.size ≤ w15.heap.size := b15.size
  replace r1 := r1.below b15 (by omega)
  replace boxS := boxS.below b15 (by omega)
  replace oW := oW.below b15 (by omega)
  replace boxW := boxW.below b15 (by omega)
  replace boxG := boxG.below b15 (by omega)
  replace oM := oM.below b15 (by omega)
  replace bel := bthen bel b15
  go_wp2_with fail
  refine (hi vu1 _ _ _ ou1 (by omega)).mono ?_
  rintro e w16 ⟨vH, rfl, oH, b16⟩
  obtain ⟨aoH, capH, rfl⟩ := oH.slice
  unfold bytesR
  have sw16 : w15.heap.size ≤ w16.heap.size := b16.size
  replace r1 := r1.below b16 (by omega)
  replace boxS := boxS.below b16 (by omega)
  replace oW := oW.below b16 (by omega)
  replace boxW := boxW.below b16 (by omega)
  replace boxG := boxG.below b16 (by omega)
  replace oM := oM.below b16 (by omega)
  replace ou1 := ou1.below b16 (by omega)
  replace bel := bthen bel b16
  clear ou1
  obtain ⟨d0, d1, -, -⟩ := res_cells boxW
  have dz : w3.heap.size < w16.heap.size := by omega
  go_wp2_with fail
  have rx := oH.alloc (.cells #[.int .i64 c, .slice aoH m capH] 46)
  have ry := oW.alloc (.cells #[.int .i64 c, .slice aoH m capH] 46)
  refine (eqBytesR_same c (.slice aoH m capH) (.slice aoW m capW) m g _ _ _ rx.rd ry.rd (by simp <;> omega) (by simp <;> omega)).mono ?_
  clear rx ry d0 d1 dz
  rintro e w17 ⟨rfl, b17⟩
  have sw17 : w16.heap.size ≤ w17.heap.size := (bnew b17).size
  have boxH := (box_new w16 _ _).below b17 (by simp)
  have eboxH : w16.heap.size < w17.heap.size := bsize b17
  replace r1 := r1.below (bnew b17) (by omega)
  replace boxS := boxS.below (bnew b17) (by omega)
  replace oW := oW.below (bnew b17) (by omega)
  replace boxW := boxW.below (bnew b17) (by omega)
  replace boxG := boxG.below (bnew b17) (by omega)
  replace oM := oM.below (bnew b17) (by omega)
  replace oH := oH.below (bnew b17) (by omega)
  replace bel := bthen bel (bnew b17)
  obtain ⟨d0, d1, -, -⟩ := res_cells boxG
  go_wp2_with fail
  refine (heldBytesR_any c (.slice aoG m capG) m _ 1 (by omega) (by omega) _ oM.rd (by omega)).mono ?_
  rintro e w18 ⟨rfl, b18⟩
  clear d0 d1
  have sw18 : w17.heap.size ≤ w18.heap.size := b18.size
  replace r1 := r1.below b18 (by omega)
  replace boxS := boxS.below b18 (by omega)
  replace oW := oW.below b18 (by omega)
  replace boxW := boxW.below b18 (by omega)
  replace boxG := boxG.below b18 (by omega)
  replace oM := oM.below b18 (by omega)
  replace oH := oH.below b18 (by omega)
  replace boxH := boxH.below b18 (by omega)
  replace bel := bthen bel b18
  go_wp2
  go_ret
  exact ⟨rfl, bel⟩

set_option maxRecDepth 100000 in
theorem fnExactJoinObject_lifted (os : Os) (started : os.Started) (H : Type) (enc : TypeId × Value → H) :
    ReturnsInHanded {} Try.checked os 6 .any (Rows.fnExactJoinObjectSpec.pre6 enc Try.prog Try.f6 Rows.fnExactJoinObjectRow.domain false) (Rows.fnExactJoinObjectSpec.post enc Try.prog Try.f6 false true false false) := by
  refine returnsInHanded_of_change (C := Try.checked) frame_own started (by kernel_rfl) Try.func6
    (ChangeSpec.witness6 (enc := enc) (C := Try.checked) false ⟨#[], #[.agg #[.int .i64 0, .int .i64 0, .int .i64 0, .int .i64 0, .int .i64 0, .int .i64 0, .int .i64 0, .int .i64 0, .int .i64 0], .slice none 0 0, .int .i64 0], []⟩ 8 (by kernel_rfl) (by kernel_rfl) (by kernel_rfl) (by kernel_rfl)) ?_
  intro W base args ds gs before hval0 hW hcnd _
  have hval : ∀ (j : Nat) t v, Try.f6.params[j]? = some t → args[j]? = some v → Value.okWide Try.prog W .any base t v := hval0
  have hW' := hW
  obtain ⟨p, q, hA0, hV, rfl, hfz, hnd⟩ := hW
  have hA : DataW.TrodAll enc Try.prog W 0 (fun _ => true) true Try.f6.params.toList args.toList ds p := hA0
  rw [Try.params6] at hA hval
  obtain ⟨v0, vs0, d0, ds0, p0, q0, hargs, rfl, rfl, h0, r0⟩ := trodAll_cons hA
  obtain ⟨v1, vs1, d1, ds1, p1, q1, rfl, rfl, rfl, h1, r1⟩ := trodAll_cons r0
  obtain ⟨v2, vs2, d2, ds2, p2, q2, rfl, rfl, rfl, h2, r2⟩ := trodAll_cons r1
  obtain ⟨rfl, rfl, rfl⟩ := trodAll_nil r2
  obtain rfl : args = #[v0, v1, v2] := by cases args; simp_all
  obtain ⟨rfl, rfl⟩ := trodVars_none hV
  have k0 := h0
  have lt0 : ∀ x ∈ p0, x.block < W.heap.size := by obtain ⟨m, hm⟩ := k0; exact DataW.trod_lt m _ _ _ hm
  obtain ⟨s0, rfl, hs0⟩ := shape_of_trod Try.underlying23 Try.underlying2 (by kernel_rfl) (by kernel_rfl) (fun i hi => by
    match i, hi with
    | 0, _ => exact ⟨_, rfl, rfl, rfl⟩
    | 1, _ => exact ⟨_, rfl, rfl, rfl⟩
    | 2, _ => exact ⟨_, rfl, rfl, rfl⟩
    | 3, _ => exact ⟨_, rfl, rfl, rfl⟩
    | 4, _ => exact ⟨_, rfl, rfl, rfl⟩
    | 5, _ => exact ⟨_, rfl, rfl, rfl⟩
    | 6, _ => exact ⟨_, rfl, rfl, rfl⟩
    | 7, _ => exact ⟨_, rfl, rfl, rfl⟩
    | 8, _ => exact ⟨_, rfl, rfl, rfl⟩) (hval 0 23 v0 rfl rfl) h0
  obtain ⟨a1, len1, cap1, rfl⟩ := okWide_slice Try.underlying34 (hval 1 34 v1 rfl rfl)
  have k1 := h1
  have lt1 : ∀ x ∈ p1, x.block < W.heap.size := by obtain ⟨m, hm⟩ := k1; exact DataW.trod_lt m _ _ _ hm
  obtain ⟨nn1, ff1, kk1, w1⟩ := rowsM_of_trod Try.underlying34 Try.underlying33 Try.underlying5 (by kernel_rfl) (by kernel_rfl) h1
  obtain ⟨a2, rfl, rfl, rfl, w2⟩ := open_int Try.underlying2 (hval 2 2 v2 rfl rfl) h2
  clear hA0 hval0
  refine (fnExactJoinObject_walk s0 hs0 a1 len1 cap1 nn1 ff1 kk1 a2 (bounds_i64 w2) W w1).mono fun e W' ⟨he, bel⟩ => ?_
  subst he
  exact ⟨_, rfl, _, _, _, [], _, [], hW', trodAll_mk1 (shut_bool Try.underlying4 _), (trodAll_cons_mk (Below.trod frame_laid (by kernel_rfl) (of_decide_eq_true (by kernel_rfl)) k0 bel lt0) (trodAll_cons_mk (Below.trod frame_laid (by kernel_rfl) (of_decide_eq_true (by kernel_rfl)) k1 bel lt1) (trodAll_cons_mk (shut_int Try.underlying2 w2) trodAll_mk0))), rfl, bel.frame _, fun h => by cases h⟩

theorem fnExactJoinObject_proved : Rows.FnExactJoinObjectSaid :=
  OpenClaim.holds_of_wide 6 Try.f6 rfl rfl rfl rfl rfl rfl rfl ⟨rfl, rfl, rfl, rfl, rfl⟩ rfl rfl rfl rfl rfl (by kernel_rfl) Try.func6 (by kernel_rfl)
    (of_decide_eq_true (by kernel_rfl)) (by unfold Func.isWrapper; first | (rw [if_pos (by decide +kernel)]; kernel_rfl) | (rw [if_neg (by decide +kernel)]; exact ⟨rfl, rfl⟩))
    (fun os started H enc _ => fnExactJoinObject_lifted os started H enc)
#print axioms fnExactJoinObject_proved
end Go.Proofs.Ytdnankopblkblak
