/- For every two numbers, every list of slices of bytes and every slice of bytes the program's ShiftRow answers as the specification's does, writes into no argument and hands back memory of its own: the law FnExactShiftRow returns true at every input, and changes nothing that was there. No condition. -/
import Derived.Test.YtoadjpacchhleaiRows
import Derived.Test.YtoadjpacchhleaiFrameM
import Derived.Test.YtoadjpacchhleaiWOwnG
import Derived.Test.YtoadjpacchhleaiWSz
import Derived.Test.YtoadjpacchhleaiWRowE
import Derived.Test.YtoadjpacchhleaiWImplS
namespace Go.Proofs.Ytoadjpacchhleai
open Go.ChangeShapes Go.WideShapes Go.ChangeAt Go.RowKit F256
set_option linter.unusedVariables false

theorem fnExactShiftRow_both (a0 : Int) (h0 : -9223372036854775808 ≤ a0 ∧ a0 ≤ 9223372036854775807) (a1 : Int) (h1 : -9223372036854775808 ≤ a1 ∧ a1 ≤ 9223372036854775807) (n2 : Nat) (m2 : Nat → Nat) (f2 : Nat → Nat → Nat) (k2 : ∀ i j, f2 i j < 256) (n3 : Nat) (f3 : Nat → Nat) (k3 : ∀ i, f3 i < 256) : ∃ (c : Int) (m : Nat) (nn : Nat → Nat) (g : Mat), m ≤ 4000 ∧ sumN nn m ≤ 100000 ∧
    (∀ (v2 v3 : Value) (l2 e2 : Nat) (l3 e3 : Nat) (w : World), OwnM w l2 e2 v2 n2 m2 f2 → Own w l3 e3 v3 n3 f3 → e2 ≤ w.heap.size → e3 ≤ w.heap.size →
      Calls Try.prog 25 #[.int .i64 a0, .int .i64 a1, v2, v3] w fun e w' => ∃ v', e = .returned (bytesR c v') ∧ OwnG w' w.heap.size w'.heap.size v' m nn g ∧ Below w.heap.size w w') ∧
    (∀ (v2 v3 : Value) (l2 e2 : Nat) (l3 e3 : Nat) (w : World), OwnM w l2 e2 v2 n2 m2 f2 → Own w l3 e3 v3 n3 f3 → e2 ≤ w.heap.size → e3 ≤ w.heap.size →
      Calls Try.prog 27 #[.int .i64 a0, .int .i64 a1, v2, v3] w fun e w' => ∃ v', e = .returned (bytesR c v') ∧ OwnG w' w.heap.size w'.heap.size v' m nn g ∧ Below w.heap.size w w') := by
  obtain ⟨c, hc⟩ := shift_ans a0 a1 n2 m2 n3
  have hrow : (if c = 0 then (a0 + a1).toNat else 0) ≤ 5 := by
    split
    · rename_i h
      rcases hc with ⟨h1, _⟩ | ⟨h1, _⟩ | ⟨_, hs, _⟩
      · omega
      · omega
      · obtain ⟨_, h2, _, h4⟩ := hs
        omega
    · omega
  refine ⟨c, if c = 0 then (a0 + a1).toNat else 0, fun _ => 4, shiftN a0.toNat f2 f3, Nat.le_trans hrow (by omega), sum4_le _ hrow, fun v2 v3 l2 e2 l3 e3 w o2 o3 b2 b3 => ?_, fun v2 v3 l2 e2 l3 e3 w o2 o3 b2 b3 => ?_⟩
  · refine (specShift_any a0 a1 v2 v3 n2 m2 f2 n3 f3 l2 e2 l3 e3 w o2 o3 b2 b3 k2 k3).mono fun e w' ⟨x, v', he, ha, ho, hb⟩ => ?_
    obtain rfl := ha.one hc
    exact ⟨v', he, .inl ho, hb⟩
  · refine (implShift_any a0 a1 v2 v3 n2 m2 f2 n3 f3 l2 e2 l3 e3 w o2 o3 b2 b3 k2 k3).mono fun e w' ⟨x, v', he, ha, ho, hb⟩ => ?_
    obtain rfl := ha.one hc
    exact ⟨v', he, ho, hb⟩

set_option maxHeartbeats 4000000 in
theorem fnExactShiftRow_walk (a0 : Int) (h0 : -9223372036854775808 ≤ a0 ∧ a0 ≤ 9223372036854775807) (a1 : Int) (h1 : -9223372036854775808 ≤ a1 ∧ a1 ≤ 9223372036854775807) (a2 : Option Addr) (n2 c2 : Nat) (m2 : Nat → Nat) (f2 : Nat → Nat → Nat) (k2 : ∀ i j, f2 i j < 256) (a3 : Option Addr) (n3 c3 : Nat) (z3 : List Int) (w : World) (r2 : RdM w w.heap.size (.slice a2 n2 c2) n2 m2 f2) (q3 : IsRow w a3 n3 c3 z3) :
    Calls Try.prog 6 #[.int .i64 a0, .int .i64 a1, .slice a2 n2 c2, .slice a3 n3 c3] w fun e w' => e = .returned (.bool true) ∧ Below w.heap.size w w' := by
  have l2 : n2 ≤ 9223372036854775807 := by obtain ⟨_, _, _, _, h, _⟩ := r2; unfold maxLen at h; omega
  obtain ⟨f3, k3, r3⟩ := q3.rd
  have l3 : n3 ≤ 9223372036854775807 := by obtain ⟨_, _, _, h, _⟩ := r3; unfold maxLen at h; omega
  clear q3
  by_cases t3 : 1048576 < n3
  · go_enter Try.func6, Try.ntmps6
    go_wp2
    go_ret
    exact ⟨rfl, Below.refl _ _⟩
  obtain ⟨c, m, nn, g, hm, hsm, hs, hi⟩ := fnExactShiftRow_both a0 h0 a1 h1 n2 m2 f2 k2 n3 f3 k3
  clear k2 k3
  have bel := Below.refl w.heap.size w
  go_enter Try.func6, Try.ntmps6
  go_wp2_with fail
  refine (szByteSS_any _ n2 m2 f2 _ _ r2 1048576 (by omega)).mono ?_
  rintro e wz ⟨x2, rfl, hx2, hwz⟩
  obtain rfl := hwz.symm
  rcases hx2 with rfl | ⟨sz2, rfl⟩
  · go_wp2
    go_ret
    exact ⟨rfl, Below.refl _ _⟩
  have le2 : ∀ i, i < n2 → m2 i ≤ 1000000000 := fun i hi => by have := le_sumN m2 hi; omega
  go_wp2_with fail
  refine (toByteSS_any _ n2 m2 f2 w.heap.size _ r2 (by omega) (by omega) le2).mono ?_
  rintro e w1 ⟨vt2, rfl, ot2, b1⟩
  have sw1 : w.heap.size ≤ w1.heap.size := b1.size
  replace r2 := r2.below b1 (by omega)
  replace r3 := r3.below b1 (by omega)
  replace bel := bthen bel b1
  go_wp2_with fail
  refine (toByteS_any _ n3 f3 w.heap.size _ r3 (by omega) (by omega)).mono ?_
  rintro e w2 ⟨vt3, rfl, ot3, b2⟩
  have sw2 : w1.heap.size ≤ w2.heap.size := b2.size
  replace r2 := r2.below b2 (by omega)
  replace r3 := r3.below b2 (by omega)
  replace ot2 := ot2.below b2 (by omega)
  replace bel := bthen bel b2
  go_wp2_with fail
  refine (hs vt2 vt3 _ _ _ _ _ ot2 ot3 (by omega) (by omega)).mono ?_
  rintro e w3 ⟨vW, rfl, oW, b3⟩
  obtain ⟨aoW, capW, rfl⟩ := oW.slice
  unfold bytesR
  have sw3 : w2.heap.size ≤ w3.heap.size := b3.size
  replace r2 := r2.below b3 (by omega)
  replace r3 := r3.below b3 (by omega)
  replace ot2 := ot2.below b3 (by omega)
  replace ot3 := ot3.below b3 (by omega)
  replace bel := bthen bel b3
  clear ot2 ot3
  go_wp2_with fail
  have rx := r2.below (Below.alloc (Below.refl w3.heap.size w3) (Nat.le_refl _) (.cells #[.int .i64 c, .slice aoW m capW] 42)) (by omega)
  refine (toByteSS_any _ n2 m2 f2 w.heap.size _ rx (by simp <;> omega) (by omega) le2).mono ?_
  rintro e w4 ⟨vx2, rfl, ox2, b4⟩
  clear rx
  replace ox2 := ox2.weaken (lo' := w3.heap.size + 1) (by simp) (Nat.le_refl _)
  have sw4 : w3.heap.size ≤ w4.heap.size := (bnew b4).size
  have boxW := (box_new w3 _ _).below b4 (by simp)
  have eboxW : w3.heap.size < w4.heap.size := bsize b4
  replace r2 := r2.below (bnew b4) (by omega)
  replace r3 := r3.below (bnew b4) (by omega)
  replace oW := oW.below (bnew b4) (by omega)
  replace bel := bthen bel (bnew b4)
  go_wp2_with fail
  refine (toByteS_any _ n3 f3 w.heap.size _ r3 (by omega) (by omega)).mono ?_
  rintro e w5 ⟨vx3, rfl, ox3, b5⟩
  have sw5 : w4.heap.size ≤ w5.heap.size := b5.size
  replace r2 := r2.below b5 (by omega)
  replace r3 := r3.below b5 (by omega)
  replace oW := oW.below b5 (by omega)
  replace boxW := boxW.below b5 (by omega)
  replace ox2 := ox2.below b5 (by omega)
  replace bel := bthen bel b5
  go_wp2_with fail
  refine (hi vx2 vx3 _ _ _ _ _ ox2 ox3 (by omega) (by omega)).mono ?_
  rintro e w6 ⟨vG, rfl, oG, b6⟩
  obtain ⟨aoG, capG, rfl⟩ := oG.slice
  unfold bytesR
  have sw6 : w5.heap.size ≤ w6.heap.size := b6.size
  replace r2 := r2.below b6 (by omega)
  replace r3 := r3.below b6 (by omega)
  replace oW := oW.below b6 (by omega)
  replace boxW := boxW.below b6 (by omega)
  replace ox2 := ox2.below b6 (by omega)
  replace ox3 := ox3.below b6 (by omega)
  replace bel := bthen bel b6
  obtain ⟨d0, d1, -, -⟩ := res_cells boxW
  have dz : w3.heap.size < w6.heap.size := by omega
  go_wp2_with fail
  have rx := oG.alloc (.cells #[.int .i64 c, .slice aoG m capG] 42)
  have ry := oW.alloc (.cells #[.int .i64 c, .slice aoG m capG] 42)
  refine (eqBlocksR_same c (.slice aoG m capG) (.slice aoW m capW) m nn g _ _ _ rx.rd ry.rd (by simp <;> omega) (by simp <;> omega)).mono ?_
  clear rx ry d0 d1 dz
  rintro e w7 ⟨rfl, b7⟩
  have sw7 : w6.heap.size ≤ w7.heap.size := (bnew b7).size
  have boxG := (box_new w6 _ _).below b7 (by simp)
  have eboxG : w6.heap.size < w7.heap.size := bsize b7
  replace r2 := r2.below (bnew b7) (by omega)
  replace r3 := r3.below (bnew b7) (by omega)
  replace oW := oW.below (bnew b7) (by omega)
  replace boxW := boxW.below (bnew b7) (by omega)
  replace ox2 := ox2.below (bnew b7) (by omega)
  replace ox3 := ox3.below (bnew b7) (by omega)
  replace oG := oG.below (bnew b7) (by omega)
  replace bel := bthen bel (bnew b7)
  go_wp2_with fail
  refine (toByteSS_any _ n2 m2 f2 w.heap.size _ r2 (by omega) (by omega) le2).mono ?_
  rintro e w8 ⟨vy2, rfl, oy2, b8⟩
  have sw8 : w7.heap.size ≤ w8.heap.size := b8.size
  replace r2 := r2.below b8 (by omega)
  replace r3 := r3.below b8 (by omega)
  replace oW := oW.below b8 (by omega)
  replace boxW := boxW.below b8 (by omega)
  replace ox2 := ox2.below b8 (by omega)
  replace ox3 := ox3.below b8 (by omega)
  replace oG := oG.below b8 (by omega)
  replace boxG := boxG.below b8 (by omega)
  replace bel := bthen bel b8
  go_wp2_with fail
  refine (eqByteSS_same vx2 vy2 n2 m2 f2 _ _ _ ox2.rd oy2.rd (by omega) (by omega)).mono ?_
  rintro e w9 ⟨rfl, b9⟩
  clear oy2
  have sw9 : w8.heap.size ≤ w9.heap.size := b9.size
  replace r2 := r2.below b9 (by omega)
  replace r3 := r3.below b9 (by omega)
  replace oW := oW.below b9 (by omega)
  replace boxW := boxW.below b9 (by omega)
  replace ox2 := ox2.below b9 (by omega)
  replace ox3 := ox3.below b9 (by omega)
  replace oG := oG.below b9 (by omega)
  replace boxG := boxG.below b9 (by omega)
  replace bel := bthen bel b9
  go_wp2_with fail
  refine (toByteS_any _ n3 f3 w.heap.size _ r3 (by omega) (by omega)).mono ?_
  rintro e w10 ⟨vy3, rfl, oy3, b10⟩
  have sw10 : w9.heap.size ≤ w10.heap.size := b10.size
  replace r2 := r2.below b10 (by omega)
  replace r3 := r3.below b10 (by omega)
  replace oW := oW.below b10 (by omega)
  replace boxW := boxW.below b10 (by omega)
  replace ox2 := ox2.below b10 (by omega)
  replace ox3 := ox3.below b10 (by omega)
  replace oG := oG.below b10 (by omega)
  replace boxG := boxG.below b10 (by omega)
  replace bel := bthen bel b10
  go_wp2_with fail
  refine (eqByteS_same vx3 vy3 n3 f3 _ _ _ ox3.rd oy3.rd).mono ?_
  rintro e w11 ⟨rfl, b11⟩
  clear oy3
  have sw11 : w10.heap.size ≤ w11.heap.size := b11.size
  replace r2 := r2.below b11 (by omega)
  replace r3 := r3.below b11 (by omega)
  replace oW := oW.below b11 (by omega)
  replace boxW := boxW.below b11 (by omega)
  replace ox2 := ox2.below b11 (by omega)
  replace ox3 := ox3.below b11 (by omega)
  replace oG := oG.below b11 (by omega)
  replace boxG := boxG.below b11 (by omega)
  replace bel := bthen bel b11
  go_wp2_with fail
  refine (markByteSS_any vx2 n2 m2 f2 _ _ 1 (by omega) (by omega) (by omega) _ ox2 (by omega)).mono ?_
  rintro e w12 ⟨rfl, ch⟩
  clear ox2
  have sw12 : w11.heap.size ≤ w12.heap.size := ch.size
  replace r2 := r2.chg ch (by omega) (by omega)
  replace r3 := r3.chg ch (by omega) (by omega)
  replace oW := oW.chg ch (by omega)
  replace boxW := boxW.chg ch (by omega)
  replace ox3 := ox3.chg ch (by omega)
  replace oG := oG.chg ch (by omega)
  replace boxG := boxG.chg ch (by omega)
  replace bel := bel.trans (ch.below (by omega) (by omega))
  clear ch
  go_wp2_with fail
  have ek : ((1 + sumN m2 n2) : Nat) ≤ 1000000000 := by omega
  refine (markByteS_any vx3 n3 f3 _ _ (1 + sumN m2 n2) (by omega) (by omega) _ ox3).mono ?_
  rintro e w13 ⟨rfl, om3, out3⟩
  have ch := out3.chg
  clear out3
  clear ox3 om3
  have sw13 : w12.heap.size ≤ w13.heap.size := ch.size
  replace r2 := r2.chg ch (by omega) (by omega)
  replace r3 := r3.chg ch (by omega) (by omega)
  replace oW := oW.chg ch (by omega)
  replace boxW := boxW.chg ch (by omega)
  replace oG := oG.chg ch (by omega)
  replace boxG := boxG.chg ch (by omega)
  replace bel := bel.trans (ch.below (by omega) (by omega))
  clear ch
  skip
  obtain ⟨d0, d1, -, -⟩ := res_cells boxW
  obtain ⟨d2, d3, -, -⟩ := res_cells boxG
  go_wp2_with fail
  refine (eqBlocksR_same c (.slice aoG m capG) (.slice aoW m capW) m nn g _ _ _ oG.rd oW.rd (by omega) (by omega)).mono ?_
  clear d0 d1 d2 d3
  rintro e w14 ⟨rfl, b14⟩
  have sw14 : w13.heap.size ≤ w14.heap.size := b14.size
  replace r2 := r2.below b14 (by omega)
  replace r3 := r3.below b14 (by omega)
  replace oW := oW.below b14 (by omega)
  replace boxW := boxW.below b14 (by omega)
  replace oG := oG.below b14 (by omega)
  replace boxG := boxG.below b14 (by omega)
  replace bel := bthen bel b14
  obtain ⟨d0, d1, -, -⟩ := res_cells boxG
  go_wp2_with fail
  refine (markBlocksG_any c (.slice aoG m capG) m nn g _ _ 1 (by omega) (by omega) (by omega) _ oG (by omega)).mono ?_
  rintro e w15 ⟨rfl, oM, ch⟩
  clear d0 d1 oG
  have sw15 : w14.heap.size ≤ w15.heap.size := ch.size
  replace r2 := r2.chg ch (by omega) (by omega)
  replace r3 := r3.chg ch (by omega) (by omega)
  replace oW := oW.chg ch (by omega)
  replace boxW := boxW.chg ch (by omega)
  replace boxG := boxG.chg ch (by omega)
  replace bel := bel.trans (ch.below (by omega) (by omega))
  clear ch
  obtain ⟨d0, d1, -, -⟩ := res_cells boxG
  go_wp2_with fail
  refine (heldBlocksR_any c (.slice aoG m capG) m nn _ 1 (by omega) (by omega) (by omega) _ oM.rd (by omega)).mono ?_
  rintro e w16 ⟨rfl, b16⟩
  clear d0 d1
  have sw16 : w15.heap.size ≤ w16.heap.size := b16.size
  replace r2 := r2.below b16 (by omega)
  replace r3 := r3.below b16 (by omega)
  replace oW := oW.below b16 (by omega)
  replace boxW := boxW.below b16 (by omega)
  replace boxG := boxG.below b16 (by omega)
  replace oM := oM.below b16 (by omega)
  replace bel := bthen bel b16
  go_wp2_with fail
  refine (toByteSS_any _ n2 m2 f2 w.heap.size _ r2 (by omega) (by omega) le2).mono ?_
  rintro e w17 ⟨vu2, rfl, ou2, b17⟩
  have sw17 : w16.heap.size ≤ w17.heap.size := b17.size
  replace r2 := r2.below b17 (by omega)
  replace r3 := r3.below b17 (by omega)
  replace oW := oW.below b17 (by omega)
  replace boxW := boxW.below b17 (by omega)
  replace boxG := boxG.below b17 (by omega)
  replace oM := oM.below b17 (by omega)
  replace bel := bthen bel b17
  go_wp2_with fail
  refine (toByteS_any _ n3 f3 w.heap.size _ r3 (by omega) (by omega)).mono ?_
  rintro e w18 ⟨vu3, rfl, ou3, b18⟩
  have sw18 : w17.heap.size ≤ w18.heap.size := b18.size
  replace r2 := r2.below b18 (by omega)
  replace r3 := r3.below b18 (by omega)
  replace oW := oW.below b18 (by omega)
  replace boxW := boxW.below b18 (by omega)
  replace boxG := boxG.below b18 (by omega)
  replace oM := oM.below b18 (by omega)
  replace ou2 := ou2.below b18 (by omega)
  replace bel := bthen bel b18
  go_wp2_with fail
  refine (hi vu2 vu3 _ _ _ _ _ ou2 ou3 (by omega) (by omega)).mono ?_
  rintro e w19 ⟨vH, rfl, oH, b19⟩
  obtain ⟨aoH, capH, rfl⟩ := oH.slice
  unfold bytesR
  have sw19 : w18.heap.size ≤ w19.heap.size := b19.size
  replace r2 := r2.below b19 (by omega)
  replace r3 := r3.below b19 (by omega)
  replace oW := oW.below b19 (by omega)
  replace boxW := boxW.below b19 (by omega)
  replace boxG := boxG.below b19 (by omega)
  replace oM := oM.below b19 (by omega)
  replace ou2 := ou2.below b19 (by omega)
  replace ou3 := ou3.below b19 (by omega)
  replace bel := bthen bel b19
  clear ou2
  clear ou3
  obtain ⟨d0, d1, -, -⟩ := res_cells boxW
  have dz : w3.heap.size < w19.heap.size := by omega
  go_wp2_with fail
  have rx := oH.alloc (.cells #[.int .i64 c, .slice aoH m capH] 42)
  have ry := oW.alloc (.cells #[.int .i64 c, .slice aoH m capH] 42)
  refine (eqBlocksR_same c (.slice aoH m capH) (.slice aoW m capW) m nn g _ _ _ rx.rd ry.rd (by simp <;> omega) (by simp <;> omega)).mono ?_
  clear rx ry d0 d1 dz
  rintro e w20 ⟨rfl, b20⟩
  have sw20 : w19.heap.size ≤ w20.heap.size := (bnew b20).size
  have boxH := (box_new w19 _ _).below b20 (by simp)
  have eboxH : w19.heap.size < w20.heap.size := bsize b20
  replace r2 := r2.below (bnew b20) (by omega)
  replace r3 := r3.below (bnew b20) (by omega)
  replace oW := oW.below (bnew b20) (by omega)
  replace boxW := boxW.below (bnew b20) (by omega)
  replace boxG := boxG.below (bnew b20) (by omega)
  replace oM := oM.below (bnew b20) (by omega)
  replace oH := oH.below (bnew b20) (by omega)
  replace bel := bthen bel (bnew b20)
  obtain ⟨d0, d1, -, -⟩ := res_cells boxG
  go_wp2_with fail
  refine (heldBlocksR_any c (.slice aoG m capG) m nn _ 1 (by omega) (by omega) (by omega) _ oM.rd (by omega)).mono ?_
  rintro e w21 ⟨rfl, b21⟩
  clear d0 d1
  have sw21 : w20.heap.size ≤ w21.heap.size := b21.size
  replace r2 := r2.below b21 (by omega)
  replace r3 := r3.below b21 (by omega)
  replace oW := oW.below b21 (by omega)
  replace boxW := boxW.below b21 (by omega)
  replace boxG := boxG.below b21 (by omega)
  replace oM := oM.below b21 (by omega)
  replace oH := oH.below b21 (by omega)
  replace boxH := boxH.below b21 (by omega)
  replace bel := bthen bel b21
  go_wp2
  go_ret
  exact ⟨rfl, bel⟩

set_option maxRecDepth 100000 in
theorem fnExactShiftRow_lifted (os : Os) (started : os.Started) (H : Type) (enc : TypeId × Value → H) :
    ReturnsInHanded {} Try.checked os 6 .any (Rows.fnExactShiftRowSpec.pre6 enc Try.prog Try.f6 Rows.fnExactShiftRowRow.domain false) (Rows.fnExactShiftRowSpec.post enc Try.prog Try.f6 false true false false) := by
  refine returnsInHanded_of_change (C := Try.checked) frame_own started (by kernel_rfl) Try.func6
    (ChangeSpec.witness6 (enc := enc) (C := Try.checked) false ⟨#[], #[.int .i64 0, .int .i64 0, .slice none 0 0, .slice none 0 0], []⟩ 8 (by kernel_rfl) (by kernel_rfl) (by kernel_rfl) (by kernel_rfl)) ?_
  intro W base args ds gs before hval0 hW hcnd _
  have hval : ∀ (j : Nat) t v, Try.f6.params[j]? = some t → args[j]? = some v → Value.okWide Try.prog W .any base t v := hval0
  have hW' := hW
  obtain ⟨p, q, hA0, hV, rfl, hfz, hnd⟩ := hW
  have hA : DataW.TrodAll enc Try.prog W 0 (fun _ => true) true Try.f6.params.toList args.toList ds p := hA0
  rw [Try.params6] at hA hval
  obtain ⟨v0, vs0, d0, ds0, p0, q0, hargs, rfl, rfl, h0, r0⟩ := trodAll_cons hA
  obtain ⟨v1, vs1, d1, ds1, p1, q1, rfl, rfl, rfl, h1, r1⟩ := trodAll_cons r0
  obtain ⟨v2, vs2, d2, ds2, p2, q2, rfl, rfl, rfl, h2, r2⟩ := trodAll_cons r1
  obtain ⟨v3, vs3, d3, ds3, p3, q3, rfl, rfl, rfl, h3, r3⟩ := trodAll_cons r2
  obtain ⟨rfl, rfl, rfl⟩ := trodAll_nil r3
  obtain rfl : args = #[v0, v1, v2, v3] := by cases args; simp_all
  obtain ⟨rfl, rfl⟩ := trodVars_none hV
  obtain ⟨a0, rfl, rfl, rfl, w0⟩ := open_int Try.underlying2 (hval 0 2 v0 rfl rfl) h0
  obtain ⟨a1, rfl, rfl, rfl, w1⟩ := open_int Try.underlying2 (hval 1 2 v1 rfl rfl) h1
  obtain ⟨a2, len2, cap2, rfl⟩ := okWide_slice Try.underlying33 (hval 2 33 v2 rfl rfl)
  have k2 := h2
  have lt2 : ∀ x ∈ p2, x.block < W.heap.size := by obtain ⟨m, hm⟩ := k2; exact DataW.trod_lt m _ _ _ hm
  obtain ⟨nn2, ff2, kk2, w2⟩ := rowsM_of_trod Try.underlying33 Try.underlying23 Try.underlying5 (by kernel_rfl) (by kernel_rfl) h2
  obtain ⟨a3, len3, cap3, rfl⟩ := okWide_slice Try.underlying23 (hval 3 23 v3 rfl rfl)
  have k3 := h3
  have lt3 : ∀ x ∈ p3, x.block < W.heap.size := by obtain ⟨m, hm⟩ := k3; exact DataW.trod_lt m _ _ _ hm
  obtain ⟨z3, w3⟩ : ∃ zs, IsRow W a3 len3 cap3 zs := row_of_trod Try.underlying23 Try.underlying5 (by kernel_rfl) h3
  clear hA0 hval0
  refine (fnExactShiftRow_walk a0 (bounds_i64 w0) a1 (bounds_i64 w1) a2 len2 cap2 nn2 ff2 kk2 a3 len3 cap3 z3 W w2 w3).mono fun e W' ⟨he, bel⟩ => ?_
  subst he
  exact ⟨_, rfl, _, _, _, [], _, [], hW', trodAll_mk1 (shut_bool Try.underlying4 _), (trodAll_cons_mk (shut_int Try.underlying2 w0) (trodAll_cons_mk (shut_int Try.underlying2 w1) (trodAll_cons_mk (Below.trod frame_laid (by kernel_rfl) (of_decide_eq_true (by kernel_rfl)) k2 bel lt2) (trodAll_cons_mk (Below.trod frame_laid (by kernel_rfl) (of_decide_eq_true (by kernel_rfl)) k3 bel lt3) trodAll_mk0)))), rfl, bel.frame _, fun h => by cases h⟩

theorem fnExactShiftRow_proved : Rows.FnExactShiftRowSaid :=
  OpenClaim.holds_of_wide 6 Try.f6 rfl rfl rfl rfl rfl rfl rfl ⟨rfl, rfl, rfl, rfl, rfl⟩ rfl rfl rfl rfl rfl (by kernel_rfl) Try.func6 (by kernel_rfl)
    (of_decide_eq_true (by kernel_rfl)) (by unfold Func.isWrapper; first | (rw [if_pos (by decide +kernel)]; kernel_rfl) | (rw [if_neg (by decide +kernel)]; exact ⟨rfl, rfl⟩))
    (fun os started H enc _ => fnExactShiftRow_lifted os started H enc)
#print axioms fnExactShiftRow_proved
end Go.Proofs.Ytoadjpacchhleai
