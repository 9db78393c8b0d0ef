/- For every two slices of bytes and every byte the program's AddShare answers as the specification's does, writes into no argument and hands back memory of its own: the law FnExactAddShare returns true at every input, and changes nothing that was there. No condition. -/
import Derived.Test.YtoadjpacchhleajRows
import Derived.Test.YtoadjpacchhleajFrameB
import Derived.Test.YtoadjpacchhleajWColH
import Derived.Test.YtoadjpacchhleajWImplU
namespace Go.Proofs.Ytoadjpacchhleaj
open Go.ChangeShapes Go.WideShapes Go.ChangeAt Go.RowKit F256
set_option linter.unusedVariables false

theorem fnExactAddShare_both (n0 : Nat) (f0 : Nat → Nat) (k0 : ∀ i, f0 i < 256) (n1 : Nat) (f1 : Nat → Nat) (k1 : ∀ i, f1 i < 256) (a2 : Nat) (h2 : a2 < 256) : ∃ (c : Int) (m : Nat) (g : Nat → Nat), m ≤ 4000 ∧
    (∀ (v0 v1 : Value) (e0 e1 : Nat) (w : World), Rd w e0 v0 n0 f0 → Rd w e1 v1 n1 f1 → e0 ≤ w.heap.size → e1 ≤ w.heap.size →
      Calls Try.prog 27 #[v0, v1, .int .u8 a2] w fun e w' => ∃ v', e = .returned (bytesR c v') ∧ Own w' w.heap.size w'.heap.size v' m g ∧ Below w.heap.size w w') ∧
    (∀ (v0 v1 : Value) (e0 e1 : Nat) (w : World), Rd w e0 v0 n0 f0 → Rd w e1 v1 n1 f1 → e0 ≤ w.heap.size → e1 ≤ w.heap.size →
      Calls Try.prog 29 #[v0, v1, .int .u8 a2] w fun e w' => ∃ v', e = .returned (bytesR c v') ∧ Own w' w.heap.size w'.heap.size v' m g ∧ Below w.heap.size w w') := by
  obtain ⟨c, hc⟩ := ads_ans n0 n1
  refine ⟨c, if c = 0 then n0 else 0, adsN f0 f1 a2, ?_, fun v0 v1 e0 e1 w r0 r1 b0 b1 => ?_, fun v0 v1 e0 e1 w r0 r1 b0 b1 => ?_⟩
  · split
    · rename_i h
      rcases hc with ⟨h2, _⟩ | ⟨h2, _⟩ | ⟨_, _, h3⟩
      · omega
      · omega
      · exact h3
    · omega
  · refine (specAddShare_any v0 v1 n0 n1 f0 f1 a2 e0 e1 w r0 r1 b0 b1 k0 k1 h2).mono fun e w' ⟨x, v', he, ha, ho, hb⟩ => ?_
    obtain rfl := ha.one hc
    exact ⟨v', he, ho, hb⟩
  · refine (implAddShare_any v0 v1 n0 n1 f0 f1 a2 e0 e1 w r0 r1 b0 b1 k0 k1 h2).mono fun e w' ⟨x, v', he, ha, ho, hb⟩ => ?_
    obtain rfl := ha.one hc
    exact ⟨v', he, ho, hb⟩

set_option maxHeartbeats 4000000 in
theorem fnExactAddShare_walk (a0 : Option Addr) (n0 c0 : Nat) (z0 : List Int) (a1 : Option Addr) (n1 c1 : Nat) (z1 : List Int) (a2 : Nat) (h2 : a2 < 256) (w : World) (q0 : IsRow w a0 n0 c0 z0) (q1 : IsRow w a1 n1 c1 z1) :
    Calls Try.prog 6 #[.slice a0 n0 c0, .slice a1 n1 c1, .int .u8 a2] w fun e w' => e = .returned (.bool true) ∧ Below w.heap.size w w' := by
  obtain ⟨f0, k0, r0⟩ := q0.rd
  have l0 : n0 ≤ 9223372036854775807 := by obtain ⟨_, _, _, h, _⟩ := r0; unfold maxLen at h; omega
  obtain ⟨f1, k1, r1⟩ := q1.rd
  have l1 : n1 ≤ 9223372036854775807 := by obtain ⟨_, _, _, h, _⟩ := r1; unfold maxLen at h; omega
  clear q0 q1
  by_cases t0 : 1048576 < n0
  · go_enter Try.func6, Try.ntmps6
    go_wp2
    go_ret
    exact ⟨rfl, Below.refl _ _⟩
  by_cases t1 : 1048576 < n1
  · go_enter Try.func6, Try.ntmps6
    go_wp2
    go_ret
    exact ⟨rfl, Below.refl _ _⟩
  obtain ⟨c, m, g, hm, hs, hi⟩ := fnExactAddShare_both n0 f0 k0 n1 f1 k1 a2 h2
  clear k0 k1
  have bel := Below.refl w.heap.size w
  go_enter Try.func6, Try.ntmps6
  go_wp2_with fail
  refine (toByteS_any _ n0 f0 w.heap.size _ r0 (by omega) (by omega)).mono ?_
  rintro e w1 ⟨vt0, rfl, ot0, b1⟩
  have sw1 : w.heap.size ≤ w1.heap.size := b1.size
  replace r0 := r0.below b1 (by omega)
  replace r1 := r1.below b1 (by omega)
  replace bel := bthen bel b1
  go_wp2_with fail
  refine (toByteS_any _ n1 f1 w.heap.size _ r1 (by omega) (by omega)).mono ?_
  rintro e w2 ⟨vt1, rfl, ot1, b2⟩
  have sw2 : w1.heap.size ≤ w2.heap.size := b2.size
  replace r0 := r0.below b2 (by omega)
  replace r1 := r1.below b2 (by omega)
  replace ot0 := ot0.below b2 (by omega)
  replace bel := bthen bel b2
  go_wp2_with fail
  refine (hs vt0 vt1 _ _ _ ot0.rd ot1.rd (by omega) (by omega)).mono ?_
  rintro e w3 ⟨vW, rfl, oW, b3⟩
  obtain ⟨aoW, capW, rfl⟩ := oW.slice
  unfold bytesR
  have sw3 : w2.heap.size ≤ w3.heap.size := b3.size
  replace r0 := r0.below b3 (by omega)
  replace r1 := r1.below b3 (by omega)
  replace ot0 := ot0.below b3 (by omega)
  replace ot1 := ot1.below b3 (by omega)
  replace bel := bthen bel b3
  clear ot0 ot1
  go_wp2_with fail
  have rx := r0.below (Below.alloc (Below.refl w3.heap.size w3) (Nat.le_refl _) (.cells #[.int .i64 c, .slice aoW m capW] 25)) (by omega)
  refine (toByteS_any _ n0 f0 w.heap.size _ rx (by simp <;> omega) (by omega)).mono ?_
  rintro e w4 ⟨vx0, rfl, ox0, b4⟩
  clear rx
  replace ox0 := ox0.weaken (lo' := w3.heap.size + 1) (by simp) (Nat.le_refl _)
  have sw4 : w3.heap.size ≤ w4.heap.size := (bnew b4).size
  have boxW := (box_new w3 _ _).below b4 (by simp)
  have eboxW : w3.heap.size < w4.heap.size := bsize b4
  replace r0 := r0.below (bnew b4) (by omega)
  replace r1 := r1.below (bnew b4) (by omega)
  replace oW := oW.below (bnew b4) (by omega)
  replace bel := bthen bel (bnew b4)
  go_wp2_with fail
  refine (toByteS_any _ n1 f1 w.heap.size _ r1 (by omega) (by omega)).mono ?_
  rintro e w5 ⟨vx1, rfl, ox1, b5⟩
  have sw5 : w4.heap.size ≤ w5.heap.size := b5.size
  replace r0 := r0.below b5 (by omega)
  replace r1 := r1.below b5 (by omega)
  replace oW := oW.below b5 (by omega)
  replace boxW := boxW.below b5 (by omega)
  replace ox0 := ox0.below b5 (by omega)
  replace bel := bthen bel b5
  go_wp2_with fail
  refine (hi vx0 vx1 _ _ _ ox0.rd ox1.rd (by omega) (by omega)).mono ?_
  rintro e w6 ⟨vG, rfl, oG, b6⟩
  obtain ⟨aoG, capG, rfl⟩ := oG.slice
  unfold bytesR
  have sw6 : w5.heap.size ≤ w6.heap.size := b6.size
  replace r0 := r0.below b6 (by omega)
  replace r1 := r1.below b6 (by omega)
  replace oW := oW.below b6 (by omega)
  replace boxW := boxW.below b6 (by omega)
  replace ox0 := ox0.below b6 (by omega)
  replace ox1 := ox1.below b6 (by omega)
  replace bel := bthen bel b6
  obtain ⟨d0, d1, -, -⟩ := res_cells boxW
  have dz : w3.heap.size < w6.heap.size := by omega
  go_wp2_with fail
  have rx := oG.alloc (.cells #[.int .i64 c, .slice aoG m capG] 25)
  have ry := oW.alloc (.cells #[.int .i64 c, .slice aoG m capG] 25)
  refine (eqBytesR_same c (.slice aoG m capG) (.slice aoW m capW) m g _ _ _ rx.rd ry.rd (by simp <;> omega) (by simp <;> omega)).mono ?_
  clear rx ry d0 d1 dz
  rintro e w7 ⟨rfl, b7⟩
  have sw7 : w6.heap.size ≤ w7.heap.size := (bnew b7).size
  have boxG := (box_new w6 _ _).below b7 (by simp)
  have eboxG : w6.heap.size < w7.heap.size := bsize b7
  replace r0 := r0.below (bnew b7) (by omega)
  replace r1 := r1.below (bnew b7) (by omega)
  replace oW := oW.below (bnew b7) (by omega)
  replace boxW := boxW.below (bnew b7) (by omega)
  replace ox0 := ox0.below (bnew b7) (by omega)
  replace ox1 := ox1.below (bnew b7) (by omega)
  replace oG := oG.below (bnew b7) (by omega)
  replace bel := bthen bel (bnew b7)
  go_wp2_with fail
  refine (toByteS_any _ n0 f0 w.heap.size _ r0 (by omega) (by omega)).mono ?_
  rintro e w8 ⟨vy0, rfl, oy0, b8⟩
  have sw8 : w7.heap.size ≤ w8.heap.size := b8.size
  replace r0 := r0.below b8 (by omega)
  replace r1 := r1.below b8 (by omega)
  replace oW := oW.below b8 (by omega)
  replace boxW := boxW.below b8 (by omega)
  replace ox0 := ox0.below b8 (by omega)
  replace ox1 := ox1.below b8 (by omega)
  replace oG := oG.below b8 (by omega)
  replace boxG := boxG.below b8 (by omega)
  replace bel := bthen bel b8
  go_wp2_with fail
  refine (eqByteS_same vx0 vy0 n0 f0 _ _ _ ox0.rd oy0.rd).mono ?_
  rintro e w9 ⟨rfl, b9⟩
  clear oy0
  have sw9 : w8.heap.size ≤ w9.heap.size := b9.size
  replace r0 := r0.below b9 (by omega)
  replace r1 := r1.below b9 (by omega)
  replace oW := oW.below b9 (by omega)
  replace boxW := boxW.below b9 (by omega)
  replace ox0 := ox0.below b9 (by omega)
  replace ox1 := ox1.below b9 (by omega)
  replace oG := oG.below b9 (by omega)
  replace boxG := boxG.below b9 (by omega)
  replace bel := bthen bel b9
  go_wp2_with fail
  refine (toByteS_any _ n1 f1 w.heap.size _ r1 (by omega) (by omega)).mono ?_
  rintro e w10 ⟨vy1, rfl, oy1, b10⟩
  have sw10 : w9.heap.size ≤ w10.heap.size := b10.size
  replace r0 := r0.below b10 (by omega)
  replace r1 := r1.below b10 (by omega)
  replace oW := oW.below b10 (by omega)
  replace boxW := boxW.below b10 (by omega)
  replace ox0 := ox0.below b10 (by omega)
  replace ox1 := ox1.below b10 (by omega)
  replace oG := oG.below b10 (by omega)
  replace boxG := boxG.below b10 (by omega)
  replace bel := bthen bel b10
  go_wp2_with fail
  refine (eqByteS_same vx1 vy1 n1 f1 _ _ _ ox1.rd oy1.rd).mono ?_
  rintro e w11 ⟨rfl, b11⟩
  clear oy1
  have sw11 : w10.heap.size ≤ w11.heap.size := b11.size
  replace r0 := r0.below b11 (by omega)
  replace r1 := r1.below b11 (by omega)
  replace oW := oW.below b11 (by omega)
  replace boxW := boxW.below b11 (by omega)
  replace ox0 := ox0.below b11 (by omega)
  replace ox1 := ox1.below b11 (by omega)
  replace oG := oG.below b11 (by omega)
  replace boxG := boxG.below b11 (by omega)
  replace bel := bthen bel b11
  go_wp2_with fail
  refine (markByteS_any vx0 n0 f0 _ _ 1 (by omega) (by omega) _ ox0).mono ?_
  rintro e w12 ⟨rfl, om0, out0⟩
  have ch := out0.chg
  clear out0
  clear ox0 om0
  have sw12 : w11.heap.size ≤ w12.heap.size := ch.size
  replace r0 := r0.chg ch (by omega) (by omega)
  replace r1 := r1.chg ch (by omega) (by omega)
  replace oW := oW.chg ch (by omega)
  replace boxW := boxW.chg ch (by omega)
  replace ox1 := ox1.chg ch (by omega)
  replace oG := oG.chg ch (by omega)
  replace boxG := boxG.chg ch (by omega)
  replace bel := bel.trans (ch.below (by omega) (by omega))
  clear ch
  go_wp2_with fail
  have ek : ((1 + n0) : Nat) ≤ 1000000000 := by omega
  refine (markByteS_any vx1 n1 f1 _ _ (1 + n0) (by omega) (by omega) _ ox1).mono ?_
  rintro e w13 ⟨rfl, om1, out1⟩
  have ch := out1.chg
  clear out1
  clear ox1 om1
  have sw13 : w12.heap.size ≤ w13.heap.size := ch.size
  replace r0 := r0.chg ch (by omega) (by omega)
  replace r1 := r1.chg ch (by omega) (by omega)
  replace oW := oW.chg ch (by omega)
  replace boxW := boxW.chg ch (by omega)
  replace oG := oG.chg ch (by omega)
  replace boxG := boxG.chg ch (by omega)
  replace bel := bel.trans (ch.below (by omega) (by omega))
  clear ch
  skip
  obtain ⟨d0, d1, -, -⟩ := res_cells boxW
  obtain ⟨d2, d3, -, -⟩ := res_cells boxG
  go_wp2_with fail
  refine (eqBytesR_same c (.slice aoG m capG) (.slice aoW m capW) m g _ _ _ oG.rd oW.rd (by omega) (by omega)).mono ?_
  clear d0 d1 d2 d3
  rintro e w14 ⟨rfl, b14⟩
  have sw14 : w13.heap.size ≤ w14.heap.size := b14.size
  replace r0 := r0.below b14 (by omega)
  replace r1 := r1.below b14 (by omega)
  replace oW := oW.below b14 (by omega)
  replace boxW := boxW.below b14 (by omega)
  replace oG := oG.below b14 (by omega)
  replace boxG := boxG.below b14 (by omega)
  replace bel := bthen bel b14
  obtain ⟨d0, d1, -, -⟩ := res_cells boxG
  go_wp2_with fail
  refine (markBytesR_any c (.slice aoG m capG) m g _ _ 1 (by omega) (by omega) _ oG).mono ?_
  rintro e w15 ⟨rfl, oM, ch⟩
  clear d0 d1 oG
  have sw15 : w14.heap.size ≤ w15.heap.size := ch.size
  replace r0 := r0.chg ch (by omega) (by omega)
  replace r1 := r1.chg ch (by omega) (by omega)
  replace oW := oW.chg ch (by omega)
  replace boxW := boxW.chg ch (by omega)
  replace boxG := boxG.chg ch (by omega)
  replace bel := bel.trans (ch.below (by omega) (by omega))
  clear ch
  obtain ⟨d0, d1, -, -⟩ := res_cells boxG
  go_wp2_with fail
  refine (heldBytesR_any c (.slice aoG m capG) m _ 1 (by omega) (by omega) _ oM.rd (by omega)).mono ?_
  rintro e w16 ⟨rfl, b16⟩
  clear d0 d1
  have sw16 : w15.heap.size ≤ w16.heap.size := b16.size
  replace r0 := r0.below b16 (by omega)
  replace r1 := r1.below b16 (by omega)
  replace oW := oW.below b16 (by omega)
  replace boxW := boxW.below b16 (by omega)
  replace boxG := boxG.below b16 (by omega)
  replace oM := oM.below b16 (by omega)
  replace bel := bthen bel b16
  go_wp2_with fail
  refine (toByteS_any _ n0 f0 w.heap.size _ r0 (by omega) (by omega)).mono ?_
  rintro e w17 ⟨vu0, rfl, ou0, b17⟩
  have sw17 : w16.heap.size ≤ w17.heap.size := b17.size
  replace r0 := r0.below b17 (by omega)
  replace r1 := r1.below b17 (by omega)
  replace oW := oW.below b17 (by omega)
  replace boxW := boxW.below b17 (by omega)
  replace boxG := boxG.below b17 (by omega)
  replace oM := oM.below b17 (by omega)
  replace bel := bthen bel b17
  go_wp2_with fail
  refine (toByteS_any _ n1 f1 w.heap.size _ r1 (by omega) (by omega)).mono ?_
  rintro e w18 ⟨vu1, rfl, ou1, b18⟩
  have sw18 : w17.heap.size ≤ w18.heap.size := b18.size
  replace r0 := r0.below b18 (by omega)
  replace r1 := r1.below b18 (by omega)
  replace oW := oW.below b18 (by omega)
  replace boxW := boxW.below b18 (by omega)
  replace boxG := boxG.below b18 (by omega)
  replace oM := oM.below b18 (by omega)
  replace ou0 := ou0.below b18 (by omega)
  replace bel := bthen bel b18
  go_wp2_with fail
  refine (hi vu0 vu1 _ _ _ ou0.rd ou1.rd (by omega) (by omega)).mono ?_
  rintro e w19 ⟨vH, rfl, oH, b19⟩
  obtain ⟨aoH, capH, rfl⟩ := oH.slice
  unfold bytesR
  have sw19 : w18.heap.size ≤ w19.heap.size := b19.size
  replace r0 := r0.below b19 (by omega)
  replace r1 := r1.below b19 (by omega)
  replace oW := oW.below b19 (by omega)
  replace boxW := boxW.below b19 (by omega)
  replace boxG := boxG.below b19 (by omega)
  replace oM := oM.below b19 (by omega)
  replace ou0 := ou0.below b19 (by omega)
  replace ou1 := ou1.below b19 (by omega)
  replace bel := bthen bel b19
  clear ou0
  clear ou1
  obtain ⟨d0, d1, -, -⟩ := res_cells boxW
  have dz : w3.heap.size < w19.heap.size := by omega
  go_wp2_with fail
  have rx := oH.alloc (.cells #[.int .i64 c, .slice aoH m capH] 25)
  have ry := oW.alloc (.cells #[.int .i64 c, .slice aoH m capH] 25)
  refine (eqBytesR_same c (.slice aoH m capH) (.slice aoW m capW) m g _ _ _ rx.rd ry.rd (by simp <;> omega) (by simp <;> omega)).mono ?_
  clear rx ry d0 d1 dz
  rintro e w20 ⟨rfl, b20⟩
  have sw20 : w19.heap.size ≤ w20.heap.size := (bnew b20).size
  have boxH := (box_new w19 _ _).below b20 (by simp)
  have eboxH : w19.heap.size < w20.heap.size := bsize b20
  replace r0 := r0.below (bnew b20) (by omega)
  replace r1 := r1.below (bnew b20) (by omega)
  replace oW := oW.below (bnew b20) (by omega)
  replace boxW := boxW.below (bnew b20) (by omega)
  replace boxG := boxG.below (bnew b20) (by omega)
  replace oM := oM.below (bnew b20) (by omega)
  replace oH := oH.below (bnew b20) (by omega)
  replace bel := bthen bel (bnew b20)
  obtain ⟨d0, d1, -, -⟩ := res_cells boxG
  go_wp2_with fail
  refine (heldBytesR_any c (.slice aoG m capG) m _ 1 (by omega) (by omega) _ oM.rd (by omega)).mono ?_
  rintro e w21 ⟨rfl, b21⟩
  clear d0 d1
  have sw21 : w20.heap.size ≤ w21.heap.size := b21.size
  replace r0 := r0.below b21 (by omega)
  replace r1 := r1.below b21 (by omega)
  replace oW := oW.below b21 (by omega)
  replace boxW := boxW.below b21 (by omega)
  replace boxG := boxG.below b21 (by omega)
  replace oM := oM.below b21 (by omega)
  replace oH := oH.below b21 (by omega)
  replace boxH := boxH.below b21 (by omega)
  replace bel := bthen bel b21
  go_wp2
  go_ret
  exact ⟨rfl, bel⟩

set_option maxRecDepth 100000 in
theorem fnExactAddShare_lifted (os : Os) (started : os.Started) (H : Type) (enc : TypeId × Value → H) :
    ReturnsInHanded {} Try.checked os 6 .any (Rows.fnExactAddShareSpec.pre6 enc Try.prog Try.f6 Rows.fnExactAddShareRow.domain false) (Rows.fnExactAddShareSpec.post enc Try.prog Try.f6 false true false false) := by
  refine returnsInHanded_of_change (C := Try.checked) frame_own started (by kernel_rfl) Try.func6
    (ChangeSpec.witness6 (enc := enc) (C := Try.checked) false ⟨#[], #[.slice none 0 0, .slice none 0 0, .int .u8 0], []⟩ 8 (by kernel_rfl) (by kernel_rfl) (by kernel_rfl) (by kernel_rfl)) ?_
  intro W base args ds gs before hval0 hW hcnd _
  have hval : ∀ (j : Nat) t v, Try.f6.params[j]? = some t → args[j]? = some v → Value.okWide Try.prog W .any base t v := hval0
  have hW' := hW
  obtain ⟨p, q, hA0, hV, rfl, hfz, hnd⟩ := hW
  have hA : DataW.TrodAll enc Try.prog W 0 (fun _ => true) true Try.f6.params.toList args.toList ds p := hA0
  rw [Try.params6] at hA hval
  obtain ⟨v0, vs0, d0, ds0, p0, q0, hargs, rfl, rfl, h0, r0⟩ := trodAll_cons hA
  obtain ⟨v1, vs1, d1, ds1, p1, q1, rfl, rfl, rfl, h1, r1⟩ := trodAll_cons r0
  obtain ⟨v2, vs2, d2, ds2, p2, q2, rfl, rfl, rfl, h2, r2⟩ := trodAll_cons r1
  obtain ⟨rfl, rfl, rfl⟩ := trodAll_nil r2
  obtain rfl : args = #[v0, v1, v2] := by cases args; simp_all
  obtain ⟨rfl, rfl⟩ := trodVars_none hV
  obtain ⟨a0, len0, cap0, rfl⟩ := okWide_slice Try.underlying23 (hval 0 23 v0 rfl rfl)
  have k0 := h0
  have lt0 : ∀ x ∈ p0, x.block < W.heap.size := by obtain ⟨m, hm⟩ := k0; exact DataW.trod_lt m _ _ _ hm
  obtain ⟨z0, w0⟩ : ∃ zs, IsRow W a0 len0 cap0 zs := row_of_trod Try.underlying23 Try.underlying5 (by kernel_rfl) h0
  obtain ⟨a1, len1, cap1, rfl⟩ := okWide_slice Try.underlying23 (hval 1 23 v1 rfl rfl)
  have k1 := h1
  have lt1 : ∀ x ∈ p1, x.block < W.heap.size := by obtain ⟨m, hm⟩ := k1; exact DataW.trod_lt m _ _ _ hm
  obtain ⟨z1, w1⟩ : ∃ zs, IsRow W a1 len1 cap1 zs := row_of_trod Try.underlying23 Try.underlying5 (by kernel_rfl) h1
  obtain ⟨a2, rfl, rfl, rfl, w2⟩ := open_int Try.underlying5 (hval 2 5 v2 rfl rfl) h2
  obtain ⟨n2, hn2, rfl⟩ := nat_of_u8 w2
  clear hA0 hval0
  refine (fnExactAddShare_walk a0 len0 cap0 z0 a1 len1 cap1 z1 n2 hn2 W w0 w1).mono fun e W' ⟨he, bel⟩ => ?_
  subst he
  exact ⟨_, rfl, _, _, _, [], _, [], hW', trodAll_mk1 (shut_bool Try.underlying4 _), (trodAll_cons_mk (Below.trod frame_laid (by kernel_rfl) (of_decide_eq_true (by kernel_rfl)) k0 bel lt0) (trodAll_cons_mk (Below.trod frame_laid (by kernel_rfl) (of_decide_eq_true (by kernel_rfl)) k1 bel lt1) (trodAll_cons_mk (shut_int Try.underlying5 w2) trodAll_mk0))), rfl, bel.frame _, fun h => by cases h⟩

theorem fnExactAddShare_proved : Rows.FnExactAddShareSaid :=
  OpenClaim.holds_of_wide 6 Try.f6 rfl rfl rfl rfl rfl rfl rfl ⟨rfl, rfl, rfl, rfl, rfl⟩ rfl rfl rfl rfl rfl (by kernel_rfl) Try.func6 (by kernel_rfl)
    (of_decide_eq_true (by kernel_rfl)) (by unfold Func.isWrapper; first | (rw [if_pos (by decide +kernel)]; kernel_rfl) | (rw [if_neg (by decide +kernel)]; exact ⟨rfl, rfl⟩))
    (fun os started H enc _ => fnExactAddShare_lifted os started H enc)
#print axioms fnExactAddShare_proved
end Go.Proofs.Ytoadjpacchhleaj
