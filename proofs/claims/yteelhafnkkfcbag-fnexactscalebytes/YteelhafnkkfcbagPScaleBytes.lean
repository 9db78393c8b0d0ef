/- For every slice of bytes and every byte the program's ScaleBytes answers as the specification's does, writes into no argument and hands back memory of its own: the law FnExactScaleBytes returns true at every input, and changes nothing that was there. No condition. -/
import Derived.Test.YteelhafnkkfcbagRows
import Derived.Test.YteelhafnkkfcbagFrameB
import Derived.Test.YteelhafnkkfcbagWScaleB
namespace Go.Proofs.Yteelhafnkkfcbag
open Go.ChangeShapes Go.WideShapes Go.ChangeAt Go.RowKit F256
set_option linter.unusedVariables false

theorem fnExactScaleBytes_both (n1 : Nat) (f1 : Nat → Nat) (k1 : ∀ i, f1 i < 256) (y : Nat) (hy : y < 256) : ∃ (c : Int) (m : Nat) (g : Nat → Nat), m ≤ 4000 ∧
    (∀ (v1 : Value) (h1 : Nat) (w : World), Rd w h1 v1 n1 f1 → h1 ≤ w.heap.size →
      Calls Try.prog 23 #[v1, .int .u8 y] w fun e w' => ∃ v', e = .returned (bytesR c v') ∧ Own w' w.heap.size w'.heap.size v' m g ∧ Below w.heap.size w w') ∧
    (∀ (v1 : Value) (h1 : Nat) (w : World), Rd w h1 v1 n1 f1 → h1 ≤ w.heap.size →
      Calls Try.prog 24 #[v1, .int .u8 y] w fun e w' => ∃ v', e = .returned (bytesR c v') ∧ Own w' w.heap.size w'.heap.size v' m g ∧ Below w.heap.size w w') := by
  by_cases hm : 4000 < n1
  · exact ⟨2, 0, fun _ => 0, by omega, fun v1 h1 w r1 _ => specScale_many v1 n1 f1 y h1 w r1 hm, fun v1 h1 w r1 _ => implScale_many v1 n1 f1 y h1 w r1 hm⟩
  · exact ⟨0, n1, fun i => mulN y (f1 i), by omega, fun v1 h1 w r1 b1 => specScale_ok v1 n1 f1 _ y h1 w r1 b1 k1 hy (fun _ _ => rfl) (by omega),
      fun v1 h1 w r1 b1 => implScale_ok v1 n1 f1 _ y h1 w r1 b1 k1 hy (fun _ _ => rfl) (by omega)⟩

set_option maxHeartbeats 4000000 in
theorem fnExactScaleBytes_walk (a0 : Option Addr) (n0 c0 : Nat) (z0 : List Int) (a1 : Nat) (h1 : a1 < 256) (w : World) (q0 : IsRow w a0 n0 c0 z0) :
    Calls Try.prog 7 #[.slice a0 n0 c0, .int .u8 a1] w fun e w' => e = .returned (.bool true) ∧ Below w.heap.size w w' := by
  obtain ⟨f0, k0, r0⟩ := q0.rd
  have l0 : n0 ≤ 9223372036854775807 := by obtain ⟨_, _, _, h, _⟩ := r0; unfold maxLen at h; omega
  clear q0
  by_cases t0 : 1048576 < n0
  · go_enter Try.func7, Try.ntmps7
    go_wp2
    go_ret
    exact ⟨rfl, Below.refl _ _⟩
  obtain ⟨c, m, g, hm, hs, hi⟩ := fnExactScaleBytes_both n0 f0 k0 a1 h1
  clear k0
  have bel := Below.refl w.heap.size w
  go_enter Try.func7, Try.ntmps7
  go_wp2_with fail
  refine (toByteS_any _ n0 f0 w.heap.size _ r0 (by omega) (by omega)).mono ?_
  rintro e w1 ⟨vt0, rfl, ot0, b1⟩
  have sw1 : w.heap.size ≤ w1.heap.size := b1.size
  replace r0 := r0.below b1 (by omega)
  replace bel := bthen bel b1
  go_wp2_with fail
  refine (hs vt0 _ _ ot0.rd (by omega)).mono ?_
  rintro e w2 ⟨vW, rfl, oW, b2⟩
  obtain ⟨aoW, capW, rfl⟩ := oW.slice
  unfold bytesR
  have sw2 : w1.heap.size ≤ w2.heap.size := b2.size
  replace r0 := r0.below b2 (by omega)
  replace ot0 := ot0.below b2 (by omega)
  replace bel := bthen bel b2
  clear ot0
  go_wp2_with fail
  have rx := r0.below (Below.alloc (Below.refl w2.heap.size w2) (Nat.le_refl _) (.cells #[.int .i64 c, .slice aoW m capW] 32)) (by omega)
  refine (toByteS_any _ n0 f0 w.heap.size _ rx (by simp <;> omega) (by omega)).mono ?_
  rintro e w3 ⟨vx0, rfl, ox0, b3⟩
  clear rx
  replace ox0 := ox0.weaken (lo' := w2.heap.size + 1) (by simp) (Nat.le_refl _)
  have sw3 : w2.heap.size ≤ w3.heap.size := (bnew b3).size
  have boxW := (box_new w2 _ _).below b3 (by simp)
  have eboxW : w2.heap.size < w3.heap.size := bsize b3
  replace r0 := r0.below (bnew b3) (by omega)
  replace oW := oW.below (bnew b3) (by omega)
  replace bel := bthen bel (bnew b3)
  go_wp2_with fail
  refine (hi vx0 _ _ ox0.rd (by omega)).mono ?_
  rintro e w4 ⟨vG, rfl, oG, b4⟩
  obtain ⟨aoG, capG, rfl⟩ := oG.slice
  unfold bytesR
  have sw4 : w3.heap.size ≤ w4.heap.size := b4.size
  replace r0 := r0.below b4 (by omega)
  replace oW := oW.below b4 (by omega)
  replace boxW := boxW.below b4 (by omega)
  replace ox0 := ox0.below b4 (by omega)
  replace bel := bthen bel b4
  obtain ⟨d0, d1, -, -⟩ := res_cells boxW
  have dz : w2.heap.size < w4.heap.size := by omega
  go_wp2_with fail
  have rx := oG.alloc (.cells #[.int .i64 c, .slice aoG m capG] 32)
  have ry := oW.alloc (.cells #[.int .i64 c, .slice aoG m capG] 32)
  refine (eqBytesR_same c (.slice aoG m capG) (.slice aoW m capW) m g _ _ _ rx.rd ry.rd (by simp <;> omega) (by simp <;> omega)).mono ?_
  clear rx ry d0 d1 dz
  rintro e w5 ⟨rfl, b5⟩
  have sw5 : w4.heap.size ≤ w5.heap.size := (bnew b5).size
  have boxG := (box_new w4 _ _).below b5 (by simp)
  have eboxG : w4.heap.size < w5.heap.size := bsize b5
  replace r0 := r0.below (bnew b5) (by omega)
  replace oW := oW.below (bnew b5) (by omega)
  replace boxW := boxW.below (bnew b5) (by omega)
  replace ox0 := ox0.below (bnew b5) (by omega)
  replace oG := oG.below (bnew b5) (by omega)
  replace bel := bthen bel (bnew b5)
  go_wp2_with fail
  refine (toByteS_any _ n0 f0 w.heap.size _ r0 (by omega) (by omega)).mono ?_
  rintro e w6 ⟨vy0, rfl, oy0, b6⟩
  have sw6 : w5.heap.size ≤ w6.heap.size := b6.size
  replace r0 := r0.below b6 (by omega)
  replace oW := oW.below b6 (by omega)
  replace boxW := boxW.below b6 (by omega)
  replace ox0 := ox0.below b6 (by omega)
  replace oG := oG.below b6 (by omega)
  replace boxG := boxG.below b6 (by omega)
  replace bel := bthen bel b6
  go_wp2_with fail
  refine (eqByteS_same vx0 vy0 n0 f0 _ _ _ ox0.rd oy0.rd).mono ?_
  rintro e w7 ⟨rfl, b7⟩
  clear oy0
  have sw7 : w6.heap.size ≤ w7.heap.size := b7.size
  replace r0 := r0.below b7 (by omega)
  replace oW := oW.below b7 (by omega)
  replace boxW := boxW.below b7 (by omega)
  replace ox0 := ox0.below b7 (by omega)
  replace oG := oG.below b7 (by omega)
  replace boxG := boxG.below b7 (by omega)
  replace bel := bthen bel b7
  go_wp2_with fail
  refine (markByteS_any vx0 n0 f0 _ _ 1 (by omega) (by omega) _ ox0).mono ?_
  rintro e w8 ⟨rfl, om0, out0⟩
  have ch := out0.chg
  clear out0
  clear ox0 om0
  have sw8 : w7.heap.size ≤ w8.heap.size := ch.size
  replace r0 := r0.chg ch (by omega) (by omega)
  replace oW := oW.chg ch (by omega)
  replace boxW := boxW.chg ch (by omega)
  replace oG := oG.chg ch (by omega)
  replace boxG := boxG.chg ch (by omega)
  replace bel := bel.trans (ch.below (by omega) (by omega))
  clear ch
  skip
  obtain ⟨d0, d1, -, -⟩ := res_cells boxW
  obtain ⟨d2, d3, -, -⟩ := res_cells boxG
  go_wp2_with fail
  refine (eqBytesR_same c (.slice aoG m capG) (.slice aoW m capW) m g _ _ _ oG.rd oW.rd (by omega) (by omega)).mono ?_
  clear d0 d1 d2 d3
  rintro e w9 ⟨rfl, b9⟩
  have sw9 : w8.heap.size ≤ w9.heap.size := b9.size
  replace r0 := r0.below b9 (by omega)
  replace oW := oW.below b9 (by omega)
  replace boxW := boxW.below b9 (by omega)
  replace oG := oG.below b9 (by omega)
  replace boxG := boxG.below b9 (by omega)
  replace bel := bthen bel b9
  obtain ⟨d0, d1, -, -⟩ := res_cells boxG
  go_wp2_with fail
  refine (markBytesR_any c (.slice aoG m capG) m g _ _ 1 (by omega) (by omega) _ oG).mono ?_
  rintro e w10 ⟨rfl, oM, ch⟩
  clear d0 d1 oG
  have sw10 : w9.heap.size ≤ w10.heap.size := ch.size
  replace r0 := r0.chg ch (by omega) (by omega)
  replace oW := oW.chg ch (by omega)
  replace boxW := boxW.chg ch (by omega)
  replace boxG := boxG.chg ch (by omega)
  replace bel := bel.trans (ch.below (by omega) (by omega))
  clear ch
  obtain ⟨d0, d1, -, -⟩ := res_cells boxG
  go_wp2_with fail
  refine (heldBytesR_any c (.slice aoG m capG) m _ 1 (by omega) (by omega) _ oM.rd (by omega)).mono ?_
  rintro e w11 ⟨rfl, b11⟩
  clear d0 d1
  have sw11 : w10.heap.size ≤ w11.heap.size := b11.size
  replace r0 := r0.below b11 (by omega)
  replace oW := oW.below b11 (by omega)
  replace boxW := boxW.below b11 (by omega)
  replace boxG := boxG.below b11 (by omega)
  replace oM := oM.below b11 (by omega)
  replace bel := bthen bel b11
  go_wp2_with fail
  refine (toByteS_any _ n0 f0 w.heap.size _ r0 (by omega) (by omega)).mono ?_
  rintro e w12 ⟨vu0, rfl, ou0, b12⟩
  have sw12 : w11.heap.size ≤ w12.heap.size := b12.size
  replace r0 := r0.below b12 (by omega)
  replace oW := oW.below b12 (by omega)
  replace boxW := boxW.below b12 (by omega)
  replace boxG := boxG.below b12 (by omega)
  replace oM := oM.below b12 (by omega)
  replace bel := bthen bel b12
  go_wp2_with fail
  refine (hi vu0 _ _ ou0.rd (by omega)).mono ?_
  rintro e w13 ⟨vH, rfl, oH, b13⟩
  obtain ⟨aoH, capH, rfl⟩ := oH.slice
  unfold bytesR
  have sw13 : w12.heap.size ≤ w13.heap.size := b13.size
  replace r0 := r0.below b13 (by omega)
  replace oW := oW.below b13 (by omega)
  replace boxW := boxW.below b13 (by omega)
  replace boxG := boxG.below b13 (by omega)
  replace oM := oM.below b13 (by omega)
  replace ou0 := ou0.below b13 (by omega)
  replace bel := bthen bel b13
  clear ou0
  obtain ⟨d0, d1, -, -⟩ := res_cells boxW
  have dz : w2.heap.size < w13.heap.size := by omega
  go_wp2_with fail
  have rx := oH.alloc (.cells #[.int .i64 c, .slice aoH m capH] 32)
  have ry := oW.alloc (.cells #[.int .i64 c, .slice aoH m capH] 32)
  refine (eqBytesR_same c (.slice aoH m capH) (.slice aoW m capW) m g _ _ _ rx.rd ry.rd (by simp <;> omega) (by simp <;> omega)).mono ?_
  clear rx ry d0 d1 dz
  rintro e w14 ⟨rfl, b14⟩
  have sw14 : w13.heap.size ≤ w14.heap.size := (bnew b14).size
  have boxH := (box_new w13 _ _).below b14 (by simp)
  have eboxH : w13.heap.size < w14.heap.size := bsize b14
  replace r0 := r0.below (bnew b14) (by omega)
  replace oW := oW.below (bnew b14) (by omega)
  replace boxW := boxW.below (bnew b14) (by omega)
  replace boxG := boxG.below (bnew b14) (by omega)
  replace oM := oM.below (bnew b14) (by omega)
  replace oH := oH.below (bnew b14) (by omega)
  replace bel := bthen bel (bnew b14)
  obtain ⟨d0, d1, -, -⟩ := res_cells boxG
  go_wp2_with fail
  refine (heldBytesR_any c (.slice aoG m capG) m _ 1 (by omega) (by omega) _ oM.rd (by omega)).mono ?_
  rintro e w15 ⟨rfl, b15⟩
  clear d0 d1
  have sw15 : w14.heap.size ≤ w15.heap.size := b15.size
  replace r0 := r0.below b15 (by omega)
  replace oW := oW.below b15 (by omega)
  replace boxW := boxW.below b15 (by omega)
  replace boxG := boxG.below b15 (by omega)
  replace oM := oM.below b15 (by omega)
  replace oH := oH.below b15 (by omega)
  replace boxH := boxH.below b15 (by omega)
  replace bel := bthen bel b15
  go_wp2
  go_ret
  exact ⟨rfl, bel⟩

set_option maxRecDepth 100000 in
theorem fnExactScaleBytes_lifted (os : Os) (started : os.Started) (H : Type) (enc : TypeId × Value → H) :
    ReturnsInHanded {} Try.checked os 7 .any (Rows.fnExactScaleBytesSpec.pre6 enc Try.prog Try.f7 Rows.fnExactScaleBytesRow.domain false) (Rows.fnExactScaleBytesSpec.post enc Try.prog Try.f7 false true false false) := by
  refine returnsInHanded_of_change (C := Try.checked) frame_own started (by kernel_rfl) Try.func7
    (ChangeSpec.witness6 (enc := enc) (C := Try.checked) false ⟨#[], #[.slice none 0 0, .int .u8 0], []⟩ 8 (by kernel_rfl) (by kernel_rfl) (by kernel_rfl) (by kernel_rfl)) ?_
  intro W base args ds gs before hval0 hW hcnd _
  have hval : ∀ (j : Nat) t v, Try.f7.params[j]? = some t → args[j]? = some v → Value.okWide Try.prog W .any base t v := hval0
  have hW' := hW
  obtain ⟨p, q, hA0, hV, rfl, hfz, hnd⟩ := hW
  have hA : DataW.TrodAll enc Try.prog W 0 (fun _ => true) true Try.f7.params.toList args.toList ds p := hA0
  rw [Try.params7] at hA hval
  obtain ⟨v0, vs0, d0, ds0, p0, q0, hargs, rfl, rfl, h0, r0⟩ := trodAll_cons hA
  obtain ⟨v1, vs1, d1, ds1, p1, q1, rfl, rfl, rfl, h1, r1⟩ := trodAll_cons r0
  obtain ⟨rfl, rfl, rfl⟩ := trodAll_nil r1
  obtain rfl : args = #[v0, v1] := by cases args; simp_all
  obtain ⟨rfl, rfl⟩ := trodVars_none hV
  obtain ⟨a0, len0, cap0, rfl⟩ := okWide_slice Try.underlying30 (hval 0 30 v0 rfl rfl)
  have k0 := h0
  have lt0 : ∀ x ∈ p0, x.block < W.heap.size := by obtain ⟨m, hm⟩ := k0; exact DataW.trod_lt m _ _ _ hm
  obtain ⟨z0, w0⟩ : ∃ zs, IsRow W a0 len0 cap0 zs := row_of_trod Try.underlying30 Try.underlying5 (by kernel_rfl) h0
  obtain ⟨a1, rfl, rfl, rfl, w1⟩ := open_int Try.underlying5 (hval 1 5 v1 rfl rfl) h1
  obtain ⟨n1, hn1, rfl⟩ := nat_of_u8 w1
  clear hA0 hval0
  refine (fnExactScaleBytes_walk a0 len0 cap0 z0 n1 hn1 W w0).mono fun e W' ⟨he, bel⟩ => ?_
  subst he
  exact ⟨_, rfl, _, _, _, [], _, [], hW', trodAll_mk1 (shut_bool Try.underlying4 _), (trodAll_cons_mk (Below.trod frame_laid (by kernel_rfl) (of_decide_eq_true (by kernel_rfl)) k0 bel lt0) (trodAll_cons_mk (shut_int Try.underlying5 w1) trodAll_mk0)), rfl, bel.frame _, fun h => by cases h⟩

theorem fnExactScaleBytes_proved : Rows.FnExactScaleBytesSaid :=
  OpenClaim.holds_of_wide 7 Try.f7 rfl rfl rfl rfl rfl rfl rfl ⟨rfl, rfl, rfl, rfl, rfl⟩ rfl rfl rfl rfl rfl (by kernel_rfl) Try.func7 (by kernel_rfl)
    (of_decide_eq_true (by kernel_rfl)) (by unfold Func.isWrapper; first | (rw [if_pos (by decide +kernel)]; kernel_rfl) | (rw [if_neg (by decide +kernel)]; exact ⟨rfl, rfl⟩))
    (fun os started H enc _ => fnExactScaleBytes_lifted os started H enc)
#print axioms fnExactScaleBytes_proved
end Go.Proofs.Yteelhafnkkfcbag
