/- For every two numbers and every slice of bytes the program's EncodeRow answers as the specification's does, writes into no argument and hands back memory of its own: the law FnExactEncodeRow returns true at every input, and changes nothing that was there. No condition. -/
import Derived.Test.YtoadjpacchhleahRows
import Derived.Test.YtoadjpacchhleahFrameM
import Derived.Test.YtoadjpacchhleahWOwnG
import Derived.Test.YtoadjpacchhleahWSz
import Derived.Test.YtoadjpacchhleahWImplD
namespace Go.Proofs.Ytoadjpacchhleah
open Go.ChangeShapes Go.WideShapes Go.ChangeAt Go.RowKit F256
set_option linter.unusedVariables false

theorem fnExactEncodeRow_both (a0 : Int) (h0 : -9223372036854775808 ≤ a0 ∧ a0 ≤ 9223372036854775807) (a1 : Int) (h1 : -9223372036854775808 ≤ a1 ∧ a1 ≤ 9223372036854775807) (n2 : Nat) (f2 : Nat → Nat) (k2 : ∀ i, f2 i < 256) : ∃ (c : Int) (m : Nat) (nn : Nat → Nat) (g : Mat), m ≤ 4000 ∧ sumN nn m ≤ 100000 ∧
    (∀ (v2 : Value) (l2 e2 : Nat) (w : World), Own w l2 e2 v2 n2 f2 → e2 ≤ w.heap.size →
      Calls Try.prog 28 #[.int .i64 a0, .int .i64 a1, v2] w fun e w' => ∃ v', e = .returned (bytesR c v') ∧ OwnG w' w.heap.size w'.heap.size v' m nn g ∧ Below w.heap.size w w') ∧
    (∀ (v2 : Value) (l2 e2 : Nat) (w : World), Own w l2 e2 v2 n2 f2 → e2 ≤ w.heap.size →
      Calls Try.prog 29 #[.int .i64 a0, .int .i64 a1, v2] w fun e w' => ∃ v', e = .returned (bytesR c v') ∧ OwnG w' w.heap.size w'.heap.size v' m nn g ∧ Below w.heap.size w w') := by
  obtain ⟨c, hc⟩ := enc_ans a0 a1 n2
  refine ⟨c, if c = 0 then (a0 + a1).toNat else 0, fun _ => 4, encN a0.toNat f2, ?_, ?_, fun v2 l2 e2 w o2 b2 => ?_, fun v2 l2 e2 w o2 b2 => ?_⟩
  · exact Nat.le_trans (shp_rows hc) (by omega)
  · exact sum4_le _ (shp_rows hc)
  · refine (specEncode_any a0 a1 v2 n2 f2 l2 e2 w o2 b2 k2).mono fun e w' ⟨x, v', he, ha, ho, hb⟩ => ?_
    obtain rfl := ha.one hc
    exact ⟨v', he, .inl ho, hb⟩
  · refine (implEncode_any a0 a1 v2 n2 f2 l2 e2 w o2 b2 k2).mono fun e w' ⟨x, v', he, ha, ho, hb⟩ => ?_
    obtain rfl := ha.one hc
    exact ⟨v', he, ho, hb⟩

set_option maxHeartbeats 4000000 in
theorem fnExactEncodeRow_walk (a0 : Int) (h0 : -9223372036854775808 ≤ a0 ∧ a0 ≤ 9223372036854775807) (a1 : Int) (h1 : -9223372036854775808 ≤ a1 ∧ a1 ≤ 9223372036854775807) (a2 : Option Addr) (n2 c2 : Nat) (z2 : List Int) (w : World) (q2 : IsRow w a2 n2 c2 z2) :
    Calls Try.prog 7 #[.int .i64 a0, .int .i64 a1, .slice a2 n2 c2] w fun e w' => e = .returned (.bool true) ∧ Below w.heap.size w w' := by
  obtain ⟨f2, k2, r2⟩ := q2.rd
  have l2 : n2 ≤ 9223372036854775807 := by obtain ⟨_, _, _, h, _⟩ := r2; unfold maxLen at h; omega
  clear q2
  by_cases t2 : 1048576 < n2
  · go_enter Try.func7, Try.ntmps7
    go_wp2
    go_ret
    exact ⟨rfl, Below.refl _ _⟩
  obtain ⟨c, m, nn, g, hm, hsm, hs, hi⟩ := fnExactEncodeRow_both a0 h0 a1 h1 n2 f2 k2
  clear k2
  have bel := Below.refl w.heap.size w
  go_enter Try.func7, Try.ntmps7
  go_wp2_with fail
  refine (toByteS_any _ n2 f2 w.heap.size _ r2 (by omega) (by omega)).mono ?_
  rintro e w1 ⟨vt2, rfl, ot2, b1⟩
  have sw1 : w.heap.size ≤ w1.heap.size := b1.size
  replace r2 := r2.below b1 (by omega)
  replace bel := bthen bel b1
  go_wp2_with fail
  refine (hs vt2 _ _ _ ot2 (by omega)).mono ?_
  rintro e w2 ⟨vW, rfl, oW, b2⟩
  obtain ⟨aoW, capW, rfl⟩ := oW.slice
  unfold bytesR
  have sw2 : w1.heap.size ≤ w2.heap.size := b2.size
  replace r2 := r2.below b2 (by omega)
  replace ot2 := ot2.below b2 (by omega)
  replace bel := bthen bel b2
  clear ot2
  go_wp2_with fail
  have rx := r2.below (Below.alloc (Below.refl w2.heap.size w2) (Nat.le_refl _) (.cells #[.int .i64 c, .slice aoW m capW] 44)) (by omega)
  refine (toByteS_any _ n2 f2 w.heap.size _ rx (by simp <;> omega) (by omega)).mono ?_
  rintro e w3 ⟨vx2, rfl, ox2, b3⟩
  clear rx
  replace ox2 := ox2.weaken (lo' := w2.heap.size + 1) (by simp) (Nat.le_refl _)
  have sw3 : w2.heap.size ≤ w3.heap.size := (bnew b3).size
  have boxW := (box_new w2 _ _).below b3 (by simp)
  have eboxW : w2.heap.size < w3.heap.size := bsize b3
  replace r2 := r2.below (bnew b3) (by omega)
  replace oW := oW.below (bnew b3) (by omega)
  replace bel := bthen bel (bnew b3)
  go_wp2_with fail
  refine (hi vx2 _ _ _ ox2 (by omega)).mono ?_
  rintro e w4 ⟨vG, rfl, oG, b4⟩
  obtain ⟨aoG, capG, rfl⟩ := oG.slice
  unfold bytesR
  have sw4 : w3.heap.size ≤ w4.heap.size := b4.size
  replace r2 := r2.below b4 (by omega)
  replace oW := oW.below b4 (by omega)
  replace boxW := boxW.below b4 (by omega)
  replace ox2 := ox2.below b4 (by omega)
  replace bel := bthen bel b4
  obtain ⟨d0, d1, -, -⟩ := res_cells boxW
  have dz : w2.heap.size < w4.heap.size := by omega
  go_wp2_with fail
  have rx := oG.alloc (.cells #[.int .i64 c, .slice aoG m capG] 44)
  have ry := oW.alloc (.cells #[.int .i64 c, .slice aoG m capG] 44)
  refine (eqBlocksR_same c (.slice aoG m capG) (.slice aoW m capW) m nn g _ _ _ rx.rd ry.rd (by simp <;> omega) (by simp <;> omega)).mono ?_
  clear rx ry d0 d1 dz
  rintro e w5 ⟨rfl, b5⟩
  have sw5 : w4.heap.size ≤ w5.heap.size := (bnew b5).size
  have boxG := (box_new w4 _ _).below b5 (by simp)
  have eboxG : w4.heap.size < w5.heap.size := bsize b5
  replace r2 := r2.below (bnew b5) (by omega)
  replace oW := oW.below (bnew b5) (by omega)
  replace boxW := boxW.below (bnew b5) (by omega)
  replace ox2 := ox2.below (bnew b5) (by omega)
  replace oG := oG.below (bnew b5) (by omega)
  replace bel := bthen bel (bnew b5)
  go_wp2_with fail
  refine (toByteS_any _ n2 f2 w.heap.size _ r2 (by omega) (by omega)).mono ?_
  rintro e w6 ⟨vy2, rfl, oy2, b6⟩
  have sw6 : w5.heap.size ≤ w6.heap.size := b6.size
  replace r2 := r2.below b6 (by omega)
  replace oW := oW.below b6 (by omega)
  replace boxW := boxW.below b6 (by omega)
  replace ox2 := ox2.below b6 (by omega)
  replace oG := oG.below b6 (by omega)
  replace boxG := boxG.below b6 (by omega)
  replace bel := bthen bel b6
  go_wp2_with fail
  refine (eqByteS_same vx2 vy2 n2 f2 _ _ _ ox2.rd oy2.rd).mono ?_
  rintro e w7 ⟨rfl, b7⟩
  clear oy2
  have sw7 : w6.heap.size ≤ w7.heap.size := b7.size
  replace r2 := r2.below b7 (by omega)
  replace oW := oW.below b7 (by omega)
  replace boxW := boxW.below b7 (by omega)
  replace ox2 := ox2.below b7 (by omega)
  replace oG := oG.below b7 (by omega)
  replace boxG := boxG.below b7 (by omega)
  replace bel := bthen bel b7
  go_wp2_with fail
  refine (markByteS_any vx2 n2 f2 _ _ 1 (by omega) (by omega) _ ox2).mono ?_
  rintro e w8 ⟨rfl, om2, out2⟩
  have ch := out2.chg
  clear out2
  clear ox2 om2
  have sw8 : w7.heap.size ≤ w8.heap.size := ch.size
  replace r2 := r2.chg ch (by omega) (by omega)
  replace oW := oW.chg ch (by omega)
  replace boxW := boxW.chg ch (by omega)
  replace oG := oG.chg ch (by omega)
  replace boxG := boxG.chg ch (by omega)
  replace bel := bel.trans (ch.below (by omega) (by omega))
  clear ch
  skip
  obtain ⟨d0, d1, -, -⟩ := res_cells boxW
  obtain ⟨d2, d3, -, -⟩ := res_cells boxG
  go_wp2_with fail
  refine (eqBlocksR_same c (.slice aoG m capG) (.slice aoW m capW) m nn g _ _ _ oG.rd oW.rd (by omega) (by omega)).mono ?_
  clear d0 d1 d2 d3
  rintro e w9 ⟨rfl, b9⟩
  have sw9 : w8.heap.size ≤ w9.heap.size := b9.size
  replace r2 := r2.below b9 (by omega)
  replace oW := oW.below b9 (by omega)
  replace boxW := boxW.below b9 (by omega)
  replace oG := oG.below b9 (by omega)
  replace boxG := boxG.below b9 (by omega)
  replace bel := bthen bel b9
  obtain ⟨d0, d1, -, -⟩ := res_cells boxG
  go_wp2_with fail
  refine (markBlocksG_any c (.slice aoG m capG) m nn g _ _ 1 (by omega) (by omega) (by omega) _ oG (by omega)).mono ?_
  rintro e w10 ⟨rfl, oM, ch⟩
  clear d0 d1 oG
  have sw10 : w9.heap.size ≤ w10.heap.size := ch.size
  replace r2 := r2.chg ch (by omega) (by omega)
  replace oW := oW.chg ch (by omega)
  replace boxW := boxW.chg ch (by omega)
  replace boxG := boxG.chg ch (by omega)
  replace bel := bel.trans (ch.below (by omega) (by omega))
  clear ch
  obtain ⟨d0, d1, -, -⟩ := res_cells boxG
  go_wp2_with fail
  refine (heldBlocksR_any c (.slice aoG m capG) m nn _ 1 (by omega) (by omega) (by omega) _ oM.rd (by omega)).mono ?_
  rintro e w11 ⟨rfl, b11⟩
  clear d0 d1
  have sw11 : w10.heap.size ≤ w11.heap.size := b11.size
  replace r2 := r2.below b11 (by omega)
  replace oW := oW.below b11 (by omega)
  replace boxW := boxW.below b11 (by omega)
  replace boxG := boxG.below b11 (by omega)
  replace oM := oM.below b11 (by omega)
  replace bel := bthen bel b11
  go_wp2_with fail
  refine (toByteS_any _ n2 f2 w.heap.size _ r2 (by omega) (by omega)).mono ?_
  rintro e w12 ⟨vu2, rfl, ou2, b12⟩
  have sw12 : w11.heap.size ≤ w12.heap.size := b12.size
  replace r2 := r2.below b12 (by omega)
  replace oW := oW.below b12 (by omega)
  replace boxW := boxW.below b12 (by omega)
  replace boxG := boxG.below b12 (by omega)
  replace oM := oM.below b12 (by omega)
  replace bel := bthen bel b12
  go_wp2_with fail
  refine (hi vu2 _ _ _ ou2 (by omega)).mono ?_
  rintro e w13 ⟨vH, rfl, oH, b13⟩
  obtain ⟨aoH, capH, rfl⟩ := oH.slice
  unfold bytesR
  have sw13 : w12.heap.size ≤ w13.heap.size := b13.size
  replace r2 := r2.below b13 (by omega)
  replace oW := oW.below b13 (by omega)
  replace boxW := boxW.below b13 (by omega)
  replace boxG := boxG.below b13 (by omega)
  replace oM := oM.below b13 (by omega)
  replace ou2 := ou2.below b13 (by omega)
  replace bel := bthen bel b13
  clear ou2
  obtain ⟨d0, d1, -, -⟩ := res_cells boxW
  have dz : w2.heap.size < w13.heap.size := by omega
  go_wp2_with fail
  have rx := oH.alloc (.cells #[.int .i64 c, .slice aoH m capH] 44)
  have ry := oW.alloc (.cells #[.int .i64 c, .slice aoH m capH] 44)
  refine (eqBlocksR_same c (.slice aoH m capH) (.slice aoW m capW) m nn g _ _ _ rx.rd ry.rd (by simp <;> omega) (by simp <;> omega)).mono ?_
  clear rx ry d0 d1 dz
  rintro e w14 ⟨rfl, b14⟩
  have sw14 : w13.heap.size ≤ w14.heap.size := (bnew b14).size
  have boxH := (box_new w13 _ _).below b14 (by simp)
  have eboxH : w13.heap.size < w14.heap.size := bsize b14
  replace r2 := r2.below (bnew b14) (by omega)
  replace oW := oW.below (bnew b14) (by omega)
  replace boxW := boxW.below (bnew b14) (by omega)
  replace boxG := boxG.below (bnew b14) (by omega)
  replace oM := oM.below (bnew b14) (by omega)
  replace oH := oH.below (bnew b14) (by omega)
  replace bel := bthen bel (bnew b14)
  obtain ⟨d0, d1, -, -⟩ := res_cells boxG
  go_wp2_with fail
  refine (heldBlocksR_any c (.slice aoG m capG) m nn _ 1 (by omega) (by omega) (by omega) _ oM.rd (by omega)).mono ?_
  rintro e w15 ⟨rfl, b15⟩
  clear d0 d1
  have sw15 : w14.heap.size ≤ w15.heap.size := b15.size
  replace r2 := r2.below b15 (by omega)
  replace oW := oW.below b15 (by omega)
  replace boxW := boxW.below b15 (by omega)
  replace boxG := boxG.below b15 (by omega)
  replace oM := oM.below b15 (by omega)
  replace oH := oH.below b15 (by omega)
  replace boxH := boxH.below b15 (by omega)
  replace bel := bthen bel b15
  go_wp2
  go_ret
  exact ⟨rfl, bel⟩

set_option maxRecDepth 100000 in
theorem fnExactEncodeRow_lifted (os : Os) (started : os.Started) (H : Type) (enc : TypeId × Value → H) :
    ReturnsInHanded {} Try.checked os 7 .any (Rows.fnExactEncodeRowSpec.pre6 enc Try.prog Try.f7 Rows.fnExactEncodeRowRow.domain false) (Rows.fnExactEncodeRowSpec.post enc Try.prog Try.f7 false true false false) := by
  refine returnsInHanded_of_change (C := Try.checked) frame_own started (by kernel_rfl) Try.func7
    (ChangeSpec.witness6 (enc := enc) (C := Try.checked) false ⟨#[], #[.int .i64 0, .int .i64 0, .slice none 0 0], []⟩ 8 (by kernel_rfl) (by kernel_rfl) (by kernel_rfl) (by kernel_rfl)) ?_
  intro W base args ds gs before hval0 hW hcnd _
  have hval : ∀ (j : Nat) t v, Try.f7.params[j]? = some t → args[j]? = some v → Value.okWide Try.prog W .any base t v := hval0
  have hW' := hW
  obtain ⟨p, q, hA0, hV, rfl, hfz, hnd⟩ := hW
  have hA : DataW.TrodAll enc Try.prog W 0 (fun _ => true) true Try.f7.params.toList args.toList ds p := hA0
  rw [Try.params7] at hA hval
  obtain ⟨v0, vs0, d0, ds0, p0, q0, hargs, rfl, rfl, h0, r0⟩ := trodAll_cons hA
  obtain ⟨v1, vs1, d1, ds1, p1, q1, rfl, rfl, rfl, h1, r1⟩ := trodAll_cons r0
  obtain ⟨v2, vs2, d2, ds2, p2, q2, rfl, rfl, rfl, h2, r2⟩ := trodAll_cons r1
  obtain ⟨rfl, rfl, rfl⟩ := trodAll_nil r2
  obtain rfl : args = #[v0, v1, v2] := by cases args; simp_all
  obtain ⟨rfl, rfl⟩ := trodVars_none hV
  obtain ⟨a0, rfl, rfl, rfl, w0⟩ := open_int Try.underlying2 (hval 0 2 v0 rfl rfl) h0
  obtain ⟨a1, rfl, rfl, rfl, w1⟩ := open_int Try.underlying2 (hval 1 2 v1 rfl rfl) h1
  obtain ⟨a2, len2, cap2, rfl⟩ := okWide_slice Try.underlying23 (hval 2 23 v2 rfl rfl)
  have k2 := h2
  have lt2 : ∀ x ∈ p2, x.block < W.heap.size := by obtain ⟨m, hm⟩ := k2; exact DataW.trod_lt m _ _ _ hm
  obtain ⟨z2, w2⟩ : ∃ zs, IsRow W a2 len2 cap2 zs := row_of_trod Try.underlying23 Try.underlying5 (by kernel_rfl) h2
  clear hA0 hval0
  refine (fnExactEncodeRow_walk a0 (bounds_i64 w0) a1 (bounds_i64 w1) a2 len2 cap2 z2 W w2).mono fun e W' ⟨he, bel⟩ => ?_
  subst he
  exact ⟨_, rfl, _, _, _, [], _, [], hW', trodAll_mk1 (shut_bool Try.underlying4 _), (trodAll_cons_mk (shut_int Try.underlying2 w0) (trodAll_cons_mk (shut_int Try.underlying2 w1) (trodAll_cons_mk (Below.trod frame_laid (by kernel_rfl) (of_decide_eq_true (by kernel_rfl)) k2 bel lt2) trodAll_mk0))), rfl, bel.frame _, fun h => by cases h⟩

theorem fnExactEncodeRow_proved : Rows.FnExactEncodeRowSaid :=
  OpenClaim.holds_of_wide 7 Try.f7 rfl rfl rfl rfl rfl rfl rfl ⟨rfl, rfl, rfl, rfl, rfl⟩ rfl rfl rfl rfl rfl (by kernel_rfl) Try.func7 (by kernel_rfl)
    (of_decide_eq_true (by kernel_rfl)) (by unfold Func.isWrapper; first | (rw [if_pos (by decide +kernel)]; kernel_rfl) | (rw [if_neg (by decide +kernel)]; exact ⟨rfl, rfl⟩))
    (fun os started H enc _ => fnExactEncodeRow_lifted os started H enc)
#print axioms fnExactEncodeRow_proved
end Go.Proofs.Ytoadjpacchhleah
