/- For every string the program's BytesOfHex answers as the specification's does and hands back memory of its own: the law FnExactBytesOfHex returns true at every input, and changes nothing that was there. No condition. -/
import Derived.Test.YthncbkgklhbcjaaRows
import Derived.Test.YthncbkgklhbcjaaFrameM
import Derived.Test.YthncbkgklhbcjaaFrameS
import Derived.Test.YthncbkgklhbcjaaDigI
namespace Go.Proofs.Ythncbkgklhbcjaa
open Go.ChangeShapes Go.WideShapes Go.ChangeAt Go.RowKit F256
set_option linter.unusedVariables false

theorem fnExactBytesOfHex_both (b : ByteArray) (hb : b.size ≤ 1048576) : ∃ (c : Int) (m : Nat) (g : Nat → Nat), m ≤ 4000 ∧
    (∀ (w : World), Calls Try.prog 6 #[.string b] w fun e w' => ∃ v', e = .returned (bytesR c v') ∧ Own w' w.heap.size w'.heap.size v' m g ∧ Below w.heap.size w w') ∧
    (∀ (w : World), Calls Try.prog 7 #[.string b] w fun e w' => ∃ v', e = .returned (bytesR c v') ∧ Own w' w.heap.size w'.heap.size v' m g ∧ Below w.heap.size w w') := by
  by_cases h : 80 < b.size
  · exact ⟨2, 0, fun _ => 0, by omega, specBoh_many b h hb _, implBoh_many b h hb _⟩
  · rcases Nat.mod_two_eq_zero_or_one b.size with ho | ho
    · by_cases hA : AllD b b.size
      · refine ⟨0, b.size / 2, hexV b, by omega, fun w => (specBoh_even b (by omega) ho w).mono ?_, fun w => (implBoh_even b (by omega) ho w).mono ?_⟩
        · rintro e w' (⟨_, h⟩ | ⟨h, _⟩)
          · exact h
          · exact absurd hA h
        · rintro e w' (⟨_, h⟩ | ⟨h, _⟩)
          · exact h
          · exact absurd hA h
      · refine ⟨5, 0, hexV b, by omega, fun w => (specBoh_even b (by omega) ho w).mono ?_, fun w => (implBoh_even b (by omega) ho w).mono ?_⟩
        · rintro e w' (⟨h, _⟩ | ⟨_, h⟩)
          · exact absurd h hA
          · exact h
        · rintro e w' (⟨h, _⟩ | ⟨_, h⟩)
          · exact absurd h hA
          · exact h
    · exact ⟨5, 0, fun _ => 0, by omega, specBoh_odd b (by omega) ho _, implBoh_odd b (by omega) ho _⟩

set_option maxHeartbeats 4000000 in
theorem fnExactBytesOfHex_walk (b0 : ByteArray) (h0 : b0.size ≤ maxLen) (w : World)  :
    Calls Try.prog 3 #[.string b0] w fun e w' => e = .returned (.bool true) ∧ Below w.heap.size w w' := by
  unfold maxLen at h0
  by_cases t0 : 1048576 < b0.size
  · go_enter Try.func3, Try.ntmps3
    go_wp2
    go_ret
    exact ⟨rfl, Below.refl _ _⟩
  obtain ⟨c, m, g, hm, hs, hi⟩ := fnExactBytesOfHex_both b0 (by omega)
  have bel := Below.refl w.heap.size w
  go_enter Try.func3, Try.ntmps3
  go_wp2_with fail
  refine (hs   _  ).mono ?_
  rintro e w1 ⟨vW, rfl, oW, b1⟩
  obtain ⟨aoW, capW, rfl⟩ := oW.slice
  unfold bytesR
  have sw1 : w.heap.size ≤ w1.heap.size := b1.size
  replace bel := bthen bel b1
  skip
  go_wp2_with fail
  refine (hi   _  ).mono ?_
  rintro e w2 ⟨vG, rfl, oG, b2⟩
  obtain ⟨aoG, capG, rfl⟩ := oG.slice
  unfold bytesR
  replace oG := oG.weaken (lo' := w1.heap.size + 1) (by simp) (Nat.le_refl _)
  have sw2 : w1.heap.size ≤ w2.heap.size := (bnew b2).size
  have boxW := (box_new w1 _ _).below b2 (by simp)
  have eboxW : w1.heap.size < w2.heap.size := bsize b2
  replace oW := oW.below (bnew b2) (by omega)
  replace bel := bthen bel (bnew b2)
  obtain ⟨d0, d1, -, -⟩ := res_cells boxW
  have dz : w1.heap.size < w2.heap.size := by omega
  go_wp2_with fail
  have rx := oG.alloc (.cells #[.int .i64 c, .slice aoG m capG] 24)
  have ry := oW.alloc (.cells #[.int .i64 c, .slice aoG m capG] 24)
  refine (eqBytesR_same c (.slice aoG m capG) (.slice aoW m capW) m g _ _ _ rx.rd ry.rd (by simp <;> omega) (by simp <;> omega)).mono ?_
  clear rx ry d0 d1 dz
  rintro e w3 ⟨rfl, b3⟩
  have sw3 : w2.heap.size ≤ w3.heap.size := (bnew b3).size
  have boxG := (box_new w2 _ _).below b3 (by simp)
  have eboxG : w2.heap.size < w3.heap.size := bsize b3
  replace oW := oW.below (bnew b3) (by omega)
  replace boxW := boxW.below (bnew b3) (by omega)
  replace oG := oG.below (bnew b3) (by omega)
  replace bel := bthen bel (bnew b3)
  obtain ⟨d0, d1, -, -⟩ := res_cells boxG
  go_wp2_with fail
  refine (markBytesR_any c (.slice aoG m capG) m g _ _ 1 (by omega) (by omega) _ oG).mono ?_
  rintro e w4 ⟨rfl, oM, ch⟩
  clear d0 d1 oG
  have sw4 : w3.heap.size ≤ w4.heap.size := ch.size
  replace oW := oW.chg ch (by omega)
  replace boxW := boxW.chg ch (by omega)
  replace boxG := boxG.chg ch (by omega)
  replace bel := bel.trans (ch.below (by omega) (by omega))
  clear ch
  obtain ⟨d0, d1, -, -⟩ := res_cells boxG
  go_wp2_with fail
  refine (heldBytesR_any c (.slice aoG m capG) m _ 1 (by omega) (by omega) _ oM.rd (by omega)).mono ?_
  rintro e w5 ⟨rfl, b5⟩
  clear d0 d1
  have sw5 : w4.heap.size ≤ w5.heap.size := b5.size
  replace oW := oW.below b5 (by omega)
  replace boxW := boxW.below b5 (by omega)
  replace boxG := boxG.below b5 (by omega)
  replace oM := oM.below b5 (by omega)
  replace bel := bthen bel b5
  go_wp2_with fail
  refine (hi   _  ).mono ?_
  rintro e w6 ⟨vH, rfl, oH, b6⟩
  obtain ⟨aoH, capH, rfl⟩ := oH.slice
  unfold bytesR
  have sw6 : w5.heap.size ≤ w6.heap.size := b6.size
  replace oW := oW.below b6 (by omega)
  replace boxW := boxW.below b6 (by omega)
  replace boxG := boxG.below b6 (by omega)
  replace oM := oM.below b6 (by omega)
  replace bel := bthen bel b6
  obtain ⟨d0, d1, -, -⟩ := res_cells boxW
  have dz : w1.heap.size < w6.heap.size := by omega
  go_wp2_with fail
  have rx := oH.alloc (.cells #[.int .i64 c, .slice aoH m capH] 24)
  have ry := oW.alloc (.cells #[.int .i64 c, .slice aoH m capH] 24)
  refine (eqBytesR_same c (.slice aoH m capH) (.slice aoW m capW) m g _ _ _ rx.rd ry.rd (by simp <;> omega) (by simp <;> omega)).mono ?_
  clear rx ry d0 d1 dz
  rintro e w7 ⟨rfl, b7⟩
  have sw7 : w6.heap.size ≤ w7.heap.size := (bnew b7).size
  have boxH := (box_new w6 _ _).below b7 (by simp)
  have eboxH : w6.heap.size < w7.heap.size := bsize b7
  replace oW := oW.below (bnew b7) (by omega)
  replace boxW := boxW.below (bnew b7) (by omega)
  replace boxG := boxG.below (bnew b7) (by omega)
  replace oM := oM.below (bnew b7) (by omega)
  replace oH := oH.below (bnew b7) (by omega)
  replace bel := bthen bel (bnew b7)
  obtain ⟨d0, d1, -, -⟩ := res_cells boxG
  go_wp2_with fail
  refine (heldBytesR_any c (.slice aoG m capG) m _ 1 (by omega) (by omega) _ oM.rd (by omega)).mono ?_
  rintro e w8 ⟨rfl, b8⟩
  clear d0 d1
  have sw8 : w7.heap.size ≤ w8.heap.size := b8.size
  replace oW := oW.below b8 (by omega)
  replace boxW := boxW.below b8 (by omega)
  replace boxG := boxG.below b8 (by omega)
  replace oM := oM.below b8 (by omega)
  replace oH := oH.below b8 (by omega)
  replace boxH := boxH.below b8 (by omega)
  replace bel := bthen bel b8
  go_wp2
  go_ret
  exact ⟨rfl, bel⟩

set_option maxRecDepth 100000 in
theorem fnExactBytesOfHex_lifted (os : Os) (started : os.Started) (H : Type) (enc : TypeId × Value → H) :
    ReturnsInHanded {} Try.checked os 3 .any (Rows.fnExactBytesOfHexSpec.pre6 enc Try.prog Try.f3 Rows.fnExactBytesOfHexRow.domain false) (Rows.fnExactBytesOfHexSpec.post enc Try.prog Try.f3 false true false false) := by
  refine returnsInHanded_of_change (C := Try.checked) frame_own started (by kernel_rfl) Try.func3
    (ChangeSpec.witness6 (enc := enc) (C := Try.checked) false ⟨#[], #[.string ByteArray.empty], []⟩ 8 (by kernel_rfl) (by kernel_rfl) (by kernel_rfl) (by kernel_rfl)) ?_
  intro W base args ds gs before hval0 hW hcnd _
  have hval : ∀ (j : Nat) t v, Try.f3.params[j]? = some t → args[j]? = some v → Value.okWide Try.prog W .any base t v := hval0
  have hW' := hW
  obtain ⟨p, q, hA0, hV, rfl, hfz, hnd⟩ := hW
  have hA : DataW.TrodAll enc Try.prog W 0 (fun _ => true) true Try.f3.params.toList args.toList ds p := hA0
  rw [Try.params3] at hA hval
  obtain ⟨v0, vs0, d0, ds0, p0, q0, hargs, rfl, rfl, h0, r0⟩ := trodAll_cons hA
  obtain ⟨rfl, rfl, rfl⟩ := trodAll_nil r0
  obtain rfl : args = #[v0] := by cases args; simp_all
  obtain ⟨rfl, rfl⟩ := trodVars_none hV
  obtain ⟨b0, rfl, rfl, rfl, hb0⟩ := ChangeMaps.open_string Try.underlying9 (hval 0 9 v0 rfl rfl) h0
  clear hA0 hval0
  refine (fnExactBytesOfHex_walk b0 hb0 W).mono fun e W' ⟨he, bel⟩ => ?_
  subst he
  exact ⟨_, rfl, _, _, _, [], _, [], hW', trodAll_mk1 (shut_bool Try.underlying4 _), (trodAll_cons_mk (ChangeMaps.shut_string Try.underlying9 hb0) trodAll_mk0), rfl, bel.frame _, fun h => by cases h⟩

theorem fnExactBytesOfHex_proved : Rows.FnExactBytesOfHexSaid :=
  OpenClaim.holds_of_wide 3 Try.f3 rfl rfl rfl rfl rfl rfl rfl ⟨rfl, rfl, rfl, rfl, rfl⟩ rfl rfl rfl rfl rfl (by kernel_rfl) Try.func3 (by kernel_rfl)
    (of_decide_eq_true (by kernel_rfl)) (by unfold Func.isWrapper; first | (rw [if_pos (by decide +kernel)]; kernel_rfl) | (rw [if_neg (by decide +kernel)]; exact ⟨rfl, rfl⟩))
    (fun os started H enc _ => fnExactBytesOfHex_lifted os started H enc)
#print axioms fnExactBytesOfHex_proved
end Go.Proofs.Ythncbkgklhbcjaa
