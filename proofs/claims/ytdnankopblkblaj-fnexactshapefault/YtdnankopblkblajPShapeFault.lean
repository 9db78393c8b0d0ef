/- For every shape the program's ShapeFault answers as the specification's does and writes into nothing: the law FnExactShapeFault returns true at every input, and changes nothing that was there. No condition. -/
import Derived.Test.YtdnankopblkblajRows
import Derived.Test.YtdnankopblkblajFrameM
import Derived.Test.YtdnankopblkblajFrameS
import Derived.Test.YtdnankopblkblajShapeB
import Derived.Test.YtdnankopblkblajWInt
import Derived.Test.YtdnankopblkblajWNearB
namespace Go.Proofs.Ytdnankopblkblaj
open Go.ChangeShapes Go.WideShapes Go.ChangeAt Go.RowKit F256
set_option linter.unusedVariables false

theorem fnExactShapeFault_ans (s : Nat → Int) : ∃ x, ShFAns s x := by
  by_cases h : OkShape s
  · exact ⟨0, .inr ⟨rfl, h⟩⟩
  · exact ⟨3, .inl ⟨rfl, h⟩⟩
theorem fnExactShapeFault_both (s0 : Nat → Int) (h0 : ∀ i, -9223372036854775808 ≤ s0 i ∧ s0 i ≤ 9223372036854775807) : ∃ (c : Int),
    (∀ w, Calls Try.prog 36 #[shapeV s0] w fun e w' => e = .returned (.int .i64 c) ∧ Below w.heap.size w w') ∧
    (∀ w, Calls Try.prog 38 #[shapeV s0] w fun e w' => e = .returned (.int .i64 c) ∧ Below w.heap.size w w') := by
  obtain ⟨c, hc⟩ := fnExactShapeFault_ans s0
  refine ⟨c, fun w => (specShape_any s0 w).mono ?_, fun w => (implShape_any s0 w).mono ?_⟩
  · rintro e w' ⟨x, rfl, hx, hb⟩
    obtain rfl := hx.one hc
    exact ⟨rfl, hb⟩
  · rintro e w' ⟨x, rfl, hx, hb⟩
    obtain rfl := hx.one hc
    exact ⟨rfl, hb⟩

set_option maxHeartbeats 4000000 in
theorem fnExactShapeFault_walk (s0 : Nat → Int) (h0 : ∀ i, -9223372036854775808 ≤ s0 i ∧ s0 i ≤ 9223372036854775807) (w : World) :
    Calls Try.prog 8 #[shapeV s0] w fun e w' => e = .returned (.bool true) ∧ Below w.heap.size w w' := by
  obtain ⟨c, hs, hi⟩ := fnExactShapeFault_both s0 h0
  have bel := Below.refl w.heap.size w
  have CT := toShape_any s0
  unfold shapeV at *
  go_enter Try.func8, Try.ntmps8
  go_wp2_with fail
  refine (CT _).mono ?_
  rintro e w1 ⟨rfl, bb⟩
  obtain ⟨XS, BS⟩ := box_first bb
  replace bel := BS
  clear BS
  clear bb
  go_wp2_with fail
  refine (hs _).mono ?_
  rintro e w2 ⟨rfl, bb⟩
  replace XS := XS.below bb XS.lt
  replace bel := bthen bel bb
  clear bb
  obtain ⟨x0, x1, x2, x3, x4, x5, x6, x7, x8⟩ := box9 XS
  go_wp2_with fail
  refine (CT _).mono ?_
  rintro e w3 ⟨rfl, bb⟩
  replace XS := XS.below bb XS.lt
  replace bel := bthen bel bb
  clear bb
  clear x0 x1 x2 x3 x4 x5 x6 x7 x8
  go_wp2_with fail
  refine (hi _).mono ?_
  rintro e w4 ⟨rfl, bb⟩
  replace XS := XS.below bb XS.lt
  replace bel := bthen bel bb
  clear bb
  have tc : (c != c) = false := by simp
  go_wp2
  go_ret
  exact ⟨rfl, bel⟩

set_option maxRecDepth 100000 in
theorem fnExactShapeFault_lifted (os : Os) (started : os.Started) (H : Type) (enc : TypeId × Value → H) :
    ReturnsInHanded {} Try.checked os 8 .any (Rows.fnExactShapeFaultSpec.pre6 enc Try.prog Try.f8 Rows.fnExactShapeFaultRow.domain false) (Rows.fnExactShapeFaultSpec.post enc Try.prog Try.f8 false true false false) := by
  refine returnsInHanded_of_change (C := Try.checked) frame_own started (by kernel_rfl) Try.func8
    (ChangeSpec.witness6 (enc := enc) (C := Try.checked) false ⟨#[], #[.agg #[.int .i64 0, .int .i64 0, .int .i64 0, .int .i64 0, .int .i64 0, .int .i64 0, .int .i64 0, .int .i64 0, .int .i64 0]], []⟩ 8 (by kernel_rfl) (by kernel_rfl) (by kernel_rfl) (by kernel_rfl)) ?_
  intro W base args ds gs before hval0 hW hcnd _
  have hval : ∀ (j : Nat) t v, Try.f8.params[j]? = some t → args[j]? = some v → Value.okWide Try.prog W .any base t v := hval0
  have hW' := hW
  obtain ⟨p, q, hA0, hV, rfl, hfz, hnd⟩ := hW
  have hA : DataW.TrodAll enc Try.prog W 0 (fun _ => true) true Try.f8.params.toList args.toList ds p := hA0
  rw [Try.params8] at hA hval
  obtain ⟨v0, vs0, d0, ds0, p0, q0, hargs, rfl, rfl, h0, r0⟩ := trodAll_cons hA
  obtain ⟨rfl, rfl, rfl⟩ := trodAll_nil r0
  obtain rfl : args = #[v0] := by cases args; simp_all
  obtain ⟨rfl, rfl⟩ := trodVars_none hV
  have k0 := h0
  have lt0 : ∀ x ∈ p0, x.block < W.heap.size := by obtain ⟨m, hm⟩ := k0; exact DataW.trod_lt m _ _ _ hm
  obtain ⟨s0, rfl, hs0⟩ := shape_of_trod Try.underlying56 Try.underlying2 (by kernel_rfl) (by kernel_rfl) (fun i hi => by
    match i, hi with
    | 0, _ => exact ⟨_, rfl, rfl, rfl⟩
    | 1, _ => exact ⟨_, rfl, rfl, rfl⟩
    | 2, _ => exact ⟨_, rfl, rfl, rfl⟩
    | 3, _ => exact ⟨_, rfl, rfl, rfl⟩
    | 4, _ => exact ⟨_, rfl, rfl, rfl⟩
    | 5, _ => exact ⟨_, rfl, rfl, rfl⟩
    | 6, _ => exact ⟨_, rfl, rfl, rfl⟩
    | 7, _ => exact ⟨_, rfl, rfl, rfl⟩
    | 8, _ => exact ⟨_, rfl, rfl, rfl⟩) (hval 0 56 v0 rfl rfl) h0
  clear hA0 hval0
  refine (fnExactShapeFault_walk s0 hs0 W).mono fun e W' ⟨he, bel⟩ => ?_
  subst he
  exact ⟨_, rfl, _, _, _, [], _, [], hW', trodAll_mk1 (shut_bool Try.underlying4 _), (trodAll_cons_mk (Below.trod frame_laid (by kernel_rfl) (of_decide_eq_true (by kernel_rfl)) k0 bel lt0) trodAll_mk0), rfl, bel.frame _, fun h => by cases h⟩

theorem fnExactShapeFault_proved : Rows.FnExactShapeFaultSaid :=
  OpenClaim.holds_of_wide 8 Try.f8 rfl rfl rfl rfl rfl rfl rfl ⟨rfl, rfl, rfl, rfl, rfl⟩ rfl rfl rfl rfl rfl (by kernel_rfl) Try.func8 (by kernel_rfl)
    (of_decide_eq_true (by kernel_rfl)) (by unfold Func.isWrapper; first | (rw [if_pos (by decide +kernel)]; kernel_rfl) | (rw [if_neg (by decide +kernel)]; exact ⟨rfl, rfl⟩))
    (fun os started H enc _ => fnExactShapeFault_lifted os started H enc)
#print axioms fnExactShapeFault_proved
end Go.Proofs.Ytdnankopblkblaj
