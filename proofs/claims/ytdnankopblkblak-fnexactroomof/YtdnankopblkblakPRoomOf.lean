/- For every shape the program's RoomOf answers as the specification's does and writes into nothing: the law FnExactRoomOf returns true at every input, and changes nothing that was there. No condition. -/
import Derived.Test.YtdnankopblkblakRows
import Derived.Test.YtdnankopblkblakFrameM
import Derived.Test.YtdnankopblkblakFrameS
import Derived.Test.YtdnankopblkblakShapeB
import Derived.Test.YtdnankopblkblakWInt
import Derived.Test.YtdnankopblkblakWImplRo
namespace Go.Proofs.Ytdnankopblkblak
open Go.ChangeShapes Go.WideShapes Go.ChangeAt Go.RowKit F256
set_option linter.unusedVariables false

theorem fnExactRoomOf_ans (s : Nat → Int) : ∃ x c, RoAns s x c := by
  by_cases h : OkShape s
  · exact ⟨_, 0, .inr ⟨h, rfl, rfl⟩⟩
  · exact ⟨0, 3, .inl ⟨h, rfl, rfl⟩⟩
theorem fnExactRoomOf_both (s0 : Nat → Int) (h0 : ∀ i, -9223372036854775808 ≤ s0 i ∧ s0 i ≤ 9223372036854775807) : ∃ (c v : Int),
    (∀ w, Calls Try.prog 31 #[shapeV s0] w fun e w' => e = .returned (intR c v) ∧ Below w.heap.size w w') ∧
    (∀ w, Calls Try.prog 32 #[shapeV s0] w fun e w' => e = .returned (intR c v) ∧ Below w.heap.size w w') := by
  obtain ⟨v, c, hc⟩ := fnExactRoomOf_ans s0
  refine ⟨c, v, fun w => (specRoom_any s0 w).mono ?_, fun w => (implRoom_any s0 w).mono ?_⟩
  · rintro e w' ⟨x, d, rfl, hx, hb⟩
    obtain ⟨rfl, rfl⟩ := hx.one hc
    exact ⟨rfl, hb⟩
  · rintro e w' ⟨x, d, rfl, hx, hb⟩
    obtain ⟨rfl, rfl⟩ := hx.one hc
    exact ⟨rfl, hb⟩

set_option maxHeartbeats 4000000 in
theorem fnExactRoomOf_walk (s0 : Nat → Int) (h0 : ∀ i, -9223372036854775808 ≤ s0 i ∧ s0 i ≤ 9223372036854775807) (w : World) :
    Calls Try.prog 7 #[shapeV s0] w fun e w' => e = .returned (.bool true) ∧ Below w.heap.size w w' := by
  obtain ⟨c, v, hs, hi⟩ := fnExactRoomOf_both s0 h0
  have bel := Below.refl w.heap.size w
  have CT := toShape_any s0
  unfold shapeV at *
  go_enter Try.func7, Try.ntmps7
  go_wp2_with fail
  refine (CT _).mono ?_
  rintro e w1 ⟨rfl, bb⟩
  obtain ⟨XS, BS⟩ := box_first bb
  replace bel := BS
  clear BS
  clear bb
  go_wp2_with fail
  refine (hs _).mono ?_
  rintro e w2 ⟨rfl, bb⟩
  replace XS := XS.below bb XS.lt
  replace bel := bthen bel bb
  clear bb
  unfold intR
  obtain ⟨x0, x1, x2, x3, x4, x5, x6, x7, x8⟩ := box9 (XS.allocd (.cells #[.int .i64 c, .int .i64 v] 25))
  go_wp2_with fail
  refine (CT _).mono ?_
  rintro e w3 ⟨rfl, bb⟩
  replace XS := box_on XS bb
  obtain ⟨X, BX⟩ := box_first bb
  replace bel := bthen bel BX
  clear BX
  clear bb
  clear x0 x1 x2 x3 x4 x5 x6 x7 x8
  go_wp2_with fail
  refine (hi _).mono ?_
  rintro e w4 ⟨rfl, bb⟩
  replace XS := XS.below bb XS.lt
  replace X := X.below bb X.lt
  replace bel := bthen bel bb
  clear bb
  unfold intR
  obtain ⟨x0, x1, -, -⟩ := res_cells X
  have y0 := (cell_alloc_old _ (.cells #[.int .i64 c, .int .i64 v] 25) _ 0 X.lt).trans x0
  have y1 := (cell_alloc_old _ (.cells #[.int .i64 c, .int .i64 v] 25) _ 1 X.lt).trans x1
  go_wp2_with fail
  refine (eqInt_same c v _).mono ?_
  rintro e wz ⟨rfl, bz⟩
  replace bel := bthen bel (bnew bz)
  go_wp2
  go_ret
  exact ⟨rfl, bel⟩

set_option maxRecDepth 100000 in
theorem fnExactRoomOf_lifted (os : Os) (started : os.Started) (H : Type) (enc : TypeId × Value → H) :
    ReturnsInHanded {} Try.checked os 7 .any (Rows.fnExactRoomOfSpec.pre6 enc Try.prog Try.f7 Rows.fnExactRoomOfRow.domain false) (Rows.fnExactRoomOfSpec.post enc Try.prog Try.f7 false true false false) := by
  refine returnsInHanded_of_change (C := Try.checked) frame_own started (by kernel_rfl) Try.func7
    (ChangeSpec.witness6 (enc := enc) (C := Try.checked) false ⟨#[], #[.agg #[.int .i64 0, .int .i64 0, .int .i64 0, .int .i64 0, .int .i64 0, .int .i64 0, .int .i64 0, .int .i64 0, .int .i64 0]], []⟩ 8 (by kernel_rfl) (by kernel_rfl) (by kernel_rfl) (by kernel_rfl)) ?_
  intro W base args ds gs before hval0 hW hcnd _
  have hval : ∀ (j : Nat) t v, Try.f7.params[j]? = some t → args[j]? = some v → Value.okWide Try.prog W .any base t v := hval0
  have hW' := hW
  obtain ⟨p, q, hA0, hV, rfl, hfz, hnd⟩ := hW
  have hA : DataW.TrodAll enc Try.prog W 0 (fun _ => true) true Try.f7.params.toList args.toList ds p := hA0
  rw [Try.params7] at hA hval
  obtain ⟨v0, vs0, d0, ds0, p0, q0, hargs, rfl, rfl, h0, r0⟩ := trodAll_cons hA
  obtain ⟨rfl, rfl, rfl⟩ := trodAll_nil r0
  obtain rfl : args = #[v0] := by cases args; simp_all
  obtain ⟨rfl, rfl⟩ := trodVars_none hV
  have k0 := h0
  have lt0 : ∀ x ∈ p0, x.block < W.heap.size := by obtain ⟨m, hm⟩ := k0; exact DataW.trod_lt m _ _ _ hm
  obtain ⟨s0, rfl, hs0⟩ := shape_of_trod Try.underlying23 Try.underlying2 (by kernel_rfl) (by kernel_rfl) (fun i hi => by
    match i, hi with
    | 0, _ => exact ⟨_, rfl, rfl, rfl⟩
    | 1, _ => exact ⟨_, rfl, rfl, rfl⟩
    | 2, _ => exact ⟨_, rfl, rfl, rfl⟩
    | 3, _ => exact ⟨_, rfl, rfl, rfl⟩
    | 4, _ => exact ⟨_, rfl, rfl, rfl⟩
    | 5, _ => exact ⟨_, rfl, rfl, rfl⟩
    | 6, _ => exact ⟨_, rfl, rfl, rfl⟩
    | 7, _ => exact ⟨_, rfl, rfl, rfl⟩
    | 8, _ => exact ⟨_, rfl, rfl, rfl⟩) (hval 0 23 v0 rfl rfl) h0
  clear hA0 hval0
  refine (fnExactRoomOf_walk s0 hs0 W).mono fun e W' ⟨he, bel⟩ => ?_
  subst he
  exact ⟨_, rfl, _, _, _, [], _, [], hW', trodAll_mk1 (shut_bool Try.underlying4 _), (trodAll_cons_mk (Below.trod frame_laid (by kernel_rfl) (of_decide_eq_true (by kernel_rfl)) k0 bel lt0) trodAll_mk0), rfl, bel.frame _, fun h => by cases h⟩

theorem fnExactRoomOf_proved : Rows.FnExactRoomOfSaid :=
  OpenClaim.holds_of_wide 7 Try.f7 rfl rfl rfl rfl rfl rfl rfl ⟨rfl, rfl, rfl, rfl, rfl⟩ rfl rfl rfl rfl rfl (by kernel_rfl) Try.func7 (by kernel_rfl)
    (of_decide_eq_true (by kernel_rfl)) (by unfold Func.isWrapper; first | (rw [if_pos (by decide +kernel)]; kernel_rfl) | (rw [if_neg (by decide +kernel)]; exact ⟨rfl, rfl⟩))
    (fun os started H enc _ => fnExactRoomOf_lifted os started H enc)
#print axioms fnExactRoomOf_proved
end Go.Proofs.Ytdnankopblkblak
