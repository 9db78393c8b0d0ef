/- For every two bytes the program's DivG answers as the specification's does: the law FnExactDivG returns true at every input, and changes nothing that was there. No condition. -/
import Derived.Test.YteelhafnkkfcbagRows
import Derived.Test.YteelhafnkkfcbagFrame
import Derived.Test.YteelhafnkkfcbagWDiv
namespace Go.Proofs.Yteelhafnkkfcbag
open Go.ChangeShapes Go.WideShapes Go.ChangeAt Go.RowKit F256
set_option linter.unusedVariables false

theorem fnExactDivG_walk (a : Nat) (ha : a < 256) (b : Nat) (hb : b < 256) (w : World) :
    Calls Try.prog 5 #[.int .u8 a, .int .u8 b] w fun e w' => e = .returned (.bool true) ∧ Below w.heap.size w w' := by
  obtain ⟨c, v, hs, hi⟩ : ∃ c v, (∀ w : World, Calls Try.prog 12 #[.int .u8 a, .int .u8 b] w fun e w' => e = .returned (intR c v) ∧ Below w.heap.size w w') ∧
      (∀ w : World, Calls Try.prog 13 #[.int .u8 a, .int .u8 b] w fun e w' => e = .returned (intR c v) ∧ Below w.heap.size w w') := by
    by_cases h0 : b = 0
    · subst h0
      exact ⟨6, 0, specDiv_zero a, implDiv_zero a⟩
    · exact ⟨_, _, specDiv_any a b ha hb h0, implDiv_any a b ha hb h0⟩
  go_enter Try.func5, Try.ntmps5
  go_wp2_with (first | (go_at_call 12; refine (hs _).mono ?_; rintro e w1 ⟨rfl, hb1⟩; unfold intR) | (go_at_call 13; refine (hi _).mono ?_; rintro e w2 ⟨rfl, hb2⟩; unfold intR; obtain ⟨hc, hf⟩ := bcell hb2; have hz := bsize hb2) | (go_at_call 14; refine (eqInt_same c v _).mono ?_; rintro e w3 ⟨rfl, hb3⟩))
  go_ret
  exact ⟨rfl, bthen hb1 (bnew (bthen hb2 (bnew hb3)))⟩

set_option maxRecDepth 100000 in
theorem fnExactDivG_lifted (os : Os) (started : os.Started) (H : Type) (enc : TypeId × Value → H) :
    ReturnsInHanded {} Try.checked os 5 .any (Rows.fnExactDivGSpec.pre6 enc Try.prog Try.f5 Rows.fnExactDivGRow.domain false) (Rows.fnExactDivGSpec.post enc Try.prog Try.f5 false true false false) := by
  refine returnsInHanded_of_change (C := Try.checked) frame_own started (by kernel_rfl) Try.func5
    (ChangeSpec.witness6 (enc := enc) (C := Try.checked) false ⟨#[], #[.int .u8 0, .int .u8 0], []⟩ 8 (by kernel_rfl) (by kernel_rfl) (by kernel_rfl) (by kernel_rfl)) ?_
  intro W base args ds gs before hval0 hW hcnd _
  have hval : ∀ (j : Nat) t v, Try.f5.params[j]? = some t → args[j]? = some v → Value.okWide Try.prog W .any base t v := hval0
  have hW' := hW
  obtain ⟨p, q, hA0, hV, rfl, hfz, hnd⟩ := hW
  have hA : DataW.TrodAll enc Try.prog W 0 (fun _ => true) true Try.f5.params.toList args.toList ds p := hA0
  rw [Try.params5] at hA hval
  obtain ⟨v0, vs0, d0, ds0, p0, q0, hargs, rfl, rfl, h0, r0⟩ := trodAll_cons hA
  obtain ⟨v1, vs1, d1, ds1, p1, q1, rfl, rfl, rfl, h1, r1⟩ := trodAll_cons r0
  obtain ⟨rfl, rfl, rfl⟩ := trodAll_nil r1
  obtain rfl : args = #[v0, v1] := by cases args; simp_all
  obtain ⟨rfl, rfl⟩ := trodVars_none hV
  obtain ⟨a0, rfl, rfl, rfl, w0⟩ := open_int Try.underlying5 (hval 0 5 v0 rfl rfl) h0
  obtain ⟨n0, hn0, rfl⟩ := nat_of_u8 w0
  obtain ⟨a1, rfl, rfl, rfl, w1⟩ := open_int Try.underlying5 (hval 1 5 v1 rfl rfl) h1
  obtain ⟨n1, hn1, rfl⟩ := nat_of_u8 w1
  clear hA0 hval0
  refine (fnExactDivG_walk n0 hn0 n1 hn1 W).mono fun e W' ⟨he, bel⟩ => ?_
  subst he
  exact ⟨_, rfl, _, _, _, [], _, [], hW', trodAll_mk1 (shut_bool Try.underlying4 _), (trodAll_cons_mk (shut_int Try.underlying5 w0) (trodAll_cons_mk (shut_int Try.underlying5 w1) trodAll_mk0)), rfl, bel.frame _, fun h => by cases h⟩

theorem fnExactDivG_proved : Rows.FnExactDivGSaid :=
  OpenClaim.holds_of_wide 5 Try.f5 rfl rfl rfl rfl rfl rfl rfl ⟨rfl, rfl, rfl, rfl, rfl⟩ rfl rfl rfl rfl rfl (by kernel_rfl) Try.func5 (by kernel_rfl)
    (of_decide_eq_true (by kernel_rfl)) (by unfold Func.isWrapper; first | (rw [if_pos (by decide +kernel)]; kernel_rfl) | (rw [if_neg (by decide +kernel)]; exact ⟨rfl, rfl⟩))
    (fun os started H enc _ => fnExactDivG_lifted os started H enc)
#print axioms fnExactDivG_proved
end Go.Proofs.Yteelhafnkkfcbag
