/- For every string the program's NameFault answers as the specification's does and writes into nothing: the law FnExactNameFault returns true at every input, and changes nothing that was there. No condition. -/
import Derived.Test.YtdnankopblkblajRows
import Derived.Test.YtdnankopblkblajFrameM
import Derived.Test.YtdnankopblkblajFrameS
import Derived.Test.YtdnankopblkblajShapeB
import Derived.Test.YtdnankopblkblajWInt
import Derived.Test.YtdnankopblkblajWLetters
namespace Go.Proofs.Ytdnankopblkblaj
open Go.ChangeShapes Go.WideShapes Go.ChangeAt Go.RowKit F256
set_option linter.unusedVariables false

theorem fnExactNameFault_ans (b : ByteArray) : ∃ x, NmAns b x := by
  by_cases h : OkName b
  · exact ⟨0, .inr ⟨rfl, h⟩⟩
  · exact ⟨5, .inl ⟨rfl, h⟩⟩
theorem fnExactNameFault_both (b0 : ByteArray) (h0 : b0.size ≤ 1048576) : ∃ (c : Int),
    (∀ w, Calls Try.prog 34 #[.string b0] w fun e w' => e = .returned (.int .i64 c) ∧ Below w.heap.size w w') ∧
    (∀ w, Calls Try.prog 35 #[.string b0] w fun e w' => e = .returned (.int .i64 c) ∧ Below w.heap.size w w') := by
  obtain ⟨c, hc⟩ := fnExactNameFault_ans b0
  refine ⟨c, fun w => (specName_any b0 h0 w).mono ?_, fun w => (implName_any b0 h0 w).mono ?_⟩
  · rintro e w' ⟨x, rfl, hx, hb⟩
    obtain rfl := hx.one hc
    exact ⟨rfl, by subst hb; exact Below.refl _ _⟩
  · rintro e w' ⟨x, rfl, hx, hb⟩
    obtain rfl := hx.one hc
    exact ⟨rfl, by subst hb; exact Below.refl _ _⟩

set_option maxHeartbeats 4000000 in
theorem fnExactNameFault_walk (b0 : ByteArray) (h0 : b0.size ≤ maxLen) (w : World) :
    Calls Try.prog 7 #[.string b0] w fun e w' => e = .returned (.bool true) ∧ Below w.heap.size w w' := by
  unfold maxLen at h0
  by_cases t0 : 1048576 < b0.size
  · go_enter Try.func7, Try.ntmps7
    go_wp2
    go_ret
    exact ⟨rfl, Below.refl _ _⟩
  obtain ⟨c, hs, hi⟩ := fnExactNameFault_both b0 (by omega)
  have bel := Below.refl w.heap.size w
  go_enter Try.func7, Try.ntmps7
  go_wp2_with fail
  refine (hs _).mono ?_
  rintro e w1 ⟨rfl, bb⟩
  replace bel := bthen bel bb
  clear bb
  go_wp2_with fail
  refine (hi _).mono ?_
  rintro e w2 ⟨rfl, bb⟩
  replace bel := bthen bel bb
  clear bb
  have tc : (c != c) = false := by simp
  go_wp2
  go_ret
  exact ⟨rfl, bel⟩

set_option maxRecDepth 100000 in
theorem fnExactNameFault_lifted (os : Os) (started : os.Started) (H : Type) (enc : TypeId × Value → H) :
    ReturnsInHanded {} Try.checked os 7 .any (Rows.fnExactNameFaultSpec.pre6 enc Try.prog Try.f7 Rows.fnExactNameFaultRow.domain false) (Rows.fnExactNameFaultSpec.post enc Try.prog Try.f7 false true false false) := by
  refine returnsInHanded_of_change (C := Try.checked) frame_own started (by kernel_rfl) Try.func7
    (ChangeSpec.witness6 (enc := enc) (C := Try.checked) false ⟨#[], #[.string ByteArray.empty], []⟩ 8 (by kernel_rfl) (by kernel_rfl) (by kernel_rfl) (by kernel_rfl)) ?_
  intro W base args ds gs before hval0 hW hcnd _
  have hval : ∀ (j : Nat) t v, Try.f7.params[j]? = some t → args[j]? = some v → Value.okWide Try.prog W .any base t v := hval0
  have hW' := hW
  obtain ⟨p, q, hA0, hV, rfl, hfz, hnd⟩ := hW
  have hA : DataW.TrodAll enc Try.prog W 0 (fun _ => true) true Try.f7.params.toList args.toList ds p := hA0
  rw [Try.params7] at hA hval
  obtain ⟨v0, vs0, d0, ds0, p0, q0, hargs, rfl, rfl, h0, r0⟩ := trodAll_cons hA
  obtain ⟨rfl, rfl, rfl⟩ := trodAll_nil r0
  obtain rfl : args = #[v0] := by cases args; simp_all
  obtain ⟨rfl, rfl⟩ := trodVars_none hV
  obtain ⟨b0, rfl, rfl, rfl, hb0⟩ := ChangeMaps.open_string Try.underlying9 (hval 0 9 v0 rfl rfl) h0
  clear hA0 hval0
  refine (fnExactNameFault_walk b0 hb0 W).mono fun e W' ⟨he, bel⟩ => ?_
  subst he
  exact ⟨_, rfl, _, _, _, [], _, [], hW', trodAll_mk1 (shut_bool Try.underlying4 _), (trodAll_cons_mk (ChangeMaps.shut_string Try.underlying9 hb0) trodAll_mk0), rfl, bel.frame _, fun h => by cases h⟩

theorem fnExactNameFault_proved : Rows.FnExactNameFaultSaid :=
  OpenClaim.holds_of_wide 7 Try.f7 rfl rfl rfl rfl rfl rfl rfl ⟨rfl, rfl, rfl, rfl, rfl⟩ rfl rfl rfl rfl rfl (by kernel_rfl) Try.func7 (by kernel_rfl)
    (of_decide_eq_true (by kernel_rfl)) (by unfold Func.isWrapper; first | (rw [if_pos (by decide +kernel)]; kernel_rfl) | (rw [if_neg (by decide +kernel)]; exact ⟨rfl, rfl⟩))
    (fun os started H enc _ => fnExactNameFault_lifted os started H enc)
#print axioms fnExactNameFault_proved
end Go.Proofs.Ytdnankopblkblaj
