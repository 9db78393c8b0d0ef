/- For every two numbers and every list of slices of bytes the program's RowFits answers as the specification's does and writes into no argument: the law FnExactRowFits returns true at every input, and changes nothing that was there. No condition. -/
import Derived.Test.YtoadjpacchhleahRows
import Derived.Test.YtoadjpacchhleahFrameM
import Derived.Test.YtoadjpacchhleahWRowD
import Derived.Test.YtoadjpacchhleahWSz
import Derived.Test.YtoadjpacchhleahWImplT
namespace Go.Proofs.Ytoadjpacchhleah
open Go.ChangeShapes Go.WideShapes Go.ChangeAt Go.RowKit F256
set_option linter.unusedVariables false

theorem fnExactRowFits_both (a0 : Int) (h0 : -9223372036854775808 ≤ a0 ∧ a0 ≤ 9223372036854775807) (a1 : Int) (h1 : -9223372036854775808 ≤ a1 ∧ a1 ≤ 9223372036854775807) (n2 : Nat) (m2 : Nat → Nat) (f2 : Nat → Nat → Nat) (k2 : ∀ i j, f2 i j < 256) : ∃ bb : Bool,
    (∀ (v2 : Value) (l2 e2 : Nat) (w : World), OwnM w l2 e2 v2 n2 m2 f2 → e2 ≤ w.heap.size →
      Calls Try.prog 33 #[.int .i64 a0, .int .i64 a1, v2] w fun e w' => e = .returned (.bool bb) ∧ Below w.heap.size w w') ∧
    (∀ (v2 : Value) (l2 e2 : Nat) (w : World), OwnM w l2 e2 v2 n2 m2 f2 → e2 ≤ w.heap.size →
      Calls Try.prog 34 #[.int .i64 a0, .int .i64 a1, v2] w fun e w' => e = .returned (.bool bb) ∧ Below w.heap.size w w') := by
  obtain ⟨bb, hbb⟩ : ∃ bb : Bool, bb = true ↔ FitsP a0 a1 n2 m2 f2 := by
    by_cases h : FitsP a0 a1 n2 m2 f2
    · exact ⟨true, ⟨fun _ => h, fun _ => rfl⟩⟩
    · exact ⟨false, ⟨fun h => (by cases h), fun hh => absurd hh h⟩⟩
  have same : ∀ b : Bool, (b = true ↔ FitsP a0 a1 n2 m2 f2) → b = bb := fun b hb => by
    cases b with
    | true => exact (hbb.mpr (hb.mp rfl)).symm
    | false =>
      cases bb with
      | false => rfl
      | true => have := hb.mpr (hbb.mp rfl); cases this
  refine ⟨bb, fun v2 l2 e2 w o2 b2 => ?_, fun v2 l2 e2 w o2 b2 => ?_⟩
  · refine (specFits_any a0 a1 v2 n2 m2 f2 l2 e2 w o2 b2 k2).mono fun e w' ⟨b, he, hb, hbel⟩ => ?_
    rw [same b hb] at he
    exact ⟨he, hbel⟩
  · refine (implFits_any a0 a1 v2 n2 m2 f2 l2 e2 w o2 b2 k2).mono fun e w' ⟨b, he, hb, hbel⟩ => ?_
    rw [same b hb] at he
    exact ⟨he, hbel⟩

set_option maxHeartbeats 4000000 in
theorem fnExactRowFits_walk (a0 : Int) (h0 : -9223372036854775808 ≤ a0 ∧ a0 ≤ 9223372036854775807) (a1 : Int) (h1 : -9223372036854775808 ≤ a1 ∧ a1 ≤ 9223372036854775807) (a2 : Option Addr) (n2 c2 : Nat) (m2 : Nat → Nat) (f2 : Nat → Nat → Nat) (k2 : ∀ i j, f2 i j < 256) (w : World) (r2 : RdM w w.heap.size (.slice a2 n2 c2) n2 m2 f2) :
    Calls Try.prog 8 #[.int .i64 a0, .int .i64 a1, .slice a2 n2 c2] w fun e w' => e = .returned (.bool true) ∧ Below w.heap.size w w' := by
  have l2 : n2 ≤ 9223372036854775807 := by obtain ⟨_, _, _, _, h, _⟩ := r2; unfold maxLen at h; omega
  obtain ⟨bb, hs, hi⟩ := fnExactRowFits_both a0 h0 a1 h1 n2 m2 f2 k2
  clear k2
  have bel := Below.refl w.heap.size w
  go_enter Try.func8, Try.ntmps8
  go_wp2_with fail
  refine (szByteSS_any _ n2 m2 f2 _ _ r2 1048576 (by omega)).mono ?_
  rintro e wz ⟨x2, rfl, hx2, hwz⟩
  obtain rfl := hwz.symm
  rcases hx2 with rfl | ⟨sz2, rfl⟩
  · go_wp2
    go_ret
    exact ⟨rfl, Below.refl _ _⟩
  have le2 : ∀ i, i < n2 → m2 i ≤ 1000000000 := fun i hi => by have := le_sumN m2 hi; omega
  go_wp2_with fail
  refine (toByteSS_any _ n2 m2 f2 w.heap.size _ r2 (by omega) (by omega) le2).mono ?_
  rintro e w1 ⟨vt2, rfl, ot2, b1⟩
  have sw1 : w.heap.size ≤ w1.heap.size := b1.size
  replace r2 := r2.below b1 (by omega)
  replace bel := bthen bel b1
  go_wp2_with fail
  refine (hs vt2 _ _ _ ot2 (by omega)).mono ?_
  rintro e w2 ⟨rfl, b2⟩
  have sw2 : w1.heap.size ≤ w2.heap.size := b2.size
  replace r2 := r2.below b2 (by omega)
  replace ot2 := ot2.below b2 (by omega)
  replace bel := bthen bel b2
  clear ot2
  go_wp2_with fail
  refine (toByteSS_any _ n2 m2 f2 w.heap.size _ r2 (by omega) (by omega) le2).mono ?_
  rintro e w3 ⟨vx2, rfl, ox2, b3⟩
  have sw3 : w2.heap.size ≤ w3.heap.size := b3.size
  replace r2 := r2.below b3 (by omega)
  replace bel := bthen bel b3
  go_wp2_with fail
  refine (hi vx2 _ _ _ ox2 (by omega)).mono ?_
  rintro e w4 ⟨rfl, b4⟩
  have sw4 : w3.heap.size ≤ w4.heap.size := b4.size
  replace r2 := r2.below b4 (by omega)
  replace ox2 := ox2.below b4 (by omega)
  replace bel := bthen bel b4
  have hbb : (bb != bb) = false := by simp
  go_wp2_with fail
  refine (toByteSS_any _ n2 m2 f2 w.heap.size _ r2 (by omega) (by omega) le2).mono ?_
  rintro e w5 ⟨vy2, rfl, oy2, b5⟩
  have sw5 : w4.heap.size ≤ w5.heap.size := b5.size
  replace r2 := r2.below b5 (by omega)
  replace ox2 := ox2.below b5 (by omega)
  replace bel := bthen bel b5
  go_wp2_with fail
  refine (eqByteSS_same vx2 vy2 n2 m2 f2 _ _ _ ox2.rd oy2.rd (by omega) (by omega)).mono ?_
  rintro e w6 ⟨rfl, b6⟩
  clear oy2
  have sw6 : w5.heap.size ≤ w6.heap.size := b6.size
  replace r2 := r2.below b6 (by omega)
  replace ox2 := ox2.below b6 (by omega)
  replace bel := bthen bel b6
  go_wp2
  go_ret
  exact ⟨rfl, bel⟩

set_option maxRecDepth 100000 in
theorem fnExactRowFits_lifted (os : Os) (started : os.Started) (H : Type) (enc : TypeId × Value → H) :
    ReturnsInHanded {} Try.checked os 8 .any (Rows.fnExactRowFitsSpec.pre6 enc Try.prog Try.f8 Rows.fnExactRowFitsRow.domain false) (Rows.fnExactRowFitsSpec.post enc Try.prog Try.f8 false true false false) := by
  refine returnsInHanded_of_change (C := Try.checked) frame_own started (by kernel_rfl) Try.func8
    (ChangeSpec.witness6 (enc := enc) (C := Try.checked) false ⟨#[], #[.int .i64 0, .int .i64 0, .slice none 0 0], []⟩ 8 (by kernel_rfl) (by kernel_rfl) (by kernel_rfl) (by kernel_rfl)) ?_
  intro W base args ds gs before hval0 hW hcnd _
  have hval : ∀ (j : Nat) t v, Try.f8.params[j]? = some t → args[j]? = some v → Value.okWide Try.prog W .any base t v := hval0
  have hW' := hW
  obtain ⟨p, q, hA0, hV, rfl, hfz, hnd⟩ := hW
  have hA : DataW.TrodAll enc Try.prog W 0 (fun _ => true) true Try.f8.params.toList args.toList ds p := hA0
  rw [Try.params8] at hA hval
  obtain ⟨v0, vs0, d0, ds0, p0, q0, hargs, rfl, rfl, h0, r0⟩ := trodAll_cons hA
  obtain ⟨v1, vs1, d1, ds1, p1, q1, rfl, rfl, rfl, h1, r1⟩ := trodAll_cons r0
  obtain ⟨v2, vs2, d2, ds2, p2, q2, rfl, rfl, rfl, h2, r2⟩ := trodAll_cons r1
  obtain ⟨rfl, rfl, rfl⟩ := trodAll_nil r2
  obtain rfl : args = #[v0, v1, v2] := by cases args; simp_all
  obtain ⟨rfl, rfl⟩ := trodVars_none hV
  obtain ⟨a0, rfl, rfl, rfl, w0⟩ := open_int Try.underlying2 (hval 0 2 v0 rfl rfl) h0
  obtain ⟨a1, rfl, rfl, rfl, w1⟩ := open_int Try.underlying2 (hval 1 2 v1 rfl rfl) h1
  obtain ⟨a2, len2, cap2, rfl⟩ := okWide_slice Try.underlying22 (hval 2 22 v2 rfl rfl)
  have k2 := h2
  have lt2 : ∀ x ∈ p2, x.block < W.heap.size := by obtain ⟨m, hm⟩ := k2; exact DataW.trod_lt m _ _ _ hm
  obtain ⟨nn2, ff2, kk2, w2⟩ := rowsM_of_trod Try.underlying22 Try.underlying23 Try.underlying5 (by kernel_rfl) (by kernel_rfl) h2
  clear hA0 hval0
  refine (fnExactRowFits_walk a0 (bounds_i64 w0) a1 (bounds_i64 w1) a2 len2 cap2 nn2 ff2 kk2 W w2).mono fun e W' ⟨he, bel⟩ => ?_
  subst he
  exact ⟨_, rfl, _, _, _, [], _, [], hW', trodAll_mk1 (shut_bool Try.underlying4 _), (trodAll_cons_mk (shut_int Try.underlying2 w0) (trodAll_cons_mk (shut_int Try.underlying2 w1) (trodAll_cons_mk (Below.trod frame_laid (by kernel_rfl) (of_decide_eq_true (by kernel_rfl)) k2 bel lt2) trodAll_mk0))), rfl, bel.frame _, fun h => by cases h⟩

theorem fnExactRowFits_proved : Rows.FnExactRowFitsSaid :=
  OpenClaim.holds_of_wide 8 Try.f8 rfl rfl rfl rfl rfl rfl rfl ⟨rfl, rfl, rfl, rfl, rfl⟩ rfl rfl rfl rfl rfl (by kernel_rfl) Try.func8 (by kernel_rfl)
    (of_decide_eq_true (by kernel_rfl)) (by unfold Func.isWrapper; first | (rw [if_pos (by decide +kernel)]; kernel_rfl) | (rw [if_neg (by decide +kernel)]; exact ⟨rfl, rfl⟩))
    (fun os started H enc _ => fnExactRowFits_lifted os started H enc)
#print axioms fnExactRowFits_proved
end Go.Proofs.Ytoadjpacchhleah
