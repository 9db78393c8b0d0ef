/- In the program products do not hang on their order, are spread over sums, are undone by quotients, and a square is a product: the law FnField returns true at every code, and changes nothing that was there. No condition. -/
import Derived.Test.YteelhafnkkfcbaaRows
import Derived.Test.YteelhafnkkfcbaaFrameB
import Derived.Test.YteelhafnkkfcbaaWImplDiv
import Derived.Test.YteelhafnkkfcbaaWDrawMul
namespace Go.Proofs.Yteelhafnkkfcbaa
open Go.ChangeShapes Go.WideShapes Go.ChangeAt Go.RowKit F256
set_option linter.unusedVariables false

theorem implMul_one (a : Nat) (ha : a < 256) (w : World) :
    Calls Try.prog 8 #[.int .u8 a, .int .u8 1] w fun e w' => e = .returned (.int .u8 a) ∧ Below w.heap.size w w' := by
  have h := implMul_any a 1 ha (by omega) w
  rw [mulN_one ha] at h
  exact h
theorem implPow_two (a : Nat) (ha : a < 256) (w : World) :
    Calls Try.prog 9 #[.int .u8 a, .int .i64 2] w fun e w' => e = .returned (.int .u8 (mulN a a)) ∧ Below w.heap.size w w' := by
  have h := implPow_nat a 2 ha (by omega) w
  have e : powN a 2 = mulN a a := by show mulN (mulN 1 a) a = _; rw [one_mulN ha]
  rw [e] at h
  exact h

set_option maxHeartbeats 4000000 in
theorem fnField_walk (a0 : Option Addr) (n0 c0 : Nat) (z0 : List Int) (w : World) (q0 : IsRow w a0 n0 c0 z0) :
    Calls Try.prog 3 #[.slice a0 n0 c0] w fun e w' => e = .returned (.bool true) ∧ Below w.heap.size w w' := by
  obtain ⟨f0, k0, r0⟩ := q0.rd
  clear q0
  by_cases hbig : 1048576 < n0
  · go_enter Try.func3, Try.ntmps3
    go_wp2_with fail
    refine (lwBig_yes _ n0 f0 _ _ r0 hbig).mono ?_
    rintro e w1 ⟨rfl, hw1⟩
    obtain rfl := hw1.symm
    go_wp2
    go_ret
    exact ⟨rfl, Below.refl _ _⟩
  go_enter Try.func3, Try.ntmps3
  go_wp2_with fail
  refine (lwBig_no _ n0 f0 _ _ r0 (by omega)).mono ?_
  rintro e w1 ⟨rfl, hw1⟩
  obtain rfl := hw1.symm
  go_wp2_with fail
  refine (drawMul_any _ n0 f0 _ r0 k0 (by omega)).mono ?_
  rintro e w1 ⟨a, b, ha, hb, rfl, b1⟩
  replace r0 := r0.below b1 (Nat.le_refl _)
  go_wp2_with fail
  refine (lwAt_any _ n0 f0 3 256 (by omega) (by omega) (by omega) _ _ r0 k0 (by omega)).mono ?_
  rintro e w2 ⟨c, hc, rfl, b2⟩
  have bel := bthen b1 b2
  clear b1 b2 r0 k0
  have ycm : mulN b a = mulN a b := mulN_comm hb ha
  obtain ⟨y, hy⟩ : ∃ y, y = b ^^^ c := ⟨_, rfl⟩
  have yx : bits .xor .u8 (b : Int) (c : Int) = (y : Int) := by rw [hy]; exact u8_xor_nat b c hb hc
  have hyl : y < 256 := by rw [hy]; exact xor_lt hb hc
  have ydi : bits .xor .u8 (mulN a b : Int) (mulN a c : Int) = (mulN a y : Int) := by rw [u8_xor_nat _ _ (mulN_lt ha) (mulN_lt ha), hy, mulN_xor_right ha hb hc]
  have hp := mulN_lt (b := b) ha
  clear hy
  go_wp2_with fail
  refine (implMul_any a b ha hb _).mono ?_
  rintro e w3 ⟨rfl, b3⟩
  replace bel := bthen bel b3
  clear b3
  go_wp2_with fail
  refine (implMul_any b a hb ha _).mono ?_
  rintro e w4 ⟨rfl, b4⟩
  replace bel := bthen bel b4
  clear b4
  go_wp2_with fail
  refine (implMul_any a y ha hyl _).mono ?_
  rintro e w5 ⟨rfl, b5⟩
  replace bel := bthen bel b5
  clear b5
  go_wp2_with fail
  refine (implMul_any a c ha hc _).mono ?_
  rintro e w6 ⟨rfl, b6⟩
  replace bel := bthen bel b6
  clear b6
  go_wp2_with fail
  refine (implMul_one a ha _).mono ?_
  rintro e w7 ⟨rfl, b7⟩
  replace bel := bthen bel b7
  clear b7
  go_wp2_with fail
  refine (implPow_two a ha _).mono ?_
  rintro e w8 ⟨rfl, b8⟩
  replace bel := bthen bel b8
  clear b8
  go_wp2_with fail
  refine (implMul_any a a ha ha _).mono ?_
  rintro e w9 ⟨rfl, b9⟩
  replace bel := bthen bel b9
  clear b9
  by_cases h0 : b = 0
  · subst h0
    go_wp2_with fail
    refine (implDiv_zero _ _).mono ?_
    rintro e w10 ⟨rfl, b10⟩
    unfold intR
    go_wp2
    go_ret
    exact ⟨rfl, (bthen bel b10).alloc (by have := (bthen bel b10).size; omega) _⟩
  · have hne : ((b : Int) == 0) = false := by simp; omega
    have hq : mulN (mulN a b) (powN b 254) = a := by
      rw [mulN_assoc ha hb (powN_lt _), mulN_comm hb (powN_lt _)]
      have : mulN (powN b 254) b = 1 := invN_mul hb h0
      rw [this, mulN_one ha]
    go_wp2_with fail
    refine (implDiv_any (mulN a b) b hp hb h0 _).mono ?_
    rw [hq]
    rintro e w10 ⟨rfl, b10⟩
    unfold intR
    go_wp2
    go_ret
    exact ⟨rfl, (bthen bel b10).alloc (by have := (bthen bel b10).size; omega) _⟩

set_option maxRecDepth 100000 in
theorem fnField_lifted (os : Os) (started : os.Started) (H : Type) (enc : TypeId × Value → H) :
    ReturnsInHanded {} Try.checked os 3 .any (Rows.fnFieldSpec.pre6 enc Try.prog Try.f3 Rows.fnFieldRow.domain false) (Rows.fnFieldSpec.post enc Try.prog Try.f3 false true false false) := by
  refine returnsInHanded_of_change (C := Try.checked) frame_own started (by kernel_rfl) Try.func3
    (ChangeSpec.witness6 (enc := enc) (C := Try.checked) false ⟨#[], #[.slice none 0 0], []⟩ 8 (by kernel_rfl) (by kernel_rfl) (by kernel_rfl) (by kernel_rfl)) ?_
  intro W base args ds gs before hval0 hW hcnd _
  have hval : ∀ (j : Nat) t v, Try.f3.params[j]? = some t → args[j]? = some v → Value.okWide Try.prog W .any base t v := hval0
  have hW' := hW
  obtain ⟨p, q, hA0, hV, rfl, hfz, hnd⟩ := hW
  have hA : DataW.TrodAll enc Try.prog W 0 (fun _ => true) true Try.f3.params.toList args.toList ds p := hA0
  rw [Try.params3] at hA hval
  obtain ⟨v0, vs0, d0, ds0, p0, q0, hargs, rfl, rfl, h0, r0⟩ := trodAll_cons hA
  obtain ⟨rfl, rfl, rfl⟩ := trodAll_nil r0
  obtain rfl : args = #[v0] := by cases args; simp_all
  obtain ⟨rfl, rfl⟩ := trodVars_none hV
  obtain ⟨a0, len0, cap0, rfl⟩ := okWide_slice Try.underlying22 (hval 0 22 v0 rfl rfl)
  have k0 := h0
  have lt0 : ∀ x ∈ p0, x.block < W.heap.size := by obtain ⟨m, hm⟩ := k0; exact DataW.trod_lt m _ _ _ hm
  obtain ⟨z0, w0⟩ : ∃ zs, IsRow W a0 len0 cap0 zs := row_of_trod Try.underlying22 Try.underlying5 (by kernel_rfl) h0
  clear hA0 hval0
  refine (fnField_walk a0 len0 cap0 z0 W w0).mono fun e W' ⟨he, bel⟩ => ?_
  subst he
  exact ⟨_, rfl, _, _, _, [], _, [], hW', trodAll_mk1 (shut_bool Try.underlying4 _), (trodAll_cons_mk (Below.trod frame_laid (by kernel_rfl) (of_decide_eq_true (by kernel_rfl)) k0 bel lt0) trodAll_mk0), rfl, bel.frame _, fun h => by cases h⟩

theorem fnField_proved : Rows.FnFieldSaid :=
  OpenClaim.holds_of_wide 3 Try.f3 rfl rfl rfl rfl rfl rfl rfl ⟨rfl, rfl, rfl, rfl, rfl⟩ rfl rfl rfl rfl rfl (by kernel_rfl) Try.func3 (by kernel_rfl)
    (of_decide_eq_true (by kernel_rfl)) (by unfold Func.isWrapper; first | (rw [if_pos (by decide +kernel)]; kernel_rfl) | (rw [if_neg (by decide +kernel)]; exact ⟨rfl, rfl⟩))
    (fun os started H enc _ => fnField_lifted os started H enc)
#print axioms fnField_proved
end Go.Proofs.Yteelhafnkkfcbaa
