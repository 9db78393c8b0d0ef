/- For every list of slices of bytes and every number the program's ColumnFits answers as the specification's does and writes into no argument: the law FnExactColumnFits returns true at every input, and changes nothing that was there. No condition. -/
import Derived.Test.YtoadjpacchhleaiRows
import Derived.Test.YtoadjpacchhleaiFrameM
import Derived.Test.YtoadjpacchhleaiWColC
import Derived.Test.YtoadjpacchhleaiWSz
import Derived.Test.YtoadjpacchhleaiWImplU
namespace Go.Proofs.Ytoadjpacchhleai
open Go.ChangeShapes Go.WideShapes Go.ChangeAt Go.RowKit F256
set_option linter.unusedVariables false

theorem OwnM.congrN {w : World} {lo hi : Nat} {v : Value} {R : Nat} {n n' : Nat → Nat} {f : Mat} (h : OwnM w lo hi v R n f) (hn : ∀ i, i < R → n i = n' i) : OwnM w lo hi v R n' f := by
  obtain ⟨g, cap, e, h⟩ := h
  exact ⟨g, cap, e, h.congrN hn⟩
theorem OwnM.cap {w : World} {lo hi : Nat} {v : Value} {R : Nat} {n : Nat → Nat} {f : Mat} (h : OwnM w lo hi v R n f) : ∃ ao cap, v = .slice ao R cap ∧ R ≤ cap := by
  obtain ⟨g, cap, e, h⟩ := h
  refine ⟨_, cap, h.val, ?_⟩
  have hr := h.row
  rw [h.val] at hr
  rcases hr.2 with ⟨h1, _⟩ | ⟨g', cap', cur, h1, _, _, hnc, _⟩
  · cases h1
  · cases h1; exact hnc
theorem fnExactColumnFits_both (n0 : Nat) (m0 : Nat → Nat) (f0 : Nat → Nat → Nat) (k0 : ∀ i j, f0 i j < 256) (a1 : Int) (h1 : -9223372036854775808 ≤ a1 ∧ a1 ≤ 9223372036854775807) : ∃ bb : Bool,
    (∀ (v0 : Value) (l0 e0 : Nat) (w : World), OwnM w l0 e0 v0 n0 m0 f0 → e0 ≤ w.heap.size → n0 ≤ 1000000000 → (∀ i, i < n0 → m0 i ≤ 1000000000) →
      Calls Try.prog 38 #[v0, .int .i64 a1] w fun e w' => e = .returned (.bool bb) ∧ Below w.heap.size w w') ∧
    (∀ (v0 : Value) (l0 e0 : Nat) (w : World), OwnM w l0 e0 v0 n0 m0 f0 → e0 ≤ w.heap.size → n0 ≤ 1000000000 → (∀ i, i < n0 → m0 i ≤ 1000000000) →
      Calls Try.prog 39 #[v0, .int .i64 a1] w fun e w' => e = .returned (.bool bb) ∧ Below w.heap.size w w') := by
  obtain ⟨m', hm'⟩ : ∃ m' : Nat → Nat, m' = fun i => if i < n0 then m0 i else 0 := ⟨_, rfl⟩
  have hsame : ∀ i, i < n0 → m0 i = m' i := fun i hi => by rw [hm']; simp [hi]
  have hsmall : (∀ i, i < n0 → m0 i ≤ 1000000000) → m' 0 ≤ 1000000000 := fun h => by
    rw [hm']
    show (if 0 < n0 then m0 0 else 0) ≤ 1000000000
    split
    · exact h 0 (by assumption)
    · omega
  obtain ⟨bb, hbb⟩ : ∃ bb : Bool, bb = true ↔ CfP n0 m' f0 a1 := by
    by_cases h : CfP n0 m' f0 a1
    · exact ⟨true, ⟨fun _ => h, fun _ => rfl⟩⟩
    · exact ⟨false, ⟨fun h => (by cases h), fun hh => absurd hh h⟩⟩
  have same : ∀ b : Bool, (b = true ↔ CfP n0 m' f0 a1) → b = bb := fun b hb => by
    cases b with
    | true => exact (hbb.mpr (hb.mp rfl)).symm
    | false =>
      cases bb with
      | false => rfl
      | true => have := hb.mpr (hbb.mp rfl); cases this
  refine ⟨bb, fun v0 l0 e0 w o0 b0 hn hl => ?_, fun v0 l0 e0 w o0 b0 hn hl => ?_⟩
  · refine (specFitsC_any v0 n0 m' f0 a1 h1 l0 e0 w (o0.congrN hsame) b0 k0 (hsmall hl) hn).mono fun e w' ⟨b, he, hb, hbel⟩ => ?_
    rw [same b hb] at he
    exact ⟨he, hbel⟩
  · refine (implFitsC_any v0 n0 m' f0 a1 e0 w (o0.congrN hsame).rd o0.cap b0 k0 h1 (hsmall hl) hn).mono fun e w' ⟨b, he, hb, hbel⟩ => ?_
    rw [same b hb] at he
    exact ⟨he, hbel⟩

set_option maxHeartbeats 4000000 in
theorem fnExactColumnFits_walk (a0 : Option Addr) (n0 c0 : Nat) (m0 : Nat → Nat) (f0 : Nat → Nat → Nat) (k0 : ∀ i j, f0 i j < 256) (a1 : Int) (h1 : -9223372036854775808 ≤ a1 ∧ a1 ≤ 9223372036854775807) (w : World) (r0 : RdM w w.heap.size (.slice a0 n0 c0) n0 m0 f0) :
    Calls Try.prog 8 #[.slice a0 n0 c0, .int .i64 a1] w fun e w' => e = .returned (.bool true) ∧ Below w.heap.size w w' := by
  have l0 : n0 ≤ 9223372036854775807 := by obtain ⟨_, _, _, _, h, _⟩ := r0; unfold maxLen at h; omega
  obtain ⟨bb, hs, hi⟩ := fnExactColumnFits_both n0 m0 f0 k0 a1 h1
  clear k0
  have bel := Below.refl w.heap.size w
  go_enter Try.func8, Try.ntmps8
  go_wp2_with fail
  refine (szByteSS_any _ n0 m0 f0 _ _ r0 1048576 (by omega)).mono ?_
  rintro e wz ⟨x0, rfl, hx0, hwz⟩
  obtain rfl := hwz.symm
  rcases hx0 with rfl | ⟨sz0, rfl⟩
  · go_wp2
    go_ret
    exact ⟨rfl, Below.refl _ _⟩
  have le0 : ∀ i, i < n0 → m0 i ≤ 1000000000 := fun i hi => by have := le_sumN m0 hi; omega
  go_wp2_with fail
  refine (toByteSS_any _ n0 m0 f0 w.heap.size _ r0 (by omega) (by omega) le0).mono ?_
  rintro e w1 ⟨vt0, rfl, ot0, b1⟩
  have sw1 : w.heap.size ≤ w1.heap.size := b1.size
  replace r0 := r0.below b1 (by omega)
  replace bel := bthen bel b1
  go_wp2_with fail
  refine (hs vt0 _ _ _ ot0 (by omega) (by omega) le0).mono ?_
  rintro e w2 ⟨rfl, b2⟩
  have sw2 : w1.heap.size ≤ w2.heap.size := b2.size
  replace r0 := r0.below b2 (by omega)
  replace ot0 := ot0.below b2 (by omega)
  replace bel := bthen bel b2
  clear ot0
  go_wp2_with fail
  refine (toByteSS_any _ n0 m0 f0 w.heap.size _ r0 (by omega) (by omega) le0).mono ?_
  rintro e w3 ⟨vx0, rfl, ox0, b3⟩
  have sw3 : w2.heap.size ≤ w3.heap.size := b3.size
  replace r0 := r0.below b3 (by omega)
  replace bel := bthen bel b3
  go_wp2_with fail
  refine (hi vx0 _ _ _ ox0 (by omega) (by omega) le0).mono ?_
  rintro e w4 ⟨rfl, b4⟩
  have sw4 : w3.heap.size ≤ w4.heap.size := b4.size
  replace r0 := r0.below b4 (by omega)
  replace ox0 := ox0.below b4 (by omega)
  replace bel := bthen bel b4
  have hbb : (bb != bb) = false := by simp
  go_wp2_with fail
  refine (toByteSS_any _ n0 m0 f0 w.heap.size _ r0 (by omega) (by omega) le0).mono ?_
  rintro e w5 ⟨vy0, rfl, oy0, b5⟩
  have sw5 : w4.heap.size ≤ w5.heap.size := b5.size
  replace r0 := r0.below b5 (by omega)
  replace ox0 := ox0.below b5 (by omega)
  replace bel := bthen bel b5
  go_wp2_with fail
  refine (eqByteSS_same vx0 vy0 n0 m0 f0 _ _ _ ox0.rd oy0.rd (by omega) (by omega)).mono ?_
  rintro e w6 ⟨rfl, b6⟩
  clear oy0
  have sw6 : w5.heap.size ≤ w6.heap.size := b6.size
  replace r0 := r0.below b6 (by omega)
  replace ox0 := ox0.below b6 (by omega)
  replace bel := bthen bel b6
  go_wp2
  go_ret
  exact ⟨rfl, bel⟩

set_option maxRecDepth 100000 in
theorem fnExactColumnFits_lifted (os : Os) (started : os.Started) (H : Type) (enc : TypeId × Value → H) :
    ReturnsInHanded {} Try.checked os 8 .any (Rows.fnExactColumnFitsSpec.pre6 enc Try.prog Try.f8 Rows.fnExactColumnFitsRow.domain false) (Rows.fnExactColumnFitsSpec.post enc Try.prog Try.f8 false true false false) := by
  refine returnsInHanded_of_change (C := Try.checked) frame_own started (by kernel_rfl) Try.func8
    (ChangeSpec.witness6 (enc := enc) (C := Try.checked) false ⟨#[], #[.slice none 0 0, .int .i64 0], []⟩ 8 (by kernel_rfl) (by kernel_rfl) (by kernel_rfl) (by kernel_rfl)) ?_
  intro W base args ds gs before hval0 hW hcnd _
  have hval : ∀ (j : Nat) t v, Try.f8.params[j]? = some t → args[j]? = some v → Value.okWide Try.prog W .any base t v := hval0
  have hW' := hW
  obtain ⟨p, q, hA0, hV, rfl, hfz, hnd⟩ := hW
  have hA : DataW.TrodAll enc Try.prog W 0 (fun _ => true) true Try.f8.params.toList args.toList ds p := hA0
  rw [Try.params8] at hA hval
  obtain ⟨v0, vs0, d0, ds0, p0, q0, hargs, rfl, rfl, h0, r0⟩ := trodAll_cons hA
  obtain ⟨v1, vs1, d1, ds1, p1, q1, rfl, rfl, rfl, h1, r1⟩ := trodAll_cons r0
  obtain ⟨rfl, rfl, rfl⟩ := trodAll_nil r1
  obtain rfl : args = #[v0, v1] := by cases args; simp_all
  obtain ⟨rfl, rfl⟩ := trodVars_none hV
  obtain ⟨a0, len0, cap0, rfl⟩ := okWide_slice Try.underlying33 (hval 0 33 v0 rfl rfl)
  have k0 := h0
  have lt0 : ∀ x ∈ p0, x.block < W.heap.size := by obtain ⟨m, hm⟩ := k0; exact DataW.trod_lt m _ _ _ hm
  obtain ⟨nn0, ff0, kk0, w0⟩ := rowsM_of_trod Try.underlying33 Try.underlying23 Try.underlying5 (by kernel_rfl) (by kernel_rfl) h0
  obtain ⟨a1, rfl, rfl, rfl, w1⟩ := open_int Try.underlying2 (hval 1 2 v1 rfl rfl) h1
  clear hA0 hval0
  refine (fnExactColumnFits_walk a0 len0 cap0 nn0 ff0 kk0 a1 (bounds_i64 w1) W w0).mono fun e W' ⟨he, bel⟩ => ?_
  subst he
  exact ⟨_, rfl, _, _, _, [], _, [], hW', trodAll_mk1 (shut_bool Try.underlying4 _), (trodAll_cons_mk (Below.trod frame_laid (by kernel_rfl) (of_decide_eq_true (by kernel_rfl)) k0 bel lt0) (trodAll_cons_mk (shut_int Try.underlying2 w1) trodAll_mk0)), rfl, bel.frame _, fun h => by cases h⟩

theorem fnExactColumnFits_proved : Rows.FnExactColumnFitsSaid :=
  OpenClaim.holds_of_wide 8 Try.f8 rfl rfl rfl rfl rfl rfl rfl ⟨rfl, rfl, rfl, rfl, rfl⟩ rfl rfl rfl rfl rfl (by kernel_rfl) Try.func8 (by kernel_rfl)
    (of_decide_eq_true (by kernel_rfl)) (by unfold Func.isWrapper; first | (rw [if_pos (by decide +kernel)]; kernel_rfl) | (rw [if_neg (by decide +kernel)]; exact ⟨rfl, rfl⟩))
    (fun os started H enc _ => fnExactColumnFits_lifted os started H enc)
#print axioms fnExactColumnFits_proved
end Go.Proofs.Ytoadjpacchhleai
