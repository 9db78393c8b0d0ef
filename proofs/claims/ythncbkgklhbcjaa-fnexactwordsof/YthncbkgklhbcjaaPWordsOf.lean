/- For every text the program's WordsOf answers as the specification's does and hands back memory of its own: the law FnExactWordsOf returns true at every input, and changes nothing that was there. No condition. -/
import Derived.Test.YthncbkgklhbcjaaRows
import Derived.Test.YthncbkgklhbcjaaFrameM
import Derived.Test.YthncbkgklhbcjaaFrameS
import Derived.Test.YthncbkgklhbcjaaWrdS
import Derived.Test.YthncbkgklhbcjaaWrdI
import Derived.Test.YthncbkgklhbcjaaWStrsL
namespace Go.Proofs.Ythncbkgklhbcjaa
open Go.ChangeShapes Go.WideShapes Go.ChangeAt Go.RowKit F256
set_option linter.unusedVariables false
set_option linter.unusedSimpArgs false

theorem words_len (b : ByteArray) : (words b).length ≤ b.size + 1 := by
  have h1 : (words b).length ≤ (pieces b).length := List.length_filter_le _ _
  have h2 := pcs_len b b.size
  have h3 : (pieces b).length = (pcs b b.size).1.length + 1 := by simp [pieces]
  omega

set_option maxHeartbeats 8000000 in
theorem fnExactWordsOf_walk (b0 : ByteArray) (h0 : b0.size ≤ maxLen) (w : World) :
    Calls Try.prog 4 #[.string b0] w fun e w' => e = .returned (.bool true) ∧ Below w.heap.size w w' := by
  by_cases hbig : 1048576 < b0.size
  · have hb1 : (1048576 : Int) < (b0.size : Int) := by omega
    clear hbig
    go_enter Try.func4, Try.ntmps4
    go_wp2
    go_ret
    exact ⟨rfl, Below.refl _ _⟩
  have hb1 : ¬ (1048576 : Int) < (b0.size : Int) := by omega
  have hn : b0.size ≤ 1048576 := by omega
  have CS := fun w' => specWords_any b0 hn w'
  have CI := fun w' => implWords_any b0 hn w'
  have hwl := words_len b0
  obtain ⟨N, hN⟩ : ∃ N, N = (words b0).length := ⟨_, rfl⟩
  obtain ⟨f, hf⟩ : ∃ f, f = lst (words b0) := ⟨_, rfl⟩
  rw [← hN, ← hf] at CS CI
  have hN2 : N ≤ 1048577 := by omega
  clear hbig hN hf hwl
  go_enter Try.func4, Try.ntmps4
  go_wp2_with fail
  refine (CS _).mono ?_
  rintro e w1 ⟨v1, rfl, o1, b1⟩
  obtain ⟨ao1, cap1, rfl⟩ := o1.slice
  have HB1 : Hid (Below w.heap.size w w1) := b1
  have z1 := b1.size
  clear CS b1
  go_wp2_with fail
  refine (CI _).mono ?_
  rintro e w2 ⟨v2, rfl, o2, b2⟩
  obtain ⟨ao2, cap2, rfl⟩ := o2.slice
  have z2 := b2.size
  have HB2 : Hid (Below w.heap.size w w2) := HB1.out.trans (b2.mono z1)
  have p1 := o1.below b2 (Nat.le_refl _)
  clear o1 b2 HB1
  go_wp2_with fail
  refine (eqStringS_same _ _ N f _ _ _ o2.rd p1.rd).mono ?_
  rintro e w3 ⟨rfl, b3⟩
  have z3 := b3.size
  have HB3 : Hid (Below w.heap.size w w3) := HB2.out.trans (b3.mono HB2.out.size)
  have q1 := p1.below b3 (by omega)
  have q2 := o2.below b3 (Nat.le_refl _)
  clear p1 o2 b3 HB2
  go_wp2_with fail
  refine (markStringS_any _ N f w1.heap.size w2.heap.size 1 (by omega) (by omega) (by omega) _ q2 z3).mono ?_
  rintro e w4 ⟨rfl, m4, c4⟩
  have z4 := c4.size
  have HB4 : Hid (Below w.heap.size w w4) := HB3.out.trans (c4.below z1 HB3.out.size)
  have r1 := q1.chg c4 (.inl (Nat.le_refl _))
  clear q1 q2 c4 HB3
  go_wp2_with fail
  refine (heldStringS_any _ N w2.heap.size 1 (by omega) (by omega) (by omega) _ m4.rd (by omega)).mono ?_
  rintro e w5 ⟨rfl, b5⟩
  have z5 := b5.size
  have HB5 : Hid (Below w.heap.size w w5) := HB4.out.trans (b5.mono HB4.out.size)
  have m5 := m4.below b5 (by omega)
  have s1 := r1.below b5 (by omega)
  clear m4 r1 b5 HB4
  go_wp2_with fail
  refine (CI _).mono ?_
  rintro e w6 ⟨v6, rfl, o6, b6⟩
  obtain ⟨ao6, cap6, rfl⟩ := o6.slice
  have z6 := b6.size
  have HB6 : Hid (Below w.heap.size w w6) := HB5.out.trans (b6.mono HB5.out.size)
  have m6 := m5.below b6 (by omega)
  have t1 := s1.below b6 (by omega)
  clear m5 s1 b6 HB5 CI
  go_wp2_with fail
  refine (eqStringS_same _ _ N f _ _ _ o6.rd t1.rd).mono ?_
  rintro e w7 ⟨rfl, b7⟩
  have z7 := b7.size
  have HB7 : Hid (Below w.heap.size w w7) := HB6.out.trans (b7.mono HB6.out.size)
  have m7 := m6.below b7 (by omega)
  clear m6 t1 o6 b7 HB6
  go_wp2_with fail
  refine (heldStringS_any _ N w2.heap.size 1 (by omega) (by omega) (by omega) _ m7.rd (by omega)).mono ?_
  rintro e w8 ⟨rfl, b8⟩
  have HB8 : Hid (Below w.heap.size w w8) := HB7.out.trans (b8.mono HB7.out.size)
  clear m7 b8 HB7
  go_wp2
  go_ret
  exact ⟨rfl, HB8.out⟩

set_option maxRecDepth 100000 in
theorem fnExactWordsOf_lifted (os : Os) (started : os.Started) (H : Type) (enc : TypeId × Value → H) :
    ReturnsInHanded {} Try.checked os 4 .any (Rows.fnExactWordsOfSpec.pre6 enc Try.prog Try.f4 Rows.fnExactWordsOfRow.domain false) (Rows.fnExactWordsOfSpec.post enc Try.prog Try.f4 false true false false) := by
  refine returnsInHanded_of_change (C := Try.checked) frame_own started (by kernel_rfl) Try.func4
    (ChangeSpec.witness6 (enc := enc) (C := Try.checked) false ⟨#[], #[.string ByteArray.empty], []⟩ 8 (by kernel_rfl) (by kernel_rfl) (by kernel_rfl) (by kernel_rfl)) ?_
  intro W base args ds gs before hval0 hW hcnd _
  have hval : ∀ (j : Nat) t v, Try.f4.params[j]? = some t → args[j]? = some v → Value.okWide Try.prog W .any base t v := hval0
  have hW' := hW
  obtain ⟨p, q, hA0, hV, rfl, hfz, hnd⟩ := hW
  have hA : DataW.TrodAll enc Try.prog W 0 (fun _ => true) true Try.f4.params.toList args.toList ds p := hA0
  rw [Try.params4] at hA hval
  obtain ⟨v0, vs0, d0, ds0, p0, q0, hargs, rfl, rfl, h0, r0⟩ := trodAll_cons hA
  obtain ⟨rfl, rfl, rfl⟩ := trodAll_nil r0
  obtain rfl : args = #[v0] := by cases args; simp_all
  obtain ⟨rfl, rfl⟩ := trodVars_none hV
  obtain ⟨b0, rfl, rfl, rfl, hb0⟩ := ChangeMaps.open_string Try.underlying9 (hval 0 9 v0 rfl rfl) h0
  clear hA0 hval0
  refine (fnExactWordsOf_walk b0 hb0 W).mono fun e W' ⟨he, bel⟩ => ?_
  subst he
  exact ⟨_, rfl, _, _, _, [], _, [], hW', trodAll_mk1 (shut_bool Try.underlying4 _), (trodAll_cons_mk (ChangeMaps.shut_string Try.underlying9 hb0) trodAll_mk0), rfl, bel.frame _, fun h => by cases h⟩

theorem fnExactWordsOf_proved : Rows.FnExactWordsOfSaid :=
  OpenClaim.holds_of_wide 4 Try.f4 rfl rfl rfl rfl rfl rfl rfl ⟨rfl, rfl, rfl, rfl, rfl⟩ rfl rfl rfl rfl rfl (by kernel_rfl) Try.func4 (by kernel_rfl)
    (of_decide_eq_true (by kernel_rfl)) (by unfold Func.isWrapper; first | (rw [if_pos (by decide +kernel)]; kernel_rfl) | (rw [if_neg (by decide +kernel)]; exact ⟨rfl, rfl⟩))
    (fun os started H enc _ => fnExactWordsOf_lifted os started H enc)
#print axioms fnExactWordsOf_proved
end Go.Proofs.Ythncbkgklhbcjaa
