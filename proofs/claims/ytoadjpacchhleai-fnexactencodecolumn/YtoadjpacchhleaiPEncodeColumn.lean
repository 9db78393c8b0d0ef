/- For every list of slices of bytes and every number the program's EncodeColumn answers as the specification's does, writes into no argument and hands back memory of its own: the law FnExactEncodeColumn returns true at every input, and changes nothing that was there. No condition. -/
import Derived.Test.YtoadjpacchhleaiRows
import Derived.Test.YtoadjpacchhleaiFrameM
import Derived.Test.YtoadjpacchhleaiWLists
import Derived.Test.YtoadjpacchhleaiWColB
import Derived.Test.YtoadjpacchhleaiWSz
import Derived.Test.YtoadjpacchhleaiWImplM
namespace Go.Proofs.Ytoadjpacchhleai
open Go.ChangeShapes Go.WideShapes Go.ChangeAt Go.RowKit F256
set_option linter.unusedVariables false

theorem sumN_same (N m : Nat) (hm : m ≤ 6) (hN : N ≤ 4000) : sumN (fun _ => N) m ≤ 100000 := by
  have : ∀ k, sumN (fun _ => N) k = k * N := by
    intro k
    induction k with
    | zero => simp [sumN]
    | succ k ih => rw [sumN, ih, Nat.succ_mul]
  rw [this]
  have := Nat.mul_le_mul hm hN
  omega
theorem fnExactEncodeColumn_both (n0 : Nat) (m0 : Nat → Nat) (f0 : Nat → Nat → Nat) (k0 : ∀ i j, f0 i j < 256) (a1 : Int) (h1 : -9223372036854775808 ≤ a1 ∧ a1 ≤ 9223372036854775807) : ∃ (c : Int) (m : Nat) (nn : Nat → Nat) (g : Mat), m ≤ 4000 ∧ sumN nn m ≤ 100000 ∧
    (∀ (v0 : Value) (l0 e0 : Nat) (w : World), OwnM w l0 e0 v0 n0 m0 f0 → e0 ≤ w.heap.size →
      Calls Try.prog 33 #[v0, .int .i64 a1] w fun e w' => ∃ v', e = .returned (bytesR c v') ∧ OwnB w' w.heap.size w'.heap.size v' m nn g ∧ Below w.heap.size w w') ∧
    (∀ (v0 : Value) (l0 e0 : Nat) (w : World), OwnM w l0 e0 v0 n0 m0 f0 → e0 ≤ w.heap.size →
      Calls Try.prog 34 #[v0, .int .i64 a1] w fun e w' => ∃ v', e = .returned (bytesR c v') ∧ OwnB w' w.heap.size w'.heap.size v' m nn g ∧ Below w.heap.size w w') := by
  obtain ⟨c, hc⟩ := ce_ans n0 m0 a1
  have hrows : (if c = 0 then a1.toNat else 0) ≤ 2 := by
    split
    · rename_i h
      rcases hc with ⟨h2, _⟩ | ⟨h2, _⟩ | ⟨h2, _⟩ | ⟨_, hs, _⟩
      · omega
      · omega
      · omega
      · have := hs.2.2.2; omega
    · omega
  have hlen : c = 0 → m0 0 ≤ 4000 := fun h => by
    rcases hc with ⟨h2, _⟩ | ⟨h2, _⟩ | ⟨h2, _⟩ | ⟨_, _, _, h3⟩
    · omega
    · omega
    · omega
    · exact h3
  refine ⟨c, if c = 0 then a1.toNat else 0, fun _ => m0 0, parN n0 f0, by omega, ?_, fun v0 l0 e0 w o0 b0 => ?_, fun v0 l0 e0 w o0 b0 => ?_⟩
  · by_cases h : c = 0
    · exact sumN_same (m0 0) _ (by omega) (hlen h)
    · rw [if_neg h]; simp [sumN]
  · refine (specEncodeC_any v0 n0 m0 f0 a1 e0 w o0.rd b0 k0).mono fun e w' ⟨x, v', he, ha, ho, hb⟩ => ?_
    obtain rfl := ha.one hc
    exact ⟨v', he, ho, hb⟩
  · refine (implEncodeC_any v0 n0 m0 f0 a1 e0 w o0.rd b0 k0).mono fun e w' ⟨x, v', he, ha, ho, hb⟩ => ?_
    obtain rfl := ha.one hc
    exact ⟨v', he, ho, hb⟩

set_option maxHeartbeats 4000000 in
theorem fnExactEncodeColumn_walk (a0 : Option Addr) (n0 c0 : Nat) (m0 : Nat → Nat) (f0 : Nat → Nat → Nat) (k0 : ∀ i j, f0 i j < 256) (a1 : Int) (h1 : -9223372036854775808 ≤ a1 ∧ a1 ≤ 9223372036854775807) (w : World) (r0 : RdM w w.heap.size (.slice a0 n0 c0) n0 m0 f0) :
    Calls Try.prog 7 #[.slice a0 n0 c0, .int .i64 a1] w fun e w' => e = .returned (.bool true) ∧ Below w.heap.size w w' := by
  have l0 : n0 ≤ 9223372036854775807 := by obtain ⟨_, _, _, _, h, _⟩ := r0; unfold maxLen at h; omega
  obtain ⟨c, m, nn, g, hm, hsm, hs, hi⟩ := fnExactEncodeColumn_both n0 m0 f0 k0 a1 h1
  clear k0
  have bel := Below.refl w.heap.size w
  go_enter Try.func7, Try.ntmps7
  go_wp2_with fail
  refine (szByteSS_any _ n0 m0 f0 _ _ r0 1048576 (by omega)).mono ?_
  rintro e wz ⟨x0, rfl, hx0, hwz⟩
  obtain rfl := hwz.symm
  rcases hx0 with rfl | ⟨sz0, rfl⟩
  · go_wp2
    go_ret
    exact ⟨rfl, Below.refl _ _⟩
  have le0 : ∀ i, i < n0 → m0 i ≤ 1000000000 := fun i hi => by have := le_sumN m0 hi; omega
  go_wp2_with fail
  refine (toByteSS_any _ n0 m0 f0 w.heap.size _ r0 (by omega) (by omega) le0).mono ?_
  rintro e w1 ⟨vt0, rfl, ot0, b1⟩
  have sw1 : w.heap.size ≤ w1.heap.size := b1.size
  replace r0 := r0.below b1 (by omega)
  replace bel := bthen bel b1
  go_wp2_with fail
  refine (hs vt0 _ _ _ ot0 (by omega)).mono ?_
  rintro e w2 ⟨vW, rfl, oW, b2⟩
  obtain ⟨aoW, capW, rfl⟩ := oW.slice
  unfold bytesR
  have sw2 : w1.heap.size ≤ w2.heap.size := b2.size
  replace r0 := r0.below b2 (by omega)
  replace ot0 := ot0.below b2 (by omega)
  replace bel := bthen bel b2
  clear ot0
  go_wp2_with fail
  have rx := r0.below (Below.alloc (Below.refl w2.heap.size w2) (Nat.le_refl _) (.cells #[.int .i64 c, .slice aoW m capW] 51)) (by omega)
  refine (toByteSS_any _ n0 m0 f0 w.heap.size _ rx (by simp <;> omega) (by omega) le0).mono ?_
  rintro e w3 ⟨vx0, rfl, ox0, b3⟩
  clear rx
  replace ox0 := ox0.weaken (lo' := w2.heap.size + 1) (by simp) (Nat.le_refl _)
  have sw3 : w2.heap.size ≤ w3.heap.size := (bnew b3).size
  have boxW := (box_new w2 _ _).below b3 (by simp)
  have eboxW : w2.heap.size < w3.heap.size := bsize b3
  replace r0 := r0.below (bnew b3) (by omega)
  replace oW := oW.below (bnew b3) (by omega)
  replace bel := bthen bel (bnew b3)
  go_wp2_with fail
  refine (hi vx0 _ _ _ ox0 (by omega)).mono ?_
  rintro e w4 ⟨vG, rfl, oG, b4⟩
  obtain ⟨aoG, capG, rfl⟩ := oG.slice
  unfold bytesR
  have sw4 : w3.heap.size ≤ w4.heap.size := b4.size
  replace r0 := r0.below b4 (by omega)
  replace oW := oW.below b4 (by omega)
  replace boxW := boxW.below b4 (by omega)
  replace ox0 := ox0.below b4 (by omega)
  replace bel := bthen bel b4
  obtain ⟨d0, d1, -, -⟩ := res_cells boxW
  have dz : w2.heap.size < w4.heap.size := by omega
  go_wp2_with fail
  have rx := oG.alloc (.cells #[.int .i64 c, .slice aoG m capG] 51)
  have ry := oW.alloc (.cells #[.int .i64 c, .slice aoG m capG] 51)
  refine (eqListsR_same c (.slice aoG m capG) (.slice aoW m capW) m nn g _ _ _ rx.rd ry.rd (by simp <;> omega) (by simp <;> omega)).mono ?_
  clear rx ry d0 d1 dz
  rintro e w5 ⟨rfl, b5⟩
  have sw5 : w4.heap.size ≤ w5.heap.size := (bnew b5).size
  have boxG := (box_new w4 _ _).below b5 (by simp)
  have eboxG : w4.heap.size < w5.heap.size := bsize b5
  replace r0 := r0.below (bnew b5) (by omega)
  replace oW := oW.below (bnew b5) (by omega)
  replace boxW := boxW.below (bnew b5) (by omega)
  replace ox0 := ox0.below (bnew b5) (by omega)
  replace oG := oG.below (bnew b5) (by omega)
  replace bel := bthen bel (bnew b5)
  go_wp2_with fail
  refine (toByteSS_any _ n0 m0 f0 w.heap.size _ r0 (by omega) (by omega) le0).mono ?_
  rintro e w6 ⟨vy0, rfl, oy0, b6⟩
  have sw6 : w5.heap.size ≤ w6.heap.size := b6.size
  replace r0 := r0.below b6 (by omega)
  replace oW := oW.below b6 (by omega)
  replace boxW := boxW.below b6 (by omega)
  replace ox0 := ox0.below b6 (by omega)
  replace oG := oG.below b6 (by omega)
  replace boxG := boxG.below b6 (by omega)
  replace bel := bthen bel b6
  go_wp2_with fail
  refine (eqByteSS_same vx0 vy0 n0 m0 f0 _ _ _ ox0.rd oy0.rd (by omega) (by omega)).mono ?_
  rintro e w7 ⟨rfl, b7⟩
  clear oy0
  have sw7 : w6.heap.size ≤ w7.heap.size := b7.size
  replace r0 := r0.below b7 (by omega)
  replace oW := oW.below b7 (by omega)
  replace boxW := boxW.below b7 (by omega)
  replace ox0 := ox0.below b7 (by omega)
  replace oG := oG.below b7 (by omega)
  replace boxG := boxG.below b7 (by omega)
  replace bel := bthen bel b7
  go_wp2_with fail
  refine (markByteSS_any vx0 n0 m0 f0 _ _ 1 (by omega) (by omega) (by omega) _ ox0 (by omega)).mono ?_
  rintro e w8 ⟨rfl, ch⟩
  clear ox0
  have sw8 : w7.heap.size ≤ w8.heap.size := ch.size
  replace r0 := r0.chg ch (by omega) (by omega)
  replace oW := oW.chg ch (by omega)
  replace boxW := boxW.chg ch (by omega)
  replace oG := oG.chg ch (by omega)
  replace boxG := boxG.chg ch (by omega)
  replace bel := bel.trans (ch.below (by omega) (by omega))
  clear ch
  skip
  obtain ⟨d0, d1, -, -⟩ := res_cells boxW
  obtain ⟨d2, d3, -, -⟩ := res_cells boxG
  go_wp2_with fail
  refine (eqListsR_same c (.slice aoG m capG) (.slice aoW m capW) m nn g _ _ _ oG.rd oW.rd (by omega) (by omega)).mono ?_
  clear d0 d1 d2 d3
  rintro e w9 ⟨rfl, b9⟩
  have sw9 : w8.heap.size ≤ w9.heap.size := b9.size
  replace r0 := r0.below b9 (by omega)
  replace oW := oW.below b9 (by omega)
  replace boxW := boxW.below b9 (by omega)
  replace oG := oG.below b9 (by omega)
  replace boxG := boxG.below b9 (by omega)
  replace bel := bthen bel b9
  obtain ⟨d0, d1, -, -⟩ := res_cells boxG
  go_wp2_with fail
  refine (markListsR_any c (.slice aoG m capG) m nn g _ _ 1 (by omega) (by omega) (by omega) _ oG (by omega)).mono ?_
  rintro e w10 ⟨rfl, oM, ch⟩
  clear d0 d1 oG
  have sw10 : w9.heap.size ≤ w10.heap.size := ch.size
  replace r0 := r0.chg ch (by omega) (by omega)
  replace oW := oW.chg ch (by omega)
  replace boxW := boxW.chg ch (by omega)
  replace boxG := boxG.chg ch (by omega)
  replace bel := bel.trans (ch.below (by omega) (by omega))
  clear ch
  obtain ⟨d0, d1, -, -⟩ := res_cells boxG
  go_wp2_with fail
  refine (heldListsR_any c (.slice aoG m capG) m nn _ 1 (by omega) (by omega) (by omega) _ oM.rd (by omega)).mono ?_
  rintro e w11 ⟨rfl, b11⟩
  clear d0 d1
  have sw11 : w10.heap.size ≤ w11.heap.size := b11.size
  replace r0 := r0.below b11 (by omega)
  replace oW := oW.below b11 (by omega)
  replace boxW := boxW.below b11 (by omega)
  replace boxG := boxG.below b11 (by omega)
  replace oM := oM.below b11 (by omega)
  replace bel := bthen bel b11
  go_wp2_with fail
  refine (toByteSS_any _ n0 m0 f0 w.heap.size _ r0 (by omega) (by omega) le0).mono ?_
  rintro e w12 ⟨vu0, rfl, ou0, b12⟩
  have sw12 : w11.heap.size ≤ w12.heap.size := b12.size
  replace r0 := r0.below b12 (by omega)
  replace oW := oW.below b12 (by omega)
  replace boxW := boxW.below b12 (by omega)
  replace boxG := boxG.below b12 (by omega)
  replace oM := oM.below b12 (by omega)
  replace bel := bthen bel b12
  go_wp2_with fail
  refine (hi vu0 _ _ _ ou0 (by omega)).mono ?_
  rintro e w13 ⟨vH, rfl, oH, b13⟩
  obtain ⟨aoH, capH, rfl⟩ := oH.slice
  unfold bytesR
  have sw13 : w12.heap.size ≤ w13.heap.size := b13.size
  replace r0 := r0.below b13 (by omega)
  replace oW := oW.below b13 (by omega)
  replace boxW := boxW.below b13 (by omega)
  replace boxG := boxG.below b13 (by omega)
  replace oM := oM.below b13 (by omega)
  replace ou0 := ou0.below b13 (by omega)
  replace bel := bthen bel b13
  clear ou0
  obtain ⟨d0, d1, -, -⟩ := res_cells boxW
  have dz : w2.heap.size < w13.heap.size := by omega
  go_wp2_with fail
  have rx := oH.alloc (.cells #[.int .i64 c, .slice aoH m capH] 51)
  have ry := oW.alloc (.cells #[.int .i64 c, .slice aoH m capH] 51)
  refine (eqListsR_same c (.slice aoH m capH) (.slice aoW m capW) m nn g _ _ _ rx.rd ry.rd (by simp <;> omega) (by simp <;> omega)).mono ?_
  clear rx ry d0 d1 dz
  rintro e w14 ⟨rfl, b14⟩
  have sw14 : w13.heap.size ≤ w14.heap.size := (bnew b14).size
  have boxH := (box_new w13 _ _).below b14 (by simp)
  have eboxH : w13.heap.size < w14.heap.size := bsize b14
  replace r0 := r0.below (bnew b14) (by omega)
  replace oW := oW.below (bnew b14) (by omega)
  replace boxW := boxW.below (bnew b14) (by omega)
  replace boxG := boxG.below (bnew b14) (by omega)
  replace oM := oM.below (bnew b14) (by omega)
  replace oH := oH.below (bnew b14) (by omega)
  replace bel := bthen bel (bnew b14)
  obtain ⟨d0, d1, -, -⟩ := res_cells boxG
  go_wp2_with fail
  refine (heldListsR_any c (.slice aoG m capG) m nn _ 1 (by omega) (by omega) (by omega) _ oM.rd (by omega)).mono ?_
  rintro e w15 ⟨rfl, b15⟩
  clear d0 d1
  have sw15 : w14.heap.size ≤ w15.heap.size := b15.size
  replace r0 := r0.below b15 (by omega)
  replace oW := oW.below b15 (by omega)
  replace boxW := boxW.below b15 (by omega)
  replace boxG := boxG.below b15 (by omega)
  replace oM := oM.below b15 (by omega)
  replace oH := oH.below b15 (by omega)
  replace boxH := boxH.below b15 (by omega)
  replace bel := bthen bel b15
  go_wp2
  go_ret
  exact ⟨rfl, bel⟩

set_option maxRecDepth 100000 in
theorem fnExactEncodeColumn_lifted (os : Os) (started : os.Started) (H : Type) (enc : TypeId × Value → H) :
    ReturnsInHanded {} Try.checked os 7 .any (Rows.fnExactEncodeColumnSpec.pre6 enc Try.prog Try.f7 Rows.fnExactEncodeColumnRow.domain false) (Rows.fnExactEncodeColumnSpec.post enc Try.prog Try.f7 false true false false) := by
  refine returnsInHanded_of_change (C := Try.checked) frame_own started (by kernel_rfl) Try.func7
    (ChangeSpec.witness6 (enc := enc) (C := Try.checked) false ⟨#[], #[.slice none 0 0, .int .i64 0], []⟩ 8 (by kernel_rfl) (by kernel_rfl) (by kernel_rfl) (by kernel_rfl)) ?_
  intro W base args ds gs before hval0 hW hcnd _
  have hval : ∀ (j : Nat) t v, Try.f7.params[j]? = some t → args[j]? = some v → Value.okWide Try.prog W .any base t v := hval0
  have hW' := hW
  obtain ⟨p, q, hA0, hV, rfl, hfz, hnd⟩ := hW
  have hA : DataW.TrodAll enc Try.prog W 0 (fun _ => true) true Try.f7.params.toList args.toList ds p := hA0
  rw [Try.params7] at hA hval
  obtain ⟨v0, vs0, d0, ds0, p0, q0, hargs, rfl, rfl, h0, r0⟩ := trodAll_cons hA
  obtain ⟨v1, vs1, d1, ds1, p1, q1, rfl, rfl, rfl, h1, r1⟩ := trodAll_cons r0
  obtain ⟨rfl, rfl, rfl⟩ := trodAll_nil r1
  obtain rfl : args = #[v0, v1] := by cases args; simp_all
  obtain ⟨rfl, rfl⟩ := trodVars_none hV
  obtain ⟨a0, len0, cap0, rfl⟩ := okWide_slice Try.underlying33 (hval 0 33 v0 rfl rfl)
  have k0 := h0
  have lt0 : ∀ x ∈ p0, x.block < W.heap.size := by obtain ⟨m, hm⟩ := k0; exact DataW.trod_lt m _ _ _ hm
  obtain ⟨nn0, ff0, kk0, w0⟩ := rowsM_of_trod Try.underlying33 Try.underlying23 Try.underlying5 (by kernel_rfl) (by kernel_rfl) h0
  obtain ⟨a1, rfl, rfl, rfl, w1⟩ := open_int Try.underlying2 (hval 1 2 v1 rfl rfl) h1
  clear hA0 hval0
  refine (fnExactEncodeColumn_walk a0 len0 cap0 nn0 ff0 kk0 a1 (bounds_i64 w1) W w0).mono fun e W' ⟨he, bel⟩ => ?_
  subst he
  exact ⟨_, rfl, _, _, _, [], _, [], hW', trodAll_mk1 (shut_bool Try.underlying4 _), (trodAll_cons_mk (Below.trod frame_laid (by kernel_rfl) (of_decide_eq_true (by kernel_rfl)) k0 bel lt0) (trodAll_cons_mk (shut_int Try.underlying2 w1) trodAll_mk0)), rfl, bel.frame _, fun h => by cases h⟩

theorem fnExactEncodeColumn_proved : Rows.FnExactEncodeColumnSaid :=
  OpenClaim.holds_of_wide 7 Try.f7 rfl rfl rfl rfl rfl rfl rfl ⟨rfl, rfl, rfl, rfl, rfl⟩ rfl rfl rfl rfl rfl (by kernel_rfl) Try.func7 (by kernel_rfl)
    (of_decide_eq_true (by kernel_rfl)) (by unfold Func.isWrapper; first | (rw [if_pos (by decide +kernel)]; kernel_rfl) | (rw [if_neg (by decide +kernel)]; exact ⟨rfl, rfl⟩))
    (fun os started H enc _ => fnExactEncodeColumn_lifted os started H enc)
#print axioms fnExactEncodeColumn_proved
end Go.Proofs.Ytoadjpacchhleai
