/- For every list of slices of bytes the program's RankG answers as the specification's does and writes into no argument: the law FnExactRankG returns true at every input, and changes nothing that was there. No condition. -/
import Derived.Test.YteelhafnkkfcbahRows
import Derived.Test.YteelhafnkkfcbahFrameM
import Derived.Test.YteelhafnkkfcbahWRankS
namespace Go.Proofs.Yteelhafnkkfcbah
open Go.ChangeShapes Go.WideShapes Go.ChangeAt Go.RowKit F256
set_option linter.unusedVariables false

theorem rank_ans (R : Nat) (n : Nat → Nat) (f : Mat) : ∃ c x, RankAns R n f c x := by
  by_cases h1 : 16 < R ∨ ∃ i, i < R ∧ 16 < n i
  · exact ⟨2, 0, .inl ⟨rfl, rfl, h1⟩⟩
  · have hR : R ≤ 16 := Classical.byContradiction fun h => h1 (.inl (by omega))
    have hs : ∀ i, i < R → n i ≤ 16 := fun i hi => Classical.byContradiction fun h => h1 (.inr ⟨i, hi, by omega⟩)
    by_cases h2 : ∀ i, i < R → n i = n 0
    · exact ⟨0, _, .inr (.inr ⟨rfl, hR, hs, h2, rfl⟩)⟩
    · exact ⟨1, 0, .inr (.inl ⟨rfl, rfl, hR, hs, Classical.byContradiction fun hno => h2 fun i hi => Classical.byContradiction fun h => hno ⟨i, hi, h⟩⟩)⟩

set_option maxHeartbeats 4000000 in
theorem fnExactRankG_walk (a0 : Option Addr) (n0 c0 : Nat) (m0 : Nat → Nat) (f0 : Nat → Nat → Nat) (k0 : ∀ i j, f0 i j < 256) (w : World) (r0 : RdM w w.heap.size (.slice a0 n0 c0) n0 m0 f0) :
    Calls Try.prog 6 #[.slice a0 n0 c0] w fun e w' => e = .returned (.bool true) ∧ Below w.heap.size w w' := by
  have l0 : n0 ≤ 9223372036854775807 := by obtain ⟨_, _, _, _, h, _⟩ := r0; unfold maxLen at h; omega
  obtain ⟨c, x, hans⟩ := rank_ans n0 m0 f0
  have HANS : Hid (RankAns n0 m0 f0 c x) := hans
  clear hans
  have bel := Below.refl w.heap.size w
  go_enter Try.func6, Try.ntmps6
  go_wp2_with fail
  refine (szByteSS_any _ n0 m0 f0 _ _ r0 1048576 (by omega)).mono ?_
  rintro e wz ⟨x0, rfl, hx0, hwz⟩
  obtain rfl := hwz.symm
  rcases hx0 with rfl | ⟨sz0, rfl⟩
  · go_wp2
    go_ret
    exact ⟨rfl, Below.refl _ _⟩
  have le0 : ∀ i, i < n0 → m0 i ≤ 1000000000 := fun i hi => by have := le_sumN m0 hi; omega
  go_wp2_with fail
  refine (toByteSS_any _ n0 m0 f0 w.heap.size _ r0 (by omega) (by omega) le0).mono ?_
  rintro e w1 ⟨vt, rfl, ot, b1⟩
  have s1 : w.heap.size ≤ w1.heap.size := b1.size
  replace r0 := r0.below b1 (by omega)
  replace bel := bthen bel b1
  obtain ⟨gt, ct, et, ht⟩ := ot
  go_wp2_with fail
  refine (specRank_any vt n0 m0 f0 _ _ gt ct et _ ht (by omega) k0).mono ?_
  rintro e w2 ⟨cW, xW, rfl, haW, b2⟩
  obtain ⟨rfl, rfl⟩ := haW.one HANS.out
  have s2 : w1.heap.size ≤ w2.heap.size := b2.size
  replace r0 := r0.below b2 (by omega)
  replace bel := bthen bel b2
  clear haW ht b1 b2
  unfold intR
  go_wp2_with fail
  have rx := r0.below (Below.alloc (Below.refl w2.heap.size w2) (Nat.le_refl _) (.cells #[.int .i64 cW, .int .i64 xW] 39)) (by omega)
  refine (toByteSS_any _ n0 m0 f0 w.heap.size _ rx (by simp <;> omega) (by omega) le0).mono ?_
  rintro e w3 ⟨vx, rfl, ox, b3⟩
  clear rx
  replace ox := ox.weaken (lo' := w2.heap.size + 1) (by simp) (Nat.le_refl _)
  have s3 : w2.heap.size ≤ w3.heap.size := (bnew b3).size
  have boxW := (box_new w2 _ _).below b3 (by simp)
  have eW : w2.heap.size < w3.heap.size := bsize b3
  replace r0 := r0.below (bnew b3) (by omega)
  replace bel := bthen bel (bnew b3)
  clear b3
  go_wp2_with fail
  refine (implRank_any vx n0 m0 f0 _ _ ox.rd (by omega) k0).mono ?_
  rintro e w4 ⟨cG, xG, rfl, haG, b4⟩
  obtain ⟨rfl, rfl⟩ := haG.one HANS.out
  have s4 : w3.heap.size ≤ w4.heap.size := b4.size
  replace r0 := r0.below b4 (by omega)
  replace ox := ox.below b4 (by omega)
  replace boxW := boxW.below b4 (by omega)
  replace bel := bthen bel b4
  clear haG b4
  unfold intR
  obtain ⟨d0, d1, -, -⟩ := res_cells boxW
  have dz : w2.heap.size < w4.heap.size := by omega
  have EQ := fun w => eqInt_same cG xG w
  unfold intR at EQ
  go_wp2_with fail
  refine (EQ _).mono ?_
  rintro e w5 ⟨rfl, b5⟩
  clear d0 d1 dz EQ boxW
  have s5 : w4.heap.size ≤ w5.heap.size := (bnew b5).size
  replace r0 := r0.below (bnew b5) (by omega)
  replace ox := ox.below (bnew b5) (by omega)
  replace bel := bthen bel (bnew b5)
  clear b5
  go_wp2_with fail
  refine (toByteSS_any _ n0 m0 f0 w.heap.size _ r0 (by omega) (by omega) le0).mono ?_
  rintro e w6 ⟨vy, rfl, oy, b6⟩
  have s6 : w5.heap.size ≤ w6.heap.size := b6.size
  replace ox := ox.below b6 (by omega)
  replace bel := bthen bel b6
  clear b6
  go_wp2_with fail
  refine (eqByteSS_same vx vy n0 m0 f0 _ _ _ ox.rd oy.rd (by omega) (by omega)).mono ?_
  rintro e w7 ⟨rfl, b7⟩
  replace bel := bthen bel b7
  go_wp2
  go_ret
  exact ⟨rfl, bel⟩

set_option maxRecDepth 100000 in
theorem fnExactRankG_lifted (os : Os) (started : os.Started) (H : Type) (enc : TypeId × Value → H) :
    ReturnsInHanded {} Try.checked os 6 .any (Rows.fnExactRankGSpec.pre6 enc Try.prog Try.f6 Rows.fnExactRankGRow.domain false) (Rows.fnExactRankGSpec.post enc Try.prog Try.f6 false true false false) := by
  refine returnsInHanded_of_change (C := Try.checked) frame_own started (by kernel_rfl) Try.func6
    (ChangeSpec.witness6 (enc := enc) (C := Try.checked) false ⟨#[], #[.slice none 0 0], []⟩ 8 (by kernel_rfl) (by kernel_rfl) (by kernel_rfl) (by kernel_rfl)) ?_
  intro W base args ds gs before hval0 hW hcnd _
  have hval : ∀ (j : Nat) t v, Try.f6.params[j]? = some t → args[j]? = some v → Value.okWide Try.prog W .any base t v := hval0
  have hW' := hW
  obtain ⟨p, q, hA0, hV, rfl, hfz, hnd⟩ := hW
  have hA : DataW.TrodAll enc Try.prog W 0 (fun _ => true) true Try.f6.params.toList args.toList ds p := hA0
  rw [Try.params6] at hA hval
  obtain ⟨v0, vs0, d0, ds0, p0, q0, hargs, rfl, rfl, h0, r0⟩ := trodAll_cons hA
  obtain ⟨rfl, rfl, rfl⟩ := trodAll_nil r0
  obtain rfl : args = #[v0] := by cases args; simp_all
  obtain ⟨rfl, rfl⟩ := trodVars_none hV
  obtain ⟨a0, len0, cap0, rfl⟩ := okWide_slice Try.underlying22 (hval 0 22 v0 rfl rfl)
  have k0 := h0
  have lt0 : ∀ x ∈ p0, x.block < W.heap.size := by obtain ⟨m, hm⟩ := k0; exact DataW.trod_lt m _ _ _ hm
  obtain ⟨nn0, ff0, kk0, w0⟩ := rowsM_of_trod Try.underlying22 Try.underlying23 Try.underlying5 (by kernel_rfl) (by kernel_rfl) h0
  clear hA0 hval0
  refine (fnExactRankG_walk a0 len0 cap0 nn0 ff0 kk0 W w0).mono fun e W' ⟨he, bel⟩ => ?_
  subst he
  exact ⟨_, rfl, _, _, _, [], _, [], hW', trodAll_mk1 (shut_bool Try.underlying4 _), (trodAll_cons_mk (Below.trod frame_laid (by kernel_rfl) (of_decide_eq_true (by kernel_rfl)) k0 bel lt0) trodAll_mk0), rfl, bel.frame _, fun h => by cases h⟩

theorem fnExactRankG_proved : Rows.FnExactRankGSaid :=
  OpenClaim.holds_of_wide 6 Try.f6 rfl rfl rfl rfl rfl rfl rfl ⟨rfl, rfl, rfl, rfl, rfl⟩ rfl rfl rfl rfl rfl (by kernel_rfl) Try.func6 (by kernel_rfl)
    (of_decide_eq_true (by kernel_rfl)) (by unfold Func.isWrapper; first | (rw [if_pos (by decide +kernel)]; kernel_rfl) | (rw [if_neg (by decide +kernel)]; exact ⟨rfl, rfl⟩))
    (fun os started H enc _ => fnExactRankG_lifted os started H enc)
#print axioms fnExactRankG_proved
end Go.Proofs.Yteelhafnkkfcbah
