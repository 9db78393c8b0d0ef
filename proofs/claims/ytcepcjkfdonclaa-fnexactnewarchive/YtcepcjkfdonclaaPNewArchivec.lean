/- For every shape the program's NewArchive answers as the specification's does, writes into nothing that it is handed, and its answer is memory of its own: the law FnExactNewArchive returns true at every input, and changes nothing that was there. No condition. -/
import Derived.Test.YtcepcjkfdonclaaRows
import Derived.Test.YtcepcjkfdonclaaZPnewaraa
import Derived.Test.YtcepcjkfdonclaaZPnewarad
import Derived.Test.YtcepcjkfdonclaaZPnewarag
import Derived.Test.YtcepcjkfdonclaaZPnewaraf
import Derived.Deep.DeepCutAuto
namespace Go.Proofs.Ytcepcjkfdonclaa
open Go.ChangeShapes Go.WideShapes Go.ChangeAt Go.RowKit F256
set_option linter.unusedVariables false
set_option linter.unusedSimpArgs false
theorem cvNa (s : Nat → Int) {d : ArchiveResultD} (h : NaAns s d) : cvArchiveResultD d ≤ 1000000 := by
  rcases h with ⟨_, rfl⟩ | ⟨h, rfl⟩
  · have := cvNew s (d := ⟨3, zeroW⟩) (.inl ⟨by assumption, rfl⟩)
    unfold cvArchiveResultD cvArchiveD cvDeskND
    unfold cvWorldResultD at this
    simp only at this ⊢
    omega
  · have := cvNew s (d := ⟨0, newW s⟩) (.inr ⟨h, rfl⟩)
    unfold cvArchiveResultD cvArchiveD cvDeskND
    unfold cvWorldResultD at this
    simp only at this ⊢
    omega
theorem info_AR : (Try.prog.info? 38).map (fun i => (i.zero.map (·.cells), i.size)) = some (some #[.int .i64 0, .int .i64 0, .int .i64 0, .int .i64 0, .int .i64 0, .int .i64 0, .int .i64 0, .int .i64 0, .int .i64 0, .int .i64 0, .int .i64 0, .slice none 0 0, .slice none 0 0, .slice none 0 0, .int .i64 0, .int .i64 0, .bool false, .slice none 0 0, .slice none 0 0, .slice none 0 0, .int .i64 0, .int .i64 0], 22) := by kernel_rfl
theorem nares_det {s : Nat → Int} {d : ArchiveResultD} {w : World} {f : Nat} {args : Array Value} (hd : NaAns s d) (h : Calls Try.prog f args w (ArPost (NaAns s) w)) : Calls Try.prog f args w fun e w' => ∃ cs, e = .returned (.agg cs.toArray) ∧ OwnT layArchiveResult w' w.heap.size w'.heap.size d cs ∧ Below w.heap.size w w' :=
  h.mono fun e w' ⟨d', cs, h1, h2, h3, h4⟩ => ⟨cs, h1, by rw [hd.one h2]; exact h3, h4⟩
set_option maxHeartbeats 16000000 in
set_option maxRecDepth 20000 in
theorem fnExactNewArchive_walk (s : Nat → Int) (w : World) (hs : ∀ i, -9223372036854775808 ≤ s i ∧ s i ≤ 9223372036854775807) :
    Calls Try.prog 3 #[shapeV s] w fun e w' => e = .returned (.bool true) ∧ Below w.heap.size w w' := by
  obtain ⟨d, hd⟩ := na_ex s
  obtain ⟨N, hN⟩ : ∃ N, N = 1 + cvArchiveResultD d := ⟨_, rfl⟩
  have hj : 1 + cvArchiveResultD d ≤ 100000000 := by have := cvNa s hd; omega
  have CT := toShape_any s
  have CS := fun w' => nares_det hd (specNa_any s hs w')
  have CI := fun w' => nares_det hd (implNa_any s hs w')
  have CE := fun c1 c2 h1 h2 w' => eqArchiveResult_is c1 c2 d h1 h2 w'
  have CM := fun {w' : World} {lo hi : Nat} {cs : List Value} (h : OwnT layArchiveResult w' lo hi d cs) => mark_T markArchiveResult_is h 1 hj
  have CH := fun (cs : List Value) (hi : Nat) (w' : World) (h : layArchiveResult.rd w' hi (mkvArchiveResultD 1 d) cs) (hh : hi ≤ w'.heap.size) => heldArchiveResult_is cs d hi 1 w' h hh hj
  rw [← hN] at CM CH
  obtain ⟨shq, hSL, hSn⟩ : ∃ l : List Value, shapeV s = .agg l.toArray ∧ l.length = 9 := ⟨[.int .i64 (s 0), .int .i64 (s 1), .int .i64 (s 2), .int .i64 (s 3), .int .i64 (s 4), .int .i64 (s 5), .int .i64 (s 6), .int .i64 (s 7), .int .i64 (s 8)], rfl, rfl⟩
  rw [hSL] at CT CS CI ⊢
  have T0 := one_new w shq.toArray 23
  clear hs hd hN hj hSL
  go_enter Try.func3, Try.ntmps3
  go_wp2_with (refine wp_loadBox 23 (.tmp 1) rfl rfl (w.heap.size) rfl T0.b1 Try.underlying23 size_LS hSn ?_)
  refine (CT _).mono ?_
  rintro e w1 ⟨rfl, b1⟩
  have T1 := T0.call b1
  clear T0 b1
  go_wp2_with fail
  refine (CS _).mono ?_
  rintro e w2 ⟨cS, rfl, o2, b2⟩
  have z1 : w.heap.size < w1.heap.size := T1.b1.lt
  have z2 : w1.heap.size ≤ w2.heap.size := b2.size
  have T2 := T1.call b2
  have lS : cS.length = 22 := o2.len
  clear T1 b2
  go_upto_region 2 with (refine wp_allocStore 38 3 (.tmp 10) cS _ 22 rfl rfl rfl rfl rfl rfl rfl rfl info_AR rfl o2.len o2.one ?_)
  have bA : Below w2.heap.size w2 (w2.alloc (.cells cS.toArray 38)) := (Below.refl _ _).alloc (Nat.le_refl _) _
  have X3 : Box (w2.alloc (.cells cS.toArray 38)) w2.heap.size cS.toArray 38 := box_new _ _ _
  obtain ⟨W3, hW3⟩ : ∃ x, x = w2.alloc (.cells cS.toArray 38) := ⟨_, rfl⟩
  rw [← hW3] at bA X3 ⊢
  have T3 := T2.call bA
  have O3 := o2.call bA
  have z3 : w2.heap.size < W3.heap.size := X3.lt
  clear T2 o2 bA hW3
  go_wp2_with (refine wp_loadBox 23 (.tmp 1) rfl rfl (w.heap.size) rfl T3.b1 Try.underlying23 size_LS hSn ?_)
  refine (CT _).mono ?_
  rintro e w4 ⟨rfl, b4⟩
  have T4 := T3.call b4
  have O4 := O3.call b4
  have X4 := X3.call b4
  have z4 : W3.heap.size ≤ w4.heap.size := b4.size
  clear T3 O3 X3 b4
  go_wp2_with fail
  refine (CI _).mono ?_
  rintro e w5 ⟨cG, rfl, o5, b5⟩
  have T5 := T4.call b5
  have O5 := O4.call b5
  have X5 := X4.call b5
  have lG : cG.length = 22 := o5.len
  have z5 : w4.heap.size ≤ w5.heap.size := b5.size
  clear T4 O4 X4 b5
  go_upto_region 3 with (refine wp_allocStore 38 4 (.tmp 13) cG _ 22 rfl rfl rfl rfl rfl rfl rfl rfl info_AR rfl o5.len o5.one ?_)
  have bA : Below w5.heap.size w5 (w5.alloc (.cells cG.toArray 38)) := (Below.refl _ _).alloc (Nat.le_refl _) _
  have Y6 : Box (w5.alloc (.cells cG.toArray 38)) w5.heap.size cG.toArray 38 := box_new _ _ _
  obtain ⟨W6, hW6⟩ : ∃ x, x = w5.alloc (.cells cG.toArray 38) := ⟨_, rfl⟩
  rw [← hW6] at bA Y6 ⊢
  have T6 := T5.call bA
  have O6 := O5.call bA
  have X6 := X5.call bA
  have Q6 := o5.call bA
  have z6 : w5.heap.size < W6.heap.size := Y6.lt
  clear T5 O5 X5 o5 bA hW6
  go_wp2_with (first | (refine wp_loadBox 38 (.tmp 4) rfl rfl (w5.heap.size) rfl Y6 Try.underlying38 sizeN_AR lG ?_) | (refine wp_loadBox 38 (.tmp 3) rfl rfl (w2.heap.size) rfl X6 Try.underlying38 sizeN_AR lS ?_))
  refine (CE _ _ _ _ _ Q6.rd O6.rd (by omega) (by omega)).mono ?_
  rintro e w7 ⟨rfl, b7⟩
  have T7 := T6.call b7
  have O7 := O6.call b7
  have X7 := X6.call b7
  have Q7 := Q6.call b7
  have Y7 := Y6.call b7
  have z7 : W6.heap.size ≤ w7.heap.size := b7.size
  clear T6 O6 X6 Q6 Y6 b7
  go_wp2_with (refine wp_loadBox 38 (.tmp 4) rfl rfl (w5.heap.size) rfl Y7 Try.underlying38 sizeN_AR lG ?_)
  refine (CM Q7).mono ?_
  rintro e w8 ⟨rfl, Q8, c8⟩
  have X8 := X7.chg c8 (.inl (by omega))
  have Y8 := Y7.chg c8 (.inr (Nat.le_refl _))
  have O8 := O7.chg c8 (.inl (by omega))
  have P8 := T7.b1.chg c8 (.inl (by omega))
  have B8 : Below w.heap.size w w8 := T7.bel.trans (c8.bel (by omega) (by omega))
  have z8 : w7.heap.size ≤ w8.heap.size := c8.size
  clear X7 Y7 O7 T7 Q7 c8
  go_wp2_with (refine wp_loadBox 38 (.tmp 4) rfl rfl (w5.heap.size) rfl Y8 Try.underlying38 sizeN_AR lG ?_)
  refine (CH _ _ _ Q8.rd (by omega)).mono ?_
  rintro e w9 ⟨rfl, b9⟩
  have X9 := X8.call b9
  have Y9 := Y8.call b9
  have O9 := O8.call b9
  have Q9 := Q8.call b9
  have P9 := P8.call b9
  have B9 := B8.trans (b9.mono (by omega))
  have z9 : w8.heap.size ≤ w9.heap.size := b9.size
  clear X8 Y8 O8 Q8 P8 B8 b9
  have hn0 : ¬ (N : Int) < 0 := by omega
  go_wp2_with (refine wp_loadBox 23 (.tmp 1) rfl rfl (w.heap.size) rfl P9 Try.underlying23 size_LS hSn ?_)
  refine (CT _).mono ?_
  rintro e w10 ⟨rfl, b10⟩
  go_wp2_with fail
  refine (CI _).mono ?_
  rintro e w11 ⟨cH, rfl, o11, b11⟩
  have z10 : w9.heap.size ≤ w10.heap.size := b10.size
  have z11 : w10.heap.size ≤ w11.heap.size := b11.size
  have X11 := (X9.call b10).call b11
  have Y11 := (Y9.call b10).call b11
  have O11 := (O9.call b10).call b11
  have Q11 := (Q9.call b10).call b11
  have B11 := (B9.trans (b10.mono (by omega))).trans (b11.mono (by omega))
  have lH : cH.length = 22 := o11.len
  clear X9 Y9 O9 Q9 P9 B9 b10 b11
  go_upto_region 14 with (refine wp_allocStore 38 7 (.tmp 31) cH _ 22 rfl rfl rfl rfl rfl rfl rfl rfl info_AR rfl o11.len o11.one ?_)
  have bA : Below w11.heap.size w11 (w11.alloc (.cells cH.toArray 38)) := (Below.refl _ _).alloc (Nat.le_refl _) _
  have H12 : Box (w11.alloc (.cells cH.toArray 38)) w11.heap.size cH.toArray 38 := box_new _ _ _
  obtain ⟨W12, hW12⟩ : ∃ x, x = w11.alloc (.cells cH.toArray 38) := ⟨_, rfl⟩
  rw [← hW12] at bA H12 ⊢
  have X12 := X11.call bA
  have Y12 := Y11.call bA
  have O12 := O11.call bA
  have Q12 := Q11.call bA
  have R12 := o11.call bA
  have B12 := B11.trans (bA.mono (by omega))
  have z12 : w11.heap.size < W12.heap.size := H12.lt
  clear X11 Y11 O11 Q11 B11 o11 bA hW12
  go_wp2_with (first | (refine wp_loadBox 38 (.tmp 7) rfl rfl (w11.heap.size) rfl H12 Try.underlying38 sizeN_AR lH ?_) | (refine wp_loadBox 38 (.tmp 3) rfl rfl (w2.heap.size) rfl X12 Try.underlying38 sizeN_AR lS ?_))
  refine (CE _ _ _ _ _ R12.rd O12.rd (by omega) (by omega)).mono ?_
  rintro e w13 ⟨rfl, b13⟩
  have Y13 := Y12.call b13
  have Q13 := Q12.call b13
  have B13 := B12.trans (b13.mono (by omega))
  have z13 : W12.heap.size ≤ w13.heap.size := b13.size
  clear X12 Y12 O12 Q12 R12 B12 H12 b13
  go_wp2_with (refine wp_loadBox 38 (.tmp 4) rfl rfl (w5.heap.size) rfl Y13 Try.underlying38 sizeN_AR lG ?_)
  refine (CH _ _ _ Q13.rd (by omega)).mono ?_
  rintro e w14 ⟨rfl, b14⟩
  have B14 : Hid (Below w.heap.size w w14) := B13.trans (b14.mono (by omega))
  clear Y13 Q13 B13 b14
  go_wp2
  go_ret
  exact ⟨rfl, B14.out⟩

set_option maxRecDepth 100000 in
theorem fnExactNewArchive_lifted (os : Os) (started : os.Started) (H : Type) (enc : TypeId × Value → H) :
    ReturnsInHanded {} Try.checked os 3 .any (Rows.fnExactNewArchiveSpec.pre6 enc Try.prog Try.f3 Rows.fnExactNewArchiveRow.domain false) (Rows.fnExactNewArchiveSpec.post enc Try.prog Try.f3 false true false false) := by
  refine returnsInHanded_of_change (C := Try.checked) frame_own started (by kernel_rfl) Try.func3
    (ChangeSpec.witness6 (enc := enc) (C := Try.checked) false ⟨#[], #[.agg #[.int .i64 0, .int .i64 0, .int .i64 0, .int .i64 0, .int .i64 0, .int .i64 0, .int .i64 0, .int .i64 0, .int .i64 0]], []⟩ 8 (by kernel_rfl) (by kernel_rfl) (by kernel_rfl) (by kernel_rfl)) ?_
  intro W base args ds gs before hval0 hW hcnd _
  have hval : ∀ (j : Nat) t v, Try.f3.params[j]? = some t → args[j]? = some v → Value.okWide Try.prog W .any base t v := hval0
  have hW' := hW
  obtain ⟨p, q, hA0, hV, rfl, hfz, hnd⟩ := hW
  have hA : DataW.TrodAll enc Try.prog W 0 (fun _ => true) true Try.f3.params.toList args.toList ds p := hA0
  rw [Try.params3] at hA hval
  obtain ⟨v0, vs0, d0, ds0, p0, q0, hargs, rfl, rfl, h0, r0⟩ := trodAll_cons hA
  obtain ⟨rfl, rfl, rfl⟩ := trodAll_nil r0
  obtain rfl : args = #[v0] := by cases args; simp_all
  obtain ⟨rfl, rfl⟩ := trodVars_none hV
  have k0 := h0
  have lt0 : ∀ x ∈ p0, x.block < W.heap.size := by obtain ⟨m, hm⟩ := k0; exact DataW.trod_lt m _ _ _ hm
  obtain ⟨s0, rfl, hs0⟩ := shape_of_trod Try.underlying23 Try.underlying2 (by kernel_rfl) (by kernel_rfl) (fun i hi => by
    match i, hi with
    | 0, _ => exact ⟨_, rfl, rfl, rfl⟩
    | 1, _ => exact ⟨_, rfl, rfl, rfl⟩
    | 2, _ => exact ⟨_, rfl, rfl, rfl⟩
    | 3, _ => exact ⟨_, rfl, rfl, rfl⟩
    | 4, _ => exact ⟨_, rfl, rfl, rfl⟩
    | 5, _ => exact ⟨_, rfl, rfl, rfl⟩
    | 6, _ => exact ⟨_, rfl, rfl, rfl⟩
    | 7, _ => exact ⟨_, rfl, rfl, rfl⟩
    | 8, _ => exact ⟨_, rfl, rfl, rfl⟩) (hval 0 23 v0 rfl rfl) h0
  clear hA0 hval0
  refine (fnExactNewArchive_walk s0 W hs0).mono fun e W' ⟨he, bel⟩ => ?_
  subst he
  exact ⟨_, rfl, _, _, _, [], _, [], hW', trodAll_mk1 (shut_bool Try.underlying4 _), (trodAll_cons_mk (Below.trod frame_laid (by kernel_rfl) (of_decide_eq_true (by kernel_rfl)) k0 bel lt0) trodAll_mk0), rfl, bel.frame _, fun h => by cases h⟩

theorem fnExactNewArchive_proved : Rows.FnExactNewArchiveSaid :=
  OpenClaim.holds_of_wide 3 Try.f3 rfl rfl rfl rfl rfl rfl rfl ⟨rfl, rfl, rfl, rfl, rfl⟩ rfl rfl rfl rfl rfl (by kernel_rfl) Try.func3 (by kernel_rfl)
    (of_decide_eq_true (by kernel_rfl)) (by unfold Func.isWrapper; first | (rw [if_pos (by decide +kernel)]; kernel_rfl) | (rw [if_neg (by decide +kernel)]; exact ⟨rfl, rfl⟩))
    (fun os started H enc _ => fnExactNewArchive_lifted os started H enc)
#print axioms fnExactNewArchive_proved
end Go.Proofs.Ytcepcjkfdonclaa
