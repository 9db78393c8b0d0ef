/- Walk of the law FnSolves. -/
import Derived.Test.YteelhafnkkfcbaaWDraw4
import Derived.Test.YteelhafnkkfcbaaWSolveT
import Derived.Test.YteelhafnkkfcbaaGaussS
namespace Go.Proofs.Yteelhafnkkfcbaa
open Go.RowKit F256
set_option linter.unusedVariables false

/-- what a system with its answer says of the rows' rank -/
theorem solve_rank {R : Nat} {n : Nat → Nat} {f : Mat} {c : Nat → Nat} {cr xr : Int} (h1 : R ≤ 16) (h2 : R ≠ 0) (h3 : ∀ i, i < R → n i = R) (h : RankAns R n f cr xr) : cr = 0 ∧ xr = ((gaussM R (aug R f c) R).2 : Int) := by
  have e0 : n 0 = R := h3 0 (by omega)
  have hs : Same R f (aug R f c) := fun i j hj => by simp [aug, hj]
  have hg := (gaussM_same (R := R) hs R (Nat.le_refl _)).2
  rcases h with ⟨_, _, h | ⟨i, hi, h⟩⟩ | ⟨_, _, _, _, i, hi, h⟩ | ⟨hc, _, _, _, hx⟩
  · omega
  · have := h3 i hi
    omega
  · have := h3 i hi
    omega
  · refine ⟨hc, ?_⟩
    rw [hx, if_neg h2, e0, hg]

theorem fieldI1 (a b : Int) (w : World) : (Instr.field 30 (.agg #[.int .i64 a, .int .i64 b]) 1).run Try.prog w = .ok (.int .i64 b) w := by kernel_rfl
theorem fieldB0 (a : Int) (v : Value) (w : World) : (Instr.field 36 (.agg #[.int .i64 a, v]) 0).run Try.prog w = .ok (.int .i64 a) w := by kernel_rfl

set_option maxHeartbeats 8000000 in
theorem fnSolves_core (v : Value) (n0 : Nat) (f0 : Nat → Nat) (k0 : ∀ i, f0 i < 256) (w : World) (r0 : Rd w w.heap.size v n0 f0) :
    Calls Try.prog 4 #[v] w fun e w' => e = .returned (.bool true) ∧ Below w.heap.size w w' := by
  by_cases hbig : 1048576 < n0
  · go_enter Try.func4, Try.ntmps4
    go_wp2_with fail
    refine (lwBig_yes _ n0 f0 _ _ r0 hbig).mono ?_
    rintro e w1 ⟨rfl, hw1⟩
    obtain rfl := hw1.symm
    go_wp2
    go_ret
    exact ⟨rfl, Below.refl _ _⟩
  go_enter Try.func4, Try.ntmps4
  go_wp2_with fail
  refine (lwBig_no _ n0 f0 _ _ r0 (by omega)).mono ?_
  rintro e w1 ⟨rfl, hw1⟩
  obtain rfl := hw1.symm
  go_wp2_with fail
  refine (drawSolve_any _ n0 f0 _ r0 k0 (by omega)).mono ?_
  rintro e w1 ⟨vr, vc, R, nn, ff, m, c, rfl, or, oc, kff, kc, hR, hm, b1⟩
  clear r0 k0
  have HR : Hid (OwnM w1 w.heap.size w1.heap.size vr R nn ff) := or
  obtain ⟨gr, capr, er, hE⟩ := or
  have hv := hE.val
  subst hv
  obtain ⟨aoc, capc, rfl⟩ := oc.slice
  have HC : Hid (Own w1 w.heap.size w1.heap.size (.slice aoc m capc) m c) := oc
  have HF : Hid (Byt ff) := kff
  have HK : Hid (∀ i, c i < 256) := kc
  have HE : Hid (OwnE w1 w.heap.size w1.heap.size (.slice (some ⟨gr, 0, none⟩) R capr) R nn ff gr capr er) := hE
  have CS := implSolve_any _ _ R m nn ff c _ _ _ _ w1 HR.out oc (Nat.le_refl _) (Nat.le_refl _) kff kc
  clear oc kff kc hE
  go_wp2_with fail
  refine CS.mono ?_
  rintro e w2 ⟨x, vb, rfl, hans, ob, b2⟩
  clear CS
  have HA : Hid (SolveAns R m nn ff c x) := hans
  obtain ⟨nb, hnb⟩ : ∃ nb, nb = (if x = 0 then R else 0) := ⟨_, rfl⟩
  obtain ⟨gb, hgb⟩ : ∃ gb, gb = (if x = 0 then (fun i => (gaussM R (aug R ff c) R).1 i R) else fun _ => 0) := ⟨_, rfl⟩
  rw [← hnb, ← hgb] at ob
  obtain ⟨aob, capb, rfl⟩ := ob.slice
  have HO : Hid (Own w2 w1.heap.size w2.heap.size (.slice aob nb capb) nb gb) := ob
  have HNB : Hid (nb = (if x = 0 then R else 0)) := hnb
  have HGB : Hid (gb = (if x = 0 then (fun i => (gaussM R (aug R ff c) R).1 i R) else fun _ => 0)) := hgb
  have HB2 : Hid (Below w1.heap.size w1 w2) := b2
  have HB1 : Hid (Below w.heap.size w w1) := b1
  have s1 := b1.size
  have s2 := b2.size
  clear hans ob hnb hgb b1 b2
  unfold bytesR
  by_cases hx : x = 0
  · subst hx
    have hfacts : R ≤ 16 ∧ R ≠ 0 ∧ m = R ∧ (∀ i, i < R → nn i = R) ∧ (gaussM R (aug R ff c) R).2 = R := by
      rcases HA.out with ⟨h, _⟩ | ⟨h, _⟩ | ⟨h1, h2, h3, h4, ⟨h, _⟩ | ⟨_, h5⟩⟩
      · omega
      · omega
      · omega
      · exact ⟨h1, h2, h3, h4, h5⟩
    obtain ⟨hR16, hR0, hmR, hnn, hfull⟩ := hfacts
    subst hmR
    have hnb : nb = m := by rw [HNB.out]; simp
    have hgb : gb = fun i => (gaussM m (aug m ff c) m).1 i m := by rw [HGB.out]; simp
    subst hnb
    have hsol : ∀ i, i < nb → dotN (ff i) gb nb = c i := fun i hi => by
      have h1 := gaussM_solves (aug_byt HF.out HK.out) hfull i hi
      rw [← hgb] at h1
      rw [dotN_congr (s := aug nb ff c i) (fun j hj => by simp [aug, hj]), h1]
      simp [aug]
    have HSOL : Hid (∀ i, i < nb → dotN (ff i) gb nb = c i) := hsol
    have HGL : Hid (∀ i, gb i < 256) := fun i => by rw [hgb]; exact gaussM_byt (aug_byt HF.out HK.out) nb i nb
    have HNN : Hid (∀ i, i < nb → nn i = nb) := hnn
    have HFULL : Hid ((gaussM nb (aug nb ff c) nb).2 = nb) := hfull
    obtain ⟨g5, cap5, h5v, h51, h52, h53, h54⟩ := HO.out.form hR0
    simp only [Value.slice.injEq] at h5v
    obtain ⟨rfl, _, rfl⟩ := h5v
    obtain ⟨gc, capc', hcv, hc1, hc2, hc3, hc4⟩ := HC.out.form hR0
    simp only [Value.slice.injEq] at hcv
    obtain ⟨rfl, _, rfl⟩ := hcv
    obtain ⟨w3, hw3⟩ : ∃ w3, w3 = w2.alloc (.cells #[.int .i64 0, .slice (some ⟨g5, 0, none⟩) nb capb] 36) := ⟨_, rfl⟩
    have b3 : Below w2.heap.size w2 w3 := by rw [hw3]; exact (Below.refl _ _).alloc (Nat.le_refl _) _
    have x3 : Box w3 w2.heap.size #[.int .i64 0, .slice (some ⟨g5, 0, none⟩) nb capb] 36 := by rw [hw3]; exact box_new _ _ _
    have s3 : w2.heap.size < w3.heap.size := by rw [hw3]; simp
    have HB3 : Hid (Below w2.heap.size w2 w3) := b3
    have HX3 : Hid (Box w3 w2.heap.size #[.int .i64 0, .slice (some ⟨g5, 0, none⟩) nb capb] 36) := x3
    have hgr := HE.out.high
    clear hsol hgb hfull hnn b3 x3 HNB HGB HA
    have hne0 : ((nb : Int) != (nb : Int)) = false := by simp
    go_wp2
    rw [← hw3]
    clear hw3
    go_loopw [6] (fun i wr => ∃ p : Nat, p ≤ nb ∧ i = .int .i64 p ∧ Below w3.heap.size w3 wr) (fun i _ => nb - (intOf i).toNat)
    case atStart => exact ⟨0, Nat.zero_le _, rfl, Below.refl _ _⟩
    case round =>
      obtain ⟨p, hp, rfl, hb⟩ := hrel
      have HBR : Hid (Below w3.heap.size w3 wr) := hb
      have hszr := hb.size
      have X4 : Box wr w2.heap.size #[.int .i64 0, .slice (some ⟨g5, 0, none⟩) nb capb] 36 := HX3.out.below hb s3
      obtain ⟨x0, x1, -, -⟩ := res_cells X4
      clear hb X4
      by_cases hlt : p < nb
      · clear x0 x1
        go_wp2
        go_loopw [7, 8] (fun s k wi => ∃ q : Nat, q ≤ nb ∧ k = .int .i64 q ∧ s = .int .u8 (dotN (ff p) gb q) ∧ Below w3.heap.size w3 wi) (fun _ k _ => nb - (intOf k).toNat)
        case atStart => exact ⟨0, Nat.zero_le _, rfl, rfl, HBR.out⟩
        case round =>
          obtain ⟨q, hq, rfl, hs, hb⟩ := hrel
          obtain ⟨d, hd⟩ : ∃ d, d = dotN (ff p) gb q := ⟨_, rfl⟩
          rw [← hd] at hs
          subst hs
          have HD : Hid (d = dotN (ff p) gb q) := hd
          have B13 : Below w1.heap.size w1 wr := HB2.out.trans ((HB3.out.mono s2).trans (hb.mono (by omega)))
          have HBI : Hid (Below w3.heap.size w3 wr) := hb
          have hdl : d < 256 := by rw [hd]; exact dotN_lt (HF.out p) q
          by_cases hqk : q < nb
          · have cr : wr.cell? ⟨gr, p, none⟩ = some (er p) := (B13.cell (p := ⟨gr, p, none⟩) hgr).trans (HE.out.cell p hlt)
            obtain ⟨gp, capp, hep, hp1, hp2, hp3, hp4⟩ := (HE.out.each p hlt).form (by rw [HNN.out p hlt]; exact hR0)
            have op := (HE.out.each p hlt).1
            rw [hep, HNN.out p hlt] at op
            rw [HNN.out p hlt] at hep hp4
            have cp : wr.cell? ⟨gp, q, none⟩ = some (.int .u8 (ff p q)) := (B13.cell (p := ⟨gp, q, none⟩) hp2).trans ((op.cellAt q (by omega)).trans (cellsOf_get _ _ _ hqk))
            rw [hep] at cr
            obtain ⟨x0, x1, -, -⟩ := res_cells (HX3.out.below hb s3)
            have c5 : wr.cell? ⟨g5, q, none⟩ = some (.int .u8 (gb q)) := (((HB3.out.mono (Nat.le_refl _)).trans (hb.mono (by omega))).cell (p := ⟨g5, q, none⟩) h52).trans ((HO.out.1.cellAt q (by omega)).trans (cellsOf_get _ _ _ hqk))
            have ha := HF.out p q
            have hb2 := HGL.out q
            have hx : bits .xor .u8 (d : Int) (mulN (ff p q) (gb q) : Nat) = ((dotN (ff p) gb (q + 1) : Nat) : Int) := by
              rw [u8_xor_nat _ _ hdl (mulN_lt ha), hd]
              rfl
            have CM := fun w => implMul_any (ff p q) (gb q) ha hb2 w
            obtain ⟨a1, ha1⟩ : ∃ a1, a1 = ff p q := ⟨_, rfl⟩
            obtain ⟨a2, ha2⟩ : ∃ a2, a2 = gb q := ⟨_, rfl⟩
            obtain ⟨a3, ha3⟩ : ∃ a3, a3 = mulN (ff p q) (gb q) := ⟨_, rfl⟩
            obtain ⟨d2, hd2⟩ : ∃ d2, d2 = dotN (ff p) gb (q + 1) := ⟨_, rfl⟩
            rw [← ha3, ← hd2] at hx
            rw [← ha1] at cp
            rw [← ha2] at c5
            have CM2 : ∀ w, Calls Try.prog 8 #[.int .u8 a1, .int .u8 a2] w fun e w' => e = .returned (.int .u8 a3) ∧ Below w.heap.size w w' := fun w => by rw [ha1, ha2, ha3]; exact CM w
            have HD2 : Hid (d2 = dotN (ff p) gb (q + 1)) := hd2
            clear hb B13 hd ha hb2 CM op hep ha1 ha2 ha3 hd2
            go_wp2
            go_region_with (go_at_call 8; refine (CM2 _).mono ?_; rintro e w5 ⟨rfl, b5⟩)
            all_goals
              have R5 : Below w3.heap.size w3 w5 := HBI.out.trans ((undrewN' b5).mono HBI.out.size)
              clear b5 cr cp c5 x0 x1 CM2
              go_wp2
              go_roundw
              case rel => exact ⟨q + 1, by omega, by go_num, by rw [← HD2.out], R5⟩
              case measure => simp [intOf]; omega
          · obtain rfl : q = nb := by omega
            have cc : wr.cell? ⟨gc, p, none⟩ = some (.int .u8 (c p)) := (B13.cell (p := ⟨gc, p, none⟩) hc2).trans ((HC.out.1.cellAt p (by omega)).trans (cellsOf_get _ _ _ hlt))
            have hdc : d = c p := by rw [hd]; exact HSOL.out p hlt
            rw [← hdc] at cc
            clear B13 hd hdc hb
            go_wp2
            go_roundw
            case rel => exact ⟨p + 1, by omega, by go_num, HBI.out⟩
            case measure => simp [intOf]; omega
      · obtain rfl : p = nb := by omega
        have B13 : Below w1.heap.size w1 wr := HB2.out.trans ((HB3.out.mono s2).trans (HBR.out.mono (by omega)))
        have CR := implRank_any _ p nn ff w1.heap.size wr (HR.out.rd.below B13 (Nat.le_refl _)) B13.size HF.out
        clear B13
        go_wp2_with fail
        refine CR.mono ?_
        rintro e w5 ⟨cR, xR, rfl, haR, b5⟩
        obtain ⟨rfl, hxr⟩ := solve_rank (c := c) hR16 hR0 HNN.out haR
        rw [HFULL.out] at hxr
        subst hxr
        unfold intR
        have B5 : Below w.heap.size w w5 := HB1.out.trans (((HB2.out.mono s1).trans (HB3.out.mono (by omega))).trans ((HBR.out.mono (by omega)).trans (b5.mono (by omega))))
        clear haR b5 CR x0 x1
        have hfd := fieldI1 0 p
        go_wp2
        go_ret
        exact ⟨rfl, B5⟩
  · have hcases : x = 2 ∨ x = 1 ∨ (x = 4 ∧ R ≤ 16 ∧ R ≠ 0 ∧ (∀ i, i < R → nn i = R) ∧ (gaussM R (aug R ff c) R).2 < R) := by
      rcases HA.out with ⟨h, _⟩ | ⟨h, _⟩ | ⟨h1, h2, h3, h4, ⟨h, h5⟩ | ⟨h, h5⟩⟩
      · exact .inl h
      · exact .inr (.inl h)
      · exact .inr (.inr ⟨h, h1, h2, h4, h5⟩)
      · exact absurd h hx
    have CSp := fun (w3 : World) (b3 : Below w2.heap.size w2 w3) => specSolve_any _ _ R m nn ff c _ _ _ _ w3 ((HR.out.below HB2.out (Nat.le_refl _)).below b3 s2) ((HC.out.below HB2.out (Nat.le_refl _)).below b3 s2) (Nat.le_trans s2 b3.size) (Nat.le_trans s2 b3.size) HF.out HK.out
    have HCS : Hid (∀ (w3 : World), Below w2.heap.size w2 w3 → Calls Try.prog 13 #[.slice (some ⟨gr, 0, none⟩) R capr, .slice aoc m capc] w3 fun ee w' => ∃ x v', ee = .returned (bytesR x v') ∧ SolveAns R m nn ff c x ∧ Own w' w3.heap.size w'.heap.size v' (if x = 0 then R else 0) (if x = 0 then (fun i => (gaussM R (aug R ff c) R).1 i R) else fun _ => 0) ∧ Below w3.heap.size w3 w') := CSp
    clear CSp HNB HGB HO
    rcases hcases with rfl | rfl | ⟨rfl, h1, h2, h3, h4⟩
    · have hfd := fieldB0 2
      go_wp2
      first | go_region_with (go_at_call 13; refine (HCS.out _ ?_).mono ?_; exact below_drewN ((Below.refl _ _).alloc (Nat.le_refl _) _) _; rintro e w4 ⟨x', vb', rfl, ha', ob', b4⟩; obtain rfl := ha'.one HA.out; obtain ⟨ao', cap', rfl⟩ := ob'.slice; unfold bytesR; have b4' : Below w2.heap.size w2 w4 := ((Below.refl w2.heap.size w2).alloc (Nat.le_refl _) _).trans ((undrewN' b4).mono (by simp)); obtain ⟨q0, -, -, -⟩ := res_cells ((box_new w2 #[.int .i64 2, .slice aob nb capb] 36).below (undrewN' b4) (by simp))) | fail
      all_goals
        have B4 : Below w.heap.size w w4 := HB1.out.trans ((HB2.out.mono s1).trans (b4'.mono (by omega)))
        clear b4 b4' q0 ob' ha'
        go_wp2
        go_ret
        exact ⟨rfl, B4⟩
    · have hfd := fieldB0 1
      go_wp2
      first | go_region_with (go_at_call 13; refine (HCS.out _ ?_).mono ?_; exact below_drewN ((Below.refl _ _).alloc (Nat.le_refl _) _) _; rintro e w4 ⟨x', vb', rfl, ha', ob', b4⟩; obtain rfl := ha'.one HA.out; obtain ⟨ao', cap', rfl⟩ := ob'.slice; unfold bytesR; have b4' : Below w2.heap.size w2 w4 := ((Below.refl w2.heap.size w2).alloc (Nat.le_refl _) _).trans ((undrewN' b4).mono (by simp)); obtain ⟨q0, -, -, -⟩ := res_cells ((box_new w2 #[.int .i64 1, .slice aob nb capb] 36).below (undrewN' b4) (by simp))) | fail
      all_goals
        have B4 : Below w.heap.size w w4 := HB1.out.trans ((HB2.out.mono s1).trans (b4'.mono (by omega)))
        clear b4 b4' q0 ob' ha'
        go_wp2
        go_ret
        exact ⟨rfl, B4⟩
    · have hfd := fieldB0 4
      obtain ⟨rk, hrk⟩ : ∃ rk, rk = (gaussM R (aug R ff c) R).2 := ⟨_, rfl⟩
      rw [← hrk] at h4
      have HRK : Hid (rk = (gaussM R (aug R ff c) R).2) := hrk
      have H3 : Hid (∀ i, i < R → nn i = R) := h3
      have hfI := fieldI1 0 rk
      have HRD : Hid (∀ w4 : World, Below w2.heap.size w2 w4 → RdM w4 w1.heap.size (.slice (some ⟨gr, 0, none⟩) R capr) R nn ff) := fun w4 b => (HR.out.rd.below HB2.out (Nat.le_refl _)).below b s2
      have hlt : ((rk : Int) < (R : Int)) := by omega
      clear hrk h3
      go_wp2
      first | go_region_with (first | (go_at_call 13; refine (HCS.out _ ?_).mono ?_; exact below_drewN ((Below.refl _ _).alloc (Nat.le_refl _) _) _; rintro e w4 ⟨x', vb', rfl, ha', ob', b4⟩; obtain rfl := ha'.one HA.out; obtain ⟨ao', cap', rfl⟩ := ob'.slice; unfold bytesR; have b4' : Below w2.heap.size w2 w4 := ((Below.refl w2.heap.size w2).alloc (Nat.le_refl _) _).trans ((undrewN' b4).mono (by simp)); obtain ⟨q0, -, -, -⟩ := res_cells ((box_new w2 #[.int .i64 4, .slice aob nb capb] 36).below (undrewN' b4) (by simp))) | (go_at_call 14; refine (implRank_any _ R nn ff w1.heap.size _ ?_ ?_ HF.out).mono ?_; exact HRD.out w4 b4'; exact Nat.le_trans s2 b4'.size; rintro e w5 ⟨cR, xR, rfl, haR, b5⟩; obtain ⟨rfl, hxr⟩ := solve_rank (c := c) h1 h2 H3.out haR; rw [← HRK.out] at hxr; subst hxr; unfold intR)) | fail
      all_goals
        have B4 : Below w.heap.size w w4 := HB1.out.trans ((HB2.out.mono s1).trans (b4'.mono (by omega)))
        have b6 : Below w4.heap.size w4 w5 := by first | exact b5 | exact undrewN' b5
        have B5 : Below w.heap.size w w5 := B4.trans (b6.mono B4.size)
        clear b4 q0 ob' ha' b5 b6 B4
        go_wp2
        go_ret
        exact ⟨rfl, B5⟩
end Go.Proofs.Yteelhafnkkfcbaa
