/- Walk of the program's elimination: reduceRows. -/
import Derived.Test.YtoadjpacchhleahWReduce
import Derived.Test.YtoadjpacchhleahWPow
import Derived.BigRegion
namespace Go.Proofs.Ytoadjpacchhleah
open Go.RowKit F256
set_option linter.unusedVariables false
set_option linter.unusedSimpArgs false

theorem undrewN' {B : Nat} {w w2 : World} {m : Nat} (h : Below B (w.drewN m) w2) : Below B w w2 := ⟨h.os, h.tape, h.output, h.size, h.block⟩

set_option maxHeartbeats 4000000 in
theorem reduceRows_any (v : Value) (R C n : Nat) (M : Mat) (lo : Nat) (g cap : Nat) (e : Nat → Value) (hn : n ≤ C) (hR : R ≤ 1000000) (hC : C ≤ 1000000) (kM : Byt M) (w : World) (h : OwnE w lo w.heap.size v R (fun _ => C) M g cap e) :
    Calls Try.prog 45 #[v, .int .i64 n] w fun ee w' => ee = .returned (.int .i64 ((gaussM R M n).2)) ∧ (∃ e', OwnE w' lo w'.heap.size v R (fun _ => C) (gaussM R M n).1 g cap e') ∧ Below lo w w' := by
  obtain rfl := h.val
  go_enter Try.func45, Try.ntmps45
  go_wp2
  go_loopw [5, 6, 7, 9] (fun d _ _ i wr => ∃ k : Nat, k ≤ n ∧ i = .int .i64 k ∧ d = .int .i64 ((gaussM R M k).2) ∧ (∃ e', OwnE wr lo wr.heap.size (.slice (some ⟨g, 0, none⟩) R cap) R (fun _ => C) (gaussM R M k).1 g cap e') ∧ Below lo w wr) (fun _ _ _ i _ => n - (intOf i).toNat)
  case atStart => exact ⟨0, Nat.zero_le _, rfl, rfl, ⟨e, h⟩, Below.refl _ _⟩
  case round =>
    clear h e
    obtain ⟨k, hk, rfl, rfl, ⟨e, hE⟩, hbel⟩ := hrel
    have hle := gaussM_le (R := R) (M := M) k
    have kB := gaussM_byt (R := R) kM k
    have hstep : gaussM R M (k + 1) = stepM R (gaussM R M k) k := rfl
    obtain ⟨S, hS⟩ : ∃ S, S = gaussM R M k := ⟨_, rfl⟩
    rw [← hS] at hle kB hstep hE
    by_cases hlt : k < n
    · have L := firstLeading_any _ R C S.1 _ S.2 k hle.1 (by omega) hR hC wr hE.rd
      have HS : Hid (S = gaussM R M k) := hS
      have HST : Hid (gaussM R M (k + 1) = stepM R S k) := hstep
      rw [← hS]
      clear hS hstep
      obtain ⟨r, hr⟩ : ∃ r, r = S.2 := ⟨_, rfl⟩
      obtain ⟨a, hal⟩ : ∃ a, a = lead S.1 k R S.2 := ⟨_, rfl⟩
      have hlead := lead_is S.1 k R S.2 hle.1
      rw [← hal] at hlead L
      rw [← hr] at hle hlead L ⊢
      have HR : Hid (r = S.2) := hr
      have HA : Hid (a = lead S.1 k R S.2) := hal
      clear hr hal
      go_wp2_with fail
      refine L.mono ?_
      rintro ee wx ⟨rfl, hwx⟩
      obtain rfl := hwx.symm
      clear L
      have ha := hlead.2.1
      have hra := hlead.1
      by_cases haR : a = R
      · have N0 : gaussM R M (k + 1) = S := by
          rw [HST.out]
          unfold stepM
          rw [if_pos (by rw [← HA.out]; exact haR)]
        have N : Hid (gaussM R M (k + 1) = S) := N0
        clear N0
        subst haR
        clear hlead
        go_wp2
        go_roundw
        case rel => exact ⟨k + 1, by omega, by go_num, val_eq (by rw [N.out, HR.out]), ⟨e, by rw [N.out]; exact hE⟩, hbel⟩
        case measure => simp [intOf]; omega
      · have haR' : a < R := by omega
        have hrR : r < R := by omega
        have t1 : ((a : Int) == (R : Int)) = false := by simp; omega
        have ca := hE.cell a haR'
        have cr := hE.cell r hrR
        have fa := hE.frozen a
        have fr := hE.frozen r
        have hsw := hE.swap r a hrR haR' (Nat.le_refl _)
        have oa := hE.each a haR'
        have or := hE.each r hrR
        obtain ⟨ga, capa, hea, _, _, _, _⟩ := oa.form (by omega)
        obtain ⟨gr, capr, her, _, _, _, _⟩ := or.form (by omega)
        obtain ⟨ea, hea'⟩ : ∃ x, x = e a := ⟨_, rfl⟩
        obtain ⟨er, her'⟩ : ∃ x, x = e r := ⟨_, rfl⟩
        rw [← hea'] at ca hea hsw
        rw [← her'] at cr her hsw
        have HSW : Hid (OwnE ((wr.setCell ⟨g, r, none⟩ ea).setCell ⟨g, a, none⟩ er) lo wr.heap.size (.slice (some ⟨g, 0, none⟩) R cap) R (fun _ => C) (swapM S.1 r a) g cap (fun j => if j = r then ea else if j = a then er else e j)) := hsw
        clear hsw hE oa or hea' her'
        subst hea her
        obtain ⟨va, hva⟩ := cell?_setCell_some (w := wr) (p := ⟨g, r, none⟩) (x := .slice (some ⟨ga, 0, none⟩) C capa) (q := ⟨g, a, none⟩) ca
        go_wp2
        go_region
        have hE1 := HSW.out.drewN 1
        have hb1 : Below lo w (((wr.setCell ⟨g, r, none⟩ (.slice (some ⟨ga, 0, none⟩) C capa)).setCell ⟨g, a, none⟩ (.slice (some ⟨gr, 0, none⟩) C capr)).drewN 1) := below_drewN ((hbel.setCell hE1.low _).setCell hE1.low _) 1
        have hz1 : wr.heap.size = (((wr.setCell ⟨g, r, none⟩ (.slice (some ⟨ga, 0, none⟩) C capa)).setCell ⟨g, a, none⟩ (.slice (some ⟨gr, 0, none⟩) C capr)).drewN 1).heap.size := by simp
        rw [hz1] at hE1
        have kB1 : Byt (swapM S.1 r a) := swapM_byt kB r a
        rw [World.drew_is_drewN]
        clear HSW hbel hz1 ca cr fa fr hva kB
        generalize ((wr.setCell ⟨g, r, none⟩ (.slice (some ⟨ga, 0, none⟩) C capa)).setCell ⟨g, a, none⟩ (.slice (some ⟨gr, 0, none⟩) C capr)).drewN 1 = wq at hE1 hb1 ⊢
        generalize (fun j => if j = r then Value.slice (some ⟨ga, 0, none⟩) C capa else if j = a then Value.slice (some ⟨gr, 0, none⟩) C capr else e j) = e1 at hE1
        obtain ⟨M1, hM1⟩ : ∃ M1, M1 = swapM S.1 r a := ⟨_, rfl⟩
        have HM1 : Hid (M1 = swapM S.1 r a) := hM1
        rw [← hM1] at hE1 kB1
        clear hM1
        have c1 := hE1.cell r hrR
        have o1 := hE1.each r hrR
        obtain ⟨gq, capq, heq, hq1, hq2, hq3, _⟩ := o1.form (by omega)
        have hcc : wq.cell? ⟨gq, k, none⟩ = some (.int .u8 (M1 r k)) := by
          have := o1.1
          rw [heq] at this
          rw [this.cellAt k (by omega), cellsOf_get _ _ _ (by omega)]
        have hy := kB1 r k
        have fz := hE1.frozen r
        have hgl := hE1.high
        obtain ⟨y, hyd⟩ : ∃ y, y = M1 r k := ⟨_, rfl⟩
        have HY : Hid (y = M1 r k) := hyd
        rw [← hyd] at hcc hy
        have I := implInv_any y hy (wq.drewN 1)
        have SC : ∀ w2, Below wq.heap.size wq w2 → Calls Try.prog 66 #[e1 r, .int .u8 (powN y 254)] w2 fun e w' => ∃ v', e = .returned v' ∧ Own w' w2.heap.size w'.heap.size v' C (fun j => mulN (powN y 254) (M1 r j)) ∧ Below w2.heap.size w2 w' := fun w2 hb2 =>
          scaled_any (e1 r) C (M1 r) (fun j => mulN (powN y 254) (M1 r j)) (powN y 254) wq.heap.size w2 (o1.rd.below hb2 (Nat.le_refl _)) hb2.size (kB1 r) (powN_lt _) (fun _ _ => rfl) (by omega)
        obtain ⟨er1, her1⟩ : ∃ x, x = e1 r := ⟨_, rfl⟩
        rw [← her1] at c1 SC heq
        have HO : Hid (OwnE wq lo wq.heap.size (.slice (some ⟨g, 0, none⟩) R cap) R (fun _ => C) M1 g cap e1) := hE1
        clear hyd her1 o1 hE1 hlead
        subst heq
        go_wp2
        go_region_with (first | (go_at_call 42; refine I.mono ?_; rintro ee w2 ⟨rfl, hb2⟩; have q0 : w2.cell? ⟨g, r, none⟩ = some (.slice (some ⟨gq, 0, none⟩) C capq) := ((undrewN' hb2).cell (p := ⟨g, r, none⟩) hgl).trans c1) | (go_at_call 66; refine (SC _ (undrewN' hb2)).mono ?_; rintro ee w3 ⟨v3, rfl, ho3, hb3⟩; obtain ⟨ao3, cap3, rfl⟩ := ho3.slice; have q1 : w3.cell? ⟨g, r, none⟩ = some (.slice (some ⟨gq, 0, none⟩) C capq) := ((bthen (w := wq) (undrewN' hb2) hb3).cell (p := ⟨g, r, none⟩) hgl).trans c1; have q2 : w3.frozen? ⟨g, r, none⟩ = false := ((bthen (w := wq) (undrewN' hb2) hb3).frozen (p := ⟨g, r, none⟩) hgl).trans fz))
        all_goals
          have hb23 : Below wq.heap.size wq w3 := bthen (w := wq) (undrewN' hb2) hb3
          have hsr : scaleM M1 r k r = fun j => mulN (powN y 254) (M1 r j) := by simp only [scaleM, if_pos, HY.out]
          have ho4 : Own w3 wq.heap.size w3.heap.size (.slice ao3 C cap3) C (scaleM M1 r k r) := by rw [hsr]; exact ho3.weaken (by have := (undrewN' hb2).size; omega) (Nat.le_refl _)
          have E4 := HO.out.put r hrR hb23 (Nat.le_refl _) ho4 (fun j hj hne => by simp only [scaleM, if_neg hne])
          have B4 : Below lo w (w3.setCell ⟨g, r, none⟩ (.slice ao3 C cap3)) := (hb1.trans (hb23.mono (by have := HO.out.low; have := HO.out.high; omega))).setCell HO.out.low _
          have Z4 : w3.heap.size = (w3.setCell ⟨g, r, none⟩ (.slice ao3 C cap3)).heap.size := by simp
          rw [Z4] at E4
          have kB4 : Byt (scaleM M1 r k) := scaleM_byt kB1 r k
          clear hb23 hsr ho4 ho3 hb2 hb3 q0 q1 q2 Z4 HO c1 hcc fz I SC hgl hq1 hq2 hq3
          generalize w3.setCell ⟨g, r, none⟩ (.slice ao3 C cap3) = w4 at E4 B4 ⊢
          generalize (fun j => if j = r then Value.slice ao3 C cap3 else e1 j) = e4 at E4
          have CC := clearColumn_any _ R C (scaleM M1 r k) lo w4.heap.size r k g cap e4 hrR (by omega) hR hC kB4 w4 E4 (Nat.le_refl _)
          go_wp2_with fail
          refine CC.mono ?_
          rintro ee w5 ⟨rfl, E5, C5⟩
          have hlo : lo ≤ w4.heap.size := by have := E4.low; have := E4.high; omega
          have E6 := E5.weaken C5.size
          have B6 : Below lo w w5 := B4.trans (C5.below (Nat.le_refl _) hlo)
          have N0 : gaussM R M (k + 1) = (clearM (scaleM M1 r k) r k R, r + 1) := by
            rw [HST.out]
            unfold stepM
            rw [if_neg (by rw [← HA.out]; exact haR), ← HA.out, ← HR.out, ← HM1.out]
          have N : Hid (gaussM R M (k + 1) = (clearM (scaleM M1 r k) r k R, r + 1)) := N0
          clear N0 CC E4 E5 B4 C5 hlo
          go_wp2
          go_roundw
          case rel => exact ⟨k + 1, by omega, by go_num, val_eq (by rw [N.out]; show _ = ((r + 1 : Nat) : Int); omega), ⟨e4, by rw [N.out]; exact E6⟩, B6⟩
          case measure => simp [intOf]; omega
    · have hkn : k = n := by omega
      subst hkn
      rw [hS] at hE
      go_wp2
      go_ret
      exact ⟨rfl, ⟨e, hE⟩, hbel⟩
end Go.Proofs.Ytoadjpacchhleah
