/- Walk of the specification's elimination: l1Step. -/
import Derived.Test.YtoadjpacchhleajOwnM2
import Derived.Test.YtoadjpacchhleajWPow
import Derived.Test.YtoadjpacchhleajWL1Add
import Derived.Test.YtoadjpacchhleajWScale
namespace Go.Proofs.Ytoadjpacchhleaj
open Go.RowKit F256
set_option linter.unusedVariables false
set_option linter.unusedSimpArgs false

theorem undrewN'' {B : Nat} {w w2 : World} {m : Nat} (h : Below B (w.drewN m) w2) : Below B w w2 := ⟨h.os, h.tape, h.output, h.size, h.block⟩

set_option maxRecDepth 20000 in
set_option maxHeartbeats 8000000 in
theorem l1Step_any (v : Value) (R C n : Nat) (M : Mat) (lo : Nat) (g cap : Nat) (e : Nat → Value) (hn : n ≤ C) (hR : R ≤ 1000000) (hC : C ≤ 1000000) (kM : Byt M) (w : World) (h : OwnE w lo w.heap.size v R (fun _ => C) M g cap e) :
    Calls Try.prog 67 #[v, .int .i64 n] w fun ee w' => ee = .returned (.int .i64 ((gaussM R M n).2)) ∧ (∃ e', OwnE w' lo w'.heap.size v R (fun _ => C) (gaussM R M n).1 g cap e') ∧ Below lo w w' := by
  obtain rfl := h.val
  go_enter Try.func67, Try.ntmps67
  go_wp2
  go_loopw [5, 6, 7, 8, 9] (fun d i _ _ _ wr => ∃ k : Nat, k ≤ n ∧ i = .int .i64 k ∧ d = .int .i64 ((gaussM R M k).2) ∧ (∃ e', OwnE wr lo wr.heap.size (.slice (some ⟨g, 0, none⟩) R cap) R (fun _ => C) (gaussM R M k).1 g cap e') ∧ Below lo w wr) (fun _ i _ _ _ _ => n - (intOf i).toNat)
  case atStart => exact ⟨0, Nat.zero_le _, rfl, rfl, ⟨e, h⟩, Below.refl _ _⟩
  case round =>
    clear h e
    obtain ⟨k, hk, rfl, rfl, ⟨e, hE⟩, hbel⟩ := hrel
    have hle := gaussM_le (R := R) (M := M) k
    have kB := gaussM_byt (R := R) kM k
    have hstep : gaussM R M (k + 1) = stepM R (gaussM R M k) k := rfl
    by_cases hlt : k < n
    · by_cases hfull : (gaussM R M k).2 = R
      · have hf : gaussM R M n = gaussM R M k := by have := gaussM_full hfull (n - k); rwa [show k + (n - k) = n by omega] at this
        have HF : Hid (gaussM R M n = gaussM R M k) := hf
        have HU : Hid ((gaussM R M k).2 = R) := hfull
        obtain ⟨r, hr⟩ : ∃ r, r = (gaussM R M k).2 := ⟨_, rfl⟩
        have HR : Hid (r = (gaussM R M k).2) := hr
        have hrR : r = R := by rw [hr]; exact hfull
        rw [← hr]
        subst hrR
        clear hf hfull hstep hr kB hle
        go_wp2
        go_ret
        exact ⟨ret_eq (by rw [HF.out, ← HR.out]), ⟨e, by rw [HF.out]; exact hE⟩, hbel⟩
      · obtain ⟨S, hS⟩ : ∃ S, S = gaussM R M k := ⟨_, rfl⟩
        rw [← hS] at hle kB hstep hE hfull ⊢
        have HS : Hid (S = gaussM R M k) := hS
        have HST : Hid (gaussM R M (k + 1) = stepM R S k) := hstep
        clear hS hstep
        obtain ⟨r, hr⟩ : ∃ r, r = S.2 := ⟨_, rfl⟩
        rw [← hr] at hle hfull ⊢
        have HR : Hid (r = S.2) := hr
        have hrR : r < R := by omega
        clear hr
        go_wp2
        go_loop [7] (fun a => ∃ j : Nat, r ≤ j ∧ j ≤ R ∧ a = .int .i64 j ∧ ∀ i, r ≤ i → i < j → S.1 i k = 0) (fun a => R - (intOf a).toNat)
        case atStart => exact ⟨r, Nat.le_refl _, by omega, rfl, fun i h1 h2 => by omega⟩
        case round =>
          obtain ⟨j, hj1, hj2, rfl, hz⟩ := hrel
          have HZ : Hid (∀ i, r ≤ i → i < j → S.1 i k = 0) := hz
          clear hz
          by_cases hjR : j < R
          · have cj := hE.cell j hjR
            have oj := hE.each j hjR
            obtain ⟨gj, capj, hej, _, _, _, _⟩ := oj.form (by omega)
            have hcc : wr.cell? ⟨gj, k, none⟩ = some (.int .u8 (S.1 j k)) := by
              have := oj.1
              rw [hej] at this
              rw [this.cellAt k (by omega), cellsOf_get _ _ _ (by omega)]
            obtain ⟨y, hy⟩ : ∃ y, y = S.1 j k := ⟨_, rfl⟩
            have HY : Hid (y = S.1 j k) := hy
            have hyl : y < 256 := by rw [hy]; exact kB j k
            rw [← hy] at hcc
            clear hy
            by_cases hy0 : y = 0
            · rw [hej] at cj
              subst hy0
              clear oj hej
              go_wp2
              go_round
              case rel => exact ⟨j + 1, by omega, by omega, by go_num, fun i h1 h2 => by
                            by_cases ej : i = j
                            · rw [ej, ← HY.out]
                            · exact HZ.out i h1 (by omega)⟩
              case measure => simp [intOf]; omega
            · have ty : ((y : Int) == 0) = false := by simp; omega
              have hlead : lead S.1 k R r = j := lead_eq ⟨hj1, by omega, HZ.out, fun _ => by rw [← HY.out]; exact hy0⟩
              have HLE : Hid (lead S.1 k R r = j) := hlead
              have tj : ((j : Int) == (R : Int)) = false := by simp; omega
              have cr := hE.cell r hrR
              have or := hE.each r hrR
              obtain ⟨gr, capr, her, _, _, _, _⟩ := or.form (by omega)
              have fj := hE.frozen j
              have fr := hE.frozen r
              have hgl := hE.high
              have SC : ∀ w2, Below wr.heap.size (wr.setCell ⟨g, j, none⟩ (e r)) w2 → Calls Try.prog 54 #[e j, .int .u8 (powN y 254)] w2 fun e w' => ∃ v', e = .returned v' ∧ Own w' w2.heap.size w'.heap.size v' C (fun q => mulN (powN y 254) (S.1 j q)) ∧ Below w2.heap.size w2 w' := fun w2 hb2 => by
                have hk2 : Own w2 lo wr.heap.size (e j) C (S.1 j) := oj.kept fun q hq => by
                  have hqg : q ≠ g := fun hh => hE.apart.1 j hjR (by rw [hq, hh])
                  rw [hb2.block q (oj.2 q hq)]
                  exact heap_setCell_other wr ⟨g, j, none⟩ q _ hqg
                have hs2 : wr.heap.size ≤ w2.heap.size := by have := hb2.size; simpa using this
                exact l1Scale_any (e j) C (S.1 j) (fun q => mulN (powN y 254) (S.1 j q)) (powN y 254) wr.heap.size w2 hk2.rd hs2 (kB j) (powN_lt _) (fun _ _ => rfl) (by omega)
              have HEE : Hid (OwnE wr lo wr.heap.size (.slice (some ⟨g, 0, none⟩) R cap) R (fun _ => C) S.1 g cap e) := hE
              have I := specInv_any y hyl
              obtain ⟨ej, hej'⟩ : ∃ x, x = e j := ⟨_, rfl⟩
              obtain ⟨er, her'⟩ : ∃ x, x = e r := ⟨_, rfl⟩
              have HEJ : Hid (ej = e j) := hej'
              have HER : Hid (er = e r) := her'
              rw [← hej'] at cj hej SC
              rw [← her'] at cr her SC
              have hgg : gj ≠ g := fun hh => hE.apart.1 j hjR (by rw [← HEJ.out, hej, hh]; rfl)
              clear hej' her' oj or hE hlead
              subst hej her
              have hcc2 : (wr.setCell ⟨g, j, none⟩ (.slice (some ⟨gr, 0, none⟩) C capr)).cell? ⟨gj, k, none⟩ = some (.int .u8 y) := (World.cell?_of_block (w := wr) (heap_setCell_other wr ⟨g, j, none⟩ gj _ hgg)).trans hcc
              go_wp2_with fail
              refine (I _).mono ?_
              rintro ee wx ⟨rfl, hwx⟩
              obtain rfl := hwx.symm
              go_wp2_with fail
              refine (SC _ (Below.refl _ _)).mono ?_
              rintro ee w3 ⟨v3, rfl, ho3, hb3⟩
              obtain ⟨ao3, cap3, rfl⟩ := ho3.slice
              have hz3 : (wr.setCell ⟨g, j, none⟩ (.slice (some ⟨gr, 0, none⟩) C capr)).heap.size = wr.heap.size := by simp
              rw [hz3] at hb3 ho3
              have hst := (HEE.out.row.stored j (.slice (some ⟨gr, 0, none⟩) C capr)).1
              have hl5 : r < ((valsOf R e).set j (.slice (some ⟨gr, 0, none⟩) C capr)).length := by rw [List.length_set, valsOf_length]; exact hrR
              have q1 : ∃ u, w3.cell? ⟨g, r, none⟩ = some u := ⟨_, (hb3.cell (p := ⟨g, r, none⟩) hgl).trans ((hst.cellAt r (by omega)).trans (List.getElem?_eq_getElem hl5))⟩
              obtain ⟨u, q1⟩ := q1
              have q2 : w3.frozen? ⟨g, r, none⟩ = false := (hb3.frozen (p := ⟨g, r, none⟩) hgl).trans (hst.frozenAt r)
              have hsw : (swapM S.1 r j) r = S.1 j := by simp [swapM]
              have hM4 : scaleM (swapM S.1 r j) r k r = fun q => mulN (powN y 254) (S.1 j q) := by simp only [scaleM, if_pos, hsw, HY.out]
              have ho4 : Own w3 wr.heap.size w3.heap.size (.slice ao3 C cap3) C (scaleM (swapM S.1 r j) r k r) := by rw [hM4]; exact ho3
              have E4 := HEE.out.put2 (M' := scaleM (swapM S.1 r j) r k) r j hrR hjR (by rw [← HER.out]; exact hb3) ho4 (fun q hq hne => by simp only [scaleM, if_neg hne])
              have B4 : Below lo w (w3.setCell ⟨g, r, none⟩ (.slice ao3 C cap3)) := (((hbel.setCell HEE.out.low _).trans (hb3.mono (by have := HEE.out.low; have := HEE.out.high; omega)))).setCell HEE.out.low _
              have Z4 : w3.heap.size = (w3.setCell ⟨g, r, none⟩ (.slice ao3 C cap3)).heap.size := by simp
              rw [Z4] at E4
              have kB4 : Byt (scaleM (swapM S.1 r j) r k) := scaleM_byt (swapM_byt kB r j) r k
              have N0 : gaussM R M (k + 1) = (clearM (scaleM (swapM S.1 r j) r k) r k R, r + 1) := by
                rw [HST.out]
                unfold stepM
                rw [← HR.out, HLE.out, if_neg (by omega)]
              have N : Hid (gaussM R M (k + 1) = (clearM (scaleM (swapM S.1 r j) r k) r k R, r + 1)) := N0
              clear N0 ho4 hM4 hsw ho3 hst hl5 hz3 hcc hcc2 cj cr fj fr SC I HEE HEJ HER hbel
              go_wp2
              clear q1 q2 hb3
              generalize w3.setCell ⟨g, r, none⟩ (.slice ao3 C cap3) = w4 at E4 B4 ⊢
              generalize (fun q => if q = r then Value.slice ao3 C cap3 else if q = j then e r else e q) = e4 at E4
              generalize scaleM (swapM S.1 r j) r k = M2 at E4 kB4 N
              go_loopw [9] (fun i wr => ∃ q : Nat, q ≤ R ∧ i = .int .i64 q ∧ (∃ e', OwnE wr lo wr.heap.size (.slice (some ⟨g, 0, none⟩) R cap) R (fun _ => C) (clearM M2 r k q) g cap e') ∧ Below lo w wr) (fun i _ => R - (intOf i).toNat)
              case atStart => exact ⟨0, Nat.zero_le _, rfl, ⟨e4, by rw [clearM_zero]; exact E4⟩, B4⟩
              case round =>
                clear E4 B4 e4
                obtain ⟨q, hq, rfl, ⟨e5, hE5⟩, hb5⟩ := hrel
                by_cases hqR : q < R
                · by_cases hqr : q = r
                  · subst hqr
                    have E : Hid (OwnE wr lo wr.heap.size (.slice (some ⟨g, 0, none⟩) R cap) R (fun _ => C) (clearM M2 q k (q + 1)) g cap e5) := by rw [clearM_skip]; exact hE5
                    clear hE5
                    go_wp2
                    go_roundw
                    case rel => exact ⟨q + 1, by omega, by go_num, ⟨e5, E.out⟩, hb5⟩
                    case measure => simp [intOf]; omega
                  · have tq : ((q : Int) != (r : Int)) = true := by simp; omega
                    have kB5 := clearM_byt kB4 r k q
                    have cq := hE5.cell q hqR
                    have cr5 := hE5.cell r hrR
                    have oq := hE5.each q hqR
                    have or5 := hE5.each r hrR
                    have fq := hE5.frozen q
                    have hgl5 := hE5.high
                    obtain ⟨gq, capq, heq, _, _, _, _⟩ := oq.form (by omega)
                    obtain ⟨gs, caps, hes, _, _, _, _⟩ := or5.form (by omega)
                    have hcq : wr.cell? ⟨gq, k, none⟩ = some (.int .u8 (clearM M2 r k q q k)) := by
                      have := oq.1
                      rw [heq] at this
                      rw [this.cellAt k (by omega), cellsOf_get _ _ _ (by omega)]
                    have hnx := clearM_next (M := M2) (r := r) (c := k) hqr
                    obtain ⟨M3, hM3⟩ : ∃ M3, M3 = clearM M2 r k q := ⟨_, rfl⟩
                    rw [← hM3] at hcq kB5 oq or5 hE5 hnx
                    obtain ⟨y2, hy2⟩ : ∃ y, y = M3 q k := ⟨_, rfl⟩
                    have hy2l : y2 < 256 := by rw [hy2]; exact kB5 q k
                    have HNX : Hid (clearM M2 r k (q + 1) = fun i => if i = q then (fun j => M3 q j ^^^ mulN (M3 q k) (M3 r j)) else M3 i) := hnx
                    have HY2 : Hid (y2 = M3 q k) := hy2
                    rw [← hy2] at hcq
                    have C1 := l1Scale_any (e5 r) C (M3 r) (fun t => mulN y2 (M3 r t)) y2 wr.heap.size (wr.drewN 1) or5.rd (Nat.le_refl _) (kB5 r) hy2l (fun _ _ => rfl) (by omega)
                    have C2 : ∀ (w2 : World) (v2 : Value), Own w2 wr.heap.size w2.heap.size v2 C (fun t => mulN y2 (M3 r t)) → Below wr.heap.size wr w2 →
                        Calls Try.prog 53 #[e5 q, v2] w2 fun e w' => ∃ v', e = .returned v' ∧ Own w' w2.heap.size w'.heap.size v' C (fun t => M3 q t ^^^ mulN y2 (M3 r t)) ∧ Below w2.heap.size w2 w' := fun w2 v2 ho hb2 =>
                      l1Add_any (e5 q) v2 C (M3 q) (fun t => mulN y2 (M3 r t)) _ _ _ w2 (oq.below hb2 (Nat.le_refl _)).rd ho.rd hb2.size (Nat.le_refl _) (kB5 q) (fun t => mulN_lt hy2l) (fun _ _ => rfl) (by omega)
                    obtain ⟨xq, hxq⟩ : ∃ x, x = e5 q := ⟨_, rfl⟩
                    obtain ⟨xr, hxr⟩ : ∃ x, x = e5 r := ⟨_, rfl⟩
                    rw [← hxq] at cq C2 heq
                    rw [← hxr] at cr5 C1 hes
                    have HE5 : Hid (OwnE wr lo wr.heap.size (.slice (some ⟨g, 0, none⟩) R cap) R (fun _ => C) M3 g cap e5) := hE5
                    clear hxq hxr hM3 hy2 hnx oq or5 hE5 kB5
                    subst heq hes
                    go_wp2
                    go_region_with (first | (go_at_call 54; refine C1.mono ?_; rintro ee w6 ⟨v6, rfl, ho6, hb6⟩; have q0 : w6.cell? ⟨g, q, none⟩ = some (.slice (some ⟨gq, 0, none⟩) C capq) := ((undrewN'' hb6).cell (p := ⟨g, q, none⟩) hgl5).trans cq) | (go_at_call 53; refine (C2 _ _ ho6 (undrewN'' hb6)).mono ?_; rintro ee w7 ⟨v7, rfl, ho7, hb7⟩; obtain ⟨ao7, cap7, rfl⟩ := ho7.slice; have q1 : w7.cell? ⟨g, q, none⟩ = some (.slice (some ⟨gq, 0, none⟩) C capq) := ((bthen (w := wr) (undrewN'' hb6) hb7).cell (p := ⟨g, q, none⟩) hgl5).trans cq; have q2 : w7.frozen? ⟨g, q, none⟩ = false := ((bthen (w := wr) (undrewN'' hb6) hb7).frozen (p := ⟨g, q, none⟩) hgl5).trans fq))
                    all_goals
                      have hb67 : Below wr.heap.size wr w7 := bthen (w := wr) (undrewN'' hb6) hb7
                      have ho8 : Own w7 wr.heap.size w7.heap.size (.slice ao7 C cap7) C (clearM M2 r k (q + 1) q) := by
                        have hq8 : clearM M2 r k (q + 1) q = fun t => M3 q t ^^^ mulN y2 (M3 r t) := by rw [HNX.out]; simp [HY2.out]
                        rw [hq8]
                        exact ho7.weaken (by have := (undrewN'' hb6).size; omega) (Nat.le_refl _)
                      have E8 := HE5.out.put (M' := clearM M2 r k (q + 1)) q hqR hb67 (Nat.le_refl _) ho8 (fun i hi hne => by rw [HNX.out]; simp [hne])
                      have B8 : Below lo w (w7.setCell ⟨g, q, none⟩ (.slice ao7 C cap7)) := (hb5.trans (hb67.mono (by have := HE5.out.low; have := HE5.out.high; omega))).setCell HE5.out.low _
                      have Z8 : w7.heap.size = (w7.setCell ⟨g, q, none⟩ (.slice ao7 C cap7)).heap.size := by simp
                      rw [Z8] at E8
                      clear hb67 ho8 ho7 ho6 hb6 hb7 q0 q1 q2 Z8 HE5 C1 C2 hb5
                      go_wp2
                      go_roundw
                      case rel => exact ⟨q + 1, by omega, by go_num, ⟨_, E8⟩, B8⟩
                      case measure => simp [intOf]; omega
                · have hqn : q = R := by omega
                  subst hqn
                  go_wp2
                  go_roundw
                  case rel => exact ⟨k + 1, by omega, by go_num, val_eq (by rw [N.out]; show _ = ((r + 1 : Nat) : Int); omega), ⟨e5, by rw [N.out]; exact hE5⟩, hb5⟩
                  case measure => simp [intOf]; omega
          · have hjn : j = R := by omega
            subst hjn
            have hlead : lead S.1 k j r = j := lead_eq ⟨hj1, Nat.le_refl _, HZ.out, fun h => by omega⟩
            have N0 : gaussM j M (k + 1) = S := by
              rw [HST.out]
              unfold stepM
              rw [if_pos (by rw [← HR.out]; exact hlead)]
            have N : Hid (gaussM j M (k + 1) = S) := N0
            clear N0 hlead
            go_wp2
            go_roundw
            case rel => exact ⟨k + 1, by omega, by go_num, val_eq (by rw [N.out, HR.out]), ⟨e, by rw [N.out]; exact hE⟩, hbel⟩
            case measure => simp [intOf]; omega
    · have hkn : k = n := by omega
      subst hkn
      go_wp2
      go_ret
      exact ⟨rfl, ⟨e, hE⟩, hbel⟩
end Go.Proofs.Ytoadjpacchhleaj
