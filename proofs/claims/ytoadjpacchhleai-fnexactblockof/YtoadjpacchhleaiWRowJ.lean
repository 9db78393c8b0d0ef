/- Walk of the specification's l2Asked. -/
import Derived.Test.YtoadjpacchhleaiRowAns
import Derived.Test.YtoadjpacchhleaiWRowC
namespace Go.Proofs.Ytoadjpacchhleai
open Go.RowKit F256
set_option linter.unusedVariables false
set_option linter.unusedSimpArgs false

set_option maxHeartbeats 2000000 in
theorem l2Asked_any (d s : Int) (v : Value) (R : Nat) (n : Nat → Nat) (f : Mat) (h1 : Nat) (w : World) (r : RdM w h1 v R n f) (hh : h1 ≤ w.heap.size) :
    Calls Try.prog 49 #[.int .i64 d, .int .i64 s, v] w fun ee w' => ∃ x, ee = .returned (.int .i64 x) ∧ AskP d s R n x ∧ Below w.heap.size w w' := by
  obtain ⟨ao, cap, e, rfl, hm, hc, he⟩ := r
  unfold maxLen at hm
  have HHE : Hid (∀ i, i < R → Rd w h1 (e i) (n i) (f i)) := he
  have HHC : Hid (R ≠ 0 → ∃ b off, ao = some ⟨b, off, none⟩ ∧ b < h1 ∧ ∀ i, i < R → w.cell? ⟨b, off + i, none⟩ = some (e i)) := hc
  clear hc he
  go_enter Try.func49, Try.ntmps49
  go_wp2_with fail
  refine (l2Shape_any d s _).mono ?_
  rintro e0 w1 ⟨b1, rfl, hb1, B1⟩
  have HS : Hid (b1 = true ↔ Shp d s) := hb1
  clear hb1
  cases b1 with
  | false =>
    have HNO : Hid (¬ Shp d s) := fun h => by have := HS.out.mpr h; cases this
    clear HS
    go_wp2
    go_ret
    exact ⟨3, rfl, .inl ⟨rfl, HNO.out⟩, B1⟩
  | true =>
    have hsh := HS.out.mp rfl
    have HSH : Hid (Shp d s) := hsh
    obtain ⟨q1, q2, q3, q4⟩ := hsh
    clear HS
    by_cases hlen : (R : Int) = d + s
    · have tl : ((R : Int) != d + s) = false := by simp [hlen]
      have HLEN : Hid ((R : Int) = d + s) := hlen
      have hR5 : R ≤ 5 := by omega
      have hR0 : R ≠ 0 := by omega
      obtain ⟨b, off, hao, hblt, hcell⟩ := HHC.out hR0
      subst hao
      have HCC : Hid (∀ i, i < R → w.cell? ⟨b, off + i, none⟩ = some (e i)) := hcell
      clear hlen hcell HHC
      go_wp2
      go_loopw [7] (fun i wr => ∃ k : Nat, k ≤ R ∧ i = .int .i64 k ∧ (∀ i, i < k → n i = 0 ∨ n i = 4) ∧ wr = w1) (fun i _ => R - (intOf i).toNat)
      case atStart => exact ⟨0, Nat.zero_le _, rfl, fun i hi => by omega, rfl⟩
      case round =>
        obtain ⟨k, hk, rfl, hall, hwr⟩ := hrel
        subst hwr
        have HALL : Hid (∀ i, i < k → n i = 0 ∨ n i = 4) := hall
        clear hall
        by_cases hlt : k < R
        · have hck : wr.cell? ⟨b, off + k, none⟩ = some (e k) := (B1.cell (p := ⟨b, off + k, none⟩) (by show b < w.heap.size; omega)).trans (HCC.out k hlt)
          obtain ⟨aok, capk, hsk, hmk, hqk⟩ := HHE.out k hlt
          unfold maxLen at hmk
          rw [hsk] at hck
          obtain ⟨nk, hnk⟩ : ∃ x, x = n k := ⟨_, rfl⟩
          have HK : Hid (nk = n k) := hnk
          rw [← hnk] at hck hmk
          clear hsk hqk hnk
          by_cases e1 : nk = 0
          · have t1 : ((nk : Int) != 0) = false := by simp; omega
            have HN0 : Hid (nk = 0) := e1
            clear e1
            go_wp2
            go_roundw
            case rel => exact ⟨k + 1, by omega, by go_num, fun i hi => by
                          by_cases c : i = k
                          · left; rw [c, ← HK.out]; exact HN0.out
                          · exact HALL.out i (by omega), (by first | rfl | trivial)⟩
            case measure => simp [intOf]; omega
          · have t1 : ((nk : Int) != 0) = true := by simp; omega
            by_cases e2 : nk = 4
            · have t2 : ((nk : Int) != 4) = false := by simp; omega
              have HN0 : Hid (nk = 4) := e2
              clear e1 e2
              go_wp2
              go_roundw
              case rel => exact ⟨k + 1, by omega, by go_num, fun i hi => by
                            by_cases c : i = k
                            · right; rw [c, ← HK.out]; exact HN0.out
                            · exact HALL.out i (by omega), (by first | rfl | trivial)⟩
              case measure => simp [intOf]; omega
            · have t2 : ((nk : Int) != 4) = true := by simp; omega
              have HN1 : Hid (nk ≠ 0) := e1
              have HN2 : Hid (nk ≠ 4) := e2
              clear e1 e2
              go_wp2
              go_ret
              exact ⟨1, rfl, .inr (.inl ⟨rfl, HSH.out, .inr ⟨k, hlt, by rw [← HK.out]; exact HN1.out, by rw [← HK.out]; exact HN2.out⟩⟩), B1⟩
        · obtain rfl : k = R := by omega
          go_wp2
          go_ret
          exact ⟨0, rfl, .inr (.inr ⟨rfl, HSH.out, HLEN.out, HALL.out⟩), B1⟩
    · have tl : ((R : Int) != d + s) = true := by simp [hlen]
      have HLEN : Hid ((R : Int) ≠ d + s) := hlen
      clear hlen
      go_wp2
      go_ret
      exact ⟨1, rfl, .inr (.inl ⟨rfl, HSH.out, .inl HLEN.out⟩), B1⟩
end Go.Proofs.Ytoadjpacchhleai
