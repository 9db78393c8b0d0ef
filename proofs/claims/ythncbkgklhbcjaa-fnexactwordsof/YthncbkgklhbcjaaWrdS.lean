/- Walk of the specification's WordsOf. -/
import Derived.Test.YthncbkgklhbcjaaWrdP
import Derived.Laws.Strings2
import Derived.Laws.DeepStrings4
namespace Go.Proofs.Ythncbkgklhbcjaa
open Go.RowKit F256
set_option linter.unusedVariables false
set_option linter.unusedSimpArgs false

set_option maxHeartbeats 8000000 in
theorem specWords_any (b : ByteArray) (hb : b.size ≤ 1048576) (w : World) :
    Calls Try.prog 11 #[.string b] w fun e w' => ∃ v', e = .returned v' ∧ OwnS w' w.heap.size w'.heap.size v' (words b).length (lst (words b)) ∧ Below w.heap.size w w' := by
  go_enter Try.func11, Try.ntmps11
  go_wp2
  go_loopw [3, 4, 5] (fun v x i wr => ∃ k : Nat, k ≤ b.size + 1 ∧ i = .int .i64 k ∧ x = .int .i64 ((wst b k).2 : Int) ∧ OwnS wr w.heap.size wr.heap.size v (wst b k).1.length (lst (wst b k).1) ∧ Below w.heap.size w wr) (fun _ _ i _ => b.size + 1 - (intOf i).toNat)
  case atStart => exact ⟨0, by omega, rfl, rfl, ownS_lit0 w _, (Below.refl _ _).alloc (Nat.le_refl _) _⟩
  case round =>
    obtain ⟨k, hk, rfl, rfl, hown, hB⟩ := hrel
    obtain ⟨ao, cap, rfl⟩ := hown.slice
    by_cases hle : k ≤ b.size
    · have hf := wst_from hle
      have hl := wst_len hle
      by_cases hst : k = b.size ∨ strB b k = 32
      · have ST := wst_stop hle hst
        obtain ⟨L, hL⟩ : ∃ L, L = (wst b k).1 := ⟨_, rfl⟩
        obtain ⟨fr, hfr⟩ : ∃ fr, fr = (wst b k).2 := ⟨_, rfl⟩
        rw [← hL, ← hfr] at ST
        rw [← hL] at hown hl
        rw [← hfr] at hf
        have HST : Hid (wst b (k + 1) = (if fr < k then L ++ [b.extract fr k] else L, k + 1)) := ST
        have HL : Hid (L = (wst b k).1) := hL
        have HFR : Hid (fr = (wst b k).2) := hfr
        rw [← hL, ← hfr]
        clear ST hL hfr
        by_cases hkn : k = b.size
        · have tk : ((k : Int) == (b.size : Int)) = true := by simp; omega
          have tk2 : decide ((k : Int) = (b.size : Int)) = true := by simp; omega
          have tk3 : decide (k = b.size) = true := by simp; omega
          have tle : decide ((k : Int) ≤ (b.size : Int)) = true := by simp; omega
          have HKN : Hid (k = b.size) := hkn
          clear hkn hst
          by_cases hc : fr < k
          · have hc1 : (fr : Int) < (k : Int) := by omega
            have E1 : (wst b (k + 1)).1 = L ++ [b.extract fr k] := by rw [HST.out, if_pos hc]
            have E2 : (wst b (k + 1)).2 = k + 1 := by rw [HST.out]
            have HE1 : Hid ((wst b (k + 1)).1 = L ++ [b.extract fr k]) := E1
            have HE2 : Hid ((wst b (k + 1)).2 = k + 1) := E2
            have own2 := hown.snoc (b.extract fr k)
            have i1 : (0 : Int) ≤ (fr : Int) := by omega
            have i2 : (fr : Int) ≤ (k : Int) := by omega
            have i3 : (k : Int) ≤ (b.size : Int) := by omega
            clear E1 E2 hc
            go_wp2_with (at_builtin; refine wp_appendS rfl (.tmp 26) (.tmp 31) rfl w.heap.size wr.heap.size (.slice ao L.length cap) L.length (lst (L ++ [b.extract fr k])) ?c1 ?c2 wr.heap.size 1 ?c3 ?c4 ?c5 ?c6 ?_)
            case c1 => simp [Act.eval]
            case c2 => exact own2.alloc _
            case c3 => simp [Act.eval]
            case c4 => rw [lst_snoc_at]; simp
            case c5 => omega
            case c6 => simp; have := hB.size; omega
            intro v' w3 hown3 hb3
            obtain ⟨ao', cap', rfl⟩ := hown3.slice
            have B3 : Below w.heap.size w w3 := (hB.alloc hB.size _).trans hb3
            clear hb3 hown own2
            go_wp2
            go_roundw
            case rel => exact ⟨k + 1, by omega, by go_num, by rw [HE2.out]; go_num, by rw [HE1.out, length_snoc]; exact hown3, B3⟩
            case measure => simp [intOf]; omega
          · have hc1 : ¬ (fr : Int) < (k : Int) := by omega
            have hc2 : decide ((fr : Int) < (k : Int)) = false := decide_eq_false hc1
            have E1 : (wst b (k + 1)).1 = L := by rw [HST.out, if_neg hc]
            have E2 : (wst b (k + 1)).2 = k + 1 := by rw [HST.out]
            have HE1 : Hid ((wst b (k + 1)).1 = L) := E1
            have HE2 : Hid ((wst b (k + 1)).2 = k + 1) := E2
            clear E1 E2
            go_wp2
            go_roundw
            case rel => exact ⟨k + 1, by omega, by go_num, by rw [HE2.out]; go_num, by rw [HE1.out]; exact hown, hB⟩
            case measure => simp [intOf]; omega
        · have h32 : strB b k = 32 := by rcases hst with h1 | h1; exact absurd h1 hkn; exact h1
          have I0 : (Instr.index 9 (.string b) (.int .i64 (k : Int))).run Try.prog wr = .ok (.int .u8 32) wr := by
            have := index_str b k (by omega) wr
            rw [h32] at this
            exact this
          have tk : ((k : Int) == (b.size : Int)) = false := by simp; omega
          have tk2 : decide ((k : Int) = (b.size : Int)) = false := by simp; omega
          have tk3 : decide (k = b.size) = false := by simp; omega
          have tle : decide ((k : Int) ≤ (b.size : Int)) = true := by simp; omega
          clear hst h32
          by_cases hc : fr < k
          · have hc1 : (fr : Int) < (k : Int) := by omega
            have E1 : (wst b (k + 1)).1 = L ++ [b.extract fr k] := by rw [HST.out, if_pos hc]
            have E2 : (wst b (k + 1)).2 = k + 1 := by rw [HST.out]
            have HE1 : Hid ((wst b (k + 1)).1 = L ++ [b.extract fr k]) := E1
            have HE2 : Hid ((wst b (k + 1)).2 = k + 1) := E2
            have own2 := hown.snoc (b.extract fr k)
            have i1 : (0 : Int) ≤ (fr : Int) := by omega
            have i2 : (fr : Int) ≤ (k : Int) := by omega
            have i3 : (k : Int) ≤ (b.size : Int) := by omega
            clear E1 E2 hc
            go_wp2_with (at_builtin; refine wp_appendS rfl (.tmp 26) (.tmp 31) rfl w.heap.size wr.heap.size (.slice ao L.length cap) L.length (lst (L ++ [b.extract fr k])) ?c1 ?c2 wr.heap.size 1 ?c3 ?c4 ?c5 ?c6 ?_)
            case c1 => simp [Act.eval]
            case c2 => exact own2.alloc _
            case c3 => simp [Act.eval]
            case c4 => rw [lst_snoc_at]; simp
            case c5 => omega
            case c6 => simp; have := hB.size; omega
            intro v' w3 hown3 hb3
            obtain ⟨ao', cap', rfl⟩ := hown3.slice
            have B3 : Below w.heap.size w w3 := (hB.alloc hB.size _).trans hb3
            clear hb3 hown own2
            go_wp2
            go_roundw
            case rel => exact ⟨k + 1, by omega, by go_num, by rw [HE2.out]; go_num, by rw [HE1.out, length_snoc]; exact hown3, B3⟩
            case measure => simp [intOf]; omega
          · have hc1 : ¬ (fr : Int) < (k : Int) := by omega
            have hc2 : decide ((fr : Int) < (k : Int)) = false := decide_eq_false hc1
            have E1 : (wst b (k + 1)).1 = L := by rw [HST.out, if_neg hc]
            have E2 : (wst b (k + 1)).2 = k + 1 := by rw [HST.out]
            have HE1 : Hid ((wst b (k + 1)).1 = L) := E1
            have HE2 : Hid ((wst b (k + 1)).2 = k + 1) := E2
            clear E1 E2
            go_wp2
            go_roundw
            case rel => exact ⟨k + 1, by omega, by go_num, by rw [HE2.out]; go_num, by rw [HE1.out]; exact hown, hB⟩
            case measure => simp [intOf]; omega
      · have hkn : k ≠ b.size := fun h => hst (.inl h)
        have h32 : strB b k ≠ 32 := fun h => hst (.inr h)
        have ON := wst_on (b := b) (k := k) (by omega) h32
        have I0 := index_str b k (by omega) wr
        have HON : Hid (wst b (k + 1) = wst b k) := ON
        obtain ⟨y, hy⟩ : ∃ y, y = strB b k := ⟨_, rfl⟩
        rw [← hy] at I0 h32
        have ty : ((y : Int) == 32) = false := by simp; omega
        have ty2 : decide ((y : Int) = 32) = false := by simp; omega
        have ty3 : decide (y = 32) = false := by simp; omega
        have tk : ((k : Int) == (b.size : Int)) = false := by simp; omega
        have tk2 : decide ((k : Int) = (b.size : Int)) = false := by simp; omega
        have tk3 : decide (k = b.size) = false := by simp; omega
        have tle : decide ((k : Int) ≤ (b.size : Int)) = true := by simp; omega
        clear ON hy hst h32
        go_wp2
        go_roundw
        case rel => exact ⟨k + 1, by omega, by go_num, by rw [HON.out], by rw [HON.out]; exact hown, hB⟩
        case measure => simp [intOf]; omega
    · obtain rfl : k = b.size + 1 := by omega
      have E := wst_end (b := b) (k := b.size + 1) (by omega)
      rw [E] at hown ⊢
      have tle : decide (((b.size + 1 : Nat) : Int) ≤ (b.size : Int)) = false := by simp; omega
      clear E
      go_wp2
      go_ret
      exact ⟨_, rfl, hown, hB⟩
end Go.Proofs.Ythncbkgklhbcjaa
