/- Walks of the program's isLetter, isDigit and NameFault. -/
import Derived.Test.YtdnankopblkblakWName
namespace Go.Proofs.Ytdnankopblkblak
open Go.RowKit F256
set_option linter.unusedVariables false
set_option linter.unusedSimpArgs false

theorem isLetter_yes (y : Nat) (h : LetP y) (w : World) : Calls Try.prog 52 #[.int .u8 y] w fun e w' => e = .returned (.bool true) ∧ w' = w := by
  unfold LetP at h
  obtain ⟨h1, h2⟩ := h
  have t1 : decide ((97 : Int) ≤ (y : Int)) = true := by simp; omega
  have t2 : decide ((y : Int) ≤ 122) = true := by simp; omega
  go_enter Try.func52, Try.ntmps52
  go_wp2
  go_ret
  exact ⟨rfl, rfl⟩
theorem isLetter_no (y : Nat) (h : ¬ LetP y) (w : World) : Calls Try.prog 52 #[.int .u8 y] w fun e w' => e = .returned (.bool false) ∧ w' = w := by
  unfold LetP at h
  by_cases h1 : 97 ≤ y
  · have h2 : 122 < y := by omega
    have t1 : decide ((97 : Int) ≤ (y : Int)) = true := by simp; omega
    have t2 : decide ((y : Int) ≤ 122) = false := by simp; omega
    clear h
    go_enter Try.func52, Try.ntmps52
    go_wp2
    go_ret
    exact ⟨rfl, rfl⟩
  · have t1 : decide ((97 : Int) ≤ (y : Int)) = false := by simp; omega
    clear h
    go_enter Try.func52, Try.ntmps52
    go_wp2
    go_ret
    exact ⟨rfl, rfl⟩
theorem isDigit_yes (y : Nat) (h : DigP y) (w : World) : Calls Try.prog 53 #[.int .u8 y] w fun e w' => e = .returned (.bool true) ∧ w' = w := by
  unfold DigP at h
  obtain ⟨h1, h2⟩ := h
  have t1 : decide ((48 : Int) ≤ (y : Int)) = true := by simp; omega
  have t2 : decide ((y : Int) ≤ 57) = true := by simp; omega
  go_enter Try.func53, Try.ntmps53
  go_wp2
  go_ret
  exact ⟨rfl, rfl⟩
theorem isDigit_no (y : Nat) (h : ¬ DigP y) (w : World) : Calls Try.prog 53 #[.int .u8 y] w fun e w' => e = .returned (.bool false) ∧ w' = w := by
  unfold DigP at h
  by_cases h1 : 48 ≤ y
  · have h2 : 57 < y := by omega
    have t1 : decide ((48 : Int) ≤ (y : Int)) = true := by simp; omega
    have t2 : decide ((y : Int) ≤ 57) = false := by simp; omega
    clear h
    go_enter Try.func53, Try.ntmps53
    go_wp2
    go_ret
    exact ⟨rfl, rfl⟩
  · have t1 : decide ((48 : Int) ≤ (y : Int)) = false := by simp; omega
    clear h
    go_enter Try.func53, Try.ntmps53
    go_wp2
    go_ret
    exact ⟨rfl, rfl⟩

set_option maxHeartbeats 4000000 in
theorem implName_any (b : ByteArray) (hb : b.size ≤ 1048576) (w : World) :
    Calls Try.prog 37 #[.string b] w fun e w' => ∃ x, e = .returned (.int .i64 x) ∧ NmAns b x ∧ w' = w := by
  by_cases h1 : 1 ≤ b.size
  · have t1 : decide ((b.size : Int) < 1) = false := by simp; omega
    have t1n : decide (b.size < 1) = false := decide_eq_false (by omega)
    have t1z : decide (b.size = 0) = false := decide_eq_false (by omega)
    by_cases h2 : b.size ≤ 8
    · have t2 : decide ((8 : Int) < (b.size : Int)) = false := by simp; omega
      have t2n : decide (8 < b.size) = false := by simp; omega
      have hix := index_name b 0 h1
      have e0 : ((0 : Nat) : Int) = 0 := rfl
      rw [e0] at hix
      obtain ⟨y, hy⟩ : ∃ y, y = nameByte b 0 := ⟨_, rfl⟩
      rw [← hy] at hix
      have HY : Hid (y = nameByte b 0) := hy
      clear e0 hy
      by_cases h3 : LetP y
      · have HL : Hid (LetP (nameByte b 0)) := by show LetP (nameByte b 0); rw [← HY.out]; exact h3
        have CL := isLetter_yes y h3
        clear h3
        go_enter Try.func37, Try.ntmps37
        go_wp2_with fail
        refine (CL _).mono ?_
        rintro e w1 ⟨rfl, rfl⟩
        go_wp2
        go_loop [20] (fun i => ∃ k : Nat, k ≤ b.size ∧ i = .int .i64 k ∧ ∀ i, i < k → LetP (nameByte b i) ∨ DigP (nameByte b i)) (fun i => b.size - (intOf i).toNat)
        case atStart => exact ⟨0, Nat.zero_le _, rfl, fun i hi => by omega⟩
        case round =>
          obtain ⟨k, hk, rfl, hall⟩ := hrel
          have HALL : Hid (∀ i, i < k → LetP (nameByte b i) ∨ DigP (nameByte b i)) := hall
          clear hall
          by_cases hlt : k < b.size
          · have hik := index_name b k hlt
            obtain ⟨z, hz⟩ : ∃ z, z = nameByte b k := ⟨_, rfl⟩
            rw [← hz] at hik
            have HZ : Hid (z = nameByte b k) := hz
            clear hz CL
            by_cases c1 : LetP z
            · have HD : Hid (LetP (nameByte b k)) := by show LetP (nameByte b k); rw [← HZ.out]; exact c1
              have C1 := isLetter_yes z c1
              clear c1
              go_wp2_with fail
              refine (C1 _).mono ?_
              rintro e w2 ⟨rfl, rfl⟩
              go_wp2
              go_round
              case rel => exact ⟨k + 1, by omega, by go_num, fun i hi => by
                            by_cases c : i = k
                            · left; rw [c]; exact HD.out
                            · exact HALL.out i (by omega)⟩
              case measure => simp [intOf]; omega
            · have C1 := isLetter_no z c1
              by_cases c2 : DigP z
              · have HD : Hid (DigP (nameByte b k)) := by show DigP (nameByte b k); rw [← HZ.out]; exact c2
                have C2 := isDigit_yes z c2
                clear c1 c2
                go_wp2_with fail
                refine (C1 _).mono ?_
                rintro e w2 ⟨rfl, rfl⟩
                go_wp2_with fail
                refine (C2 _).mono ?_
                rintro e w3 ⟨rfl, rfl⟩
                go_wp2
                go_round
                case rel => exact ⟨k + 1, by omega, by go_num, fun i hi => by
                              by_cases c : i = k
                              · right; rw [c]; exact HD.out
                              · exact HALL.out i (by omega)⟩
                case measure => simp [intOf]; omega
              · have HN : Hid (¬ OkName b) := fun h => by
                  have := h.2.2.2 k hlt
                  rw [← HZ.out] at this
                  exact this.elim c1 c2
                have C2 := isDigit_no z c2
                clear c1 c2
                go_wp2_with fail
                refine (C1 _).mono ?_
                rintro e w2 ⟨rfl, rfl⟩
                go_wp2_with fail
                refine (C2 _).mono ?_
                rintro e w3 ⟨rfl, rfl⟩
                go_wp2
                go_ret
                exact ⟨5, rfl, .inl ⟨rfl, HN.out⟩, rfl⟩
          · obtain rfl : k = b.size := by omega
            have HY2 : Hid (OkName b) := ⟨h1, h2, HL.out, HALL.out⟩
            go_wp2
            go_ret
            exact ⟨0, rfl, .inr ⟨rfl, HY2.out⟩, rfl⟩
      · have HN : Hid (¬ OkName b) := fun h => by have := h.2.2.1; rw [← HY.out] at this; exact h3 this
        have CL := isLetter_no y h3
        clear h3
        go_enter Try.func37, Try.ntmps37
        go_wp2_with fail
        refine (CL _).mono ?_
        rintro e w1 ⟨rfl, rfl⟩
        go_wp2
        go_ret
        exact ⟨5, rfl, .inl ⟨rfl, HN.out⟩, rfl⟩
    · have HN : Hid (¬ OkName b) := fun h => h2 h.2.1
      have t2 : decide ((8 : Int) < (b.size : Int)) = true := by simp; omega
      have t2i : (8 : Int) < (b.size : Int) := by omega
      clear h2
      go_enter Try.func37, Try.ntmps37
      go_wp2
      go_ret
      exact ⟨5, rfl, .inl ⟨rfl, HN.out⟩, rfl⟩
  · have HN : Hid (¬ OkName b) := fun h => h1 h.1
    have t1 : decide ((b.size : Int) < 1) = true := by simp; omega
    have t1i : (b.size : Int) < 1 := by omega
    clear h1
    go_enter Try.func37, Try.ntmps37
    go_wp2
    go_ret
    exact ⟨5, rfl, .inl ⟨rfl, HN.out⟩, rfl⟩
end Go.Proofs.Ytdnankopblkblak
