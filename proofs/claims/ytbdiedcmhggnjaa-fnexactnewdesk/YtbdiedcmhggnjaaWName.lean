/- Walk of the specification's NameFault. -/
import Derived.Test.YtbdiedcmhggnjaaWShape
namespace Go.Proofs.Ytbdiedcmhggnjaa
open Go.RowKit F256
set_option linter.unusedVariables false
set_option linter.unusedSimpArgs false

/-- the bytes of a string -/
def nameByte (b : ByteArray) (i : Nat) : Nat := if h : i < b.size then (b[i]'h).toNat else 0
theorem nameByte_lt (b : ByteArray) (i : Nat) : nameByte b i < 256 := by
  unfold nameByte
  split
  · exact UInt8.toNat_lt _
  · omega
theorem index_name (b : ByteArray) (i : Nat) (h : i < b.size) (w : World) : (Instr.index 9 (.string b) (.int .i64 (i : Int))).run Try.prog w = .ok (.int .u8 (nameByte b i)) w := by
  rw [run_index_string w 9 b .i64 (i : Int) Try.underlying9, dif_pos ⟨by omega, by omega⟩]
  simp [nameByte, h]
def LetP (y : Nat) : Prop := 97 ≤ y ∧ y ≤ 122
def DigP (y : Nat) : Prop := 48 ≤ y ∧ y ≤ 57
/-- a name that has no fault -/
def OkName (b : ByteArray) : Prop := 1 ≤ b.size ∧ b.size ≤ 8 ∧ LetP (nameByte b 0) ∧ ∀ i, i < b.size → LetP (nameByte b i) ∨ DigP (nameByte b i)
def NmAns (b : ByteArray) (x : Int) : Prop := (x = 5 ∧ ¬ OkName b) ∨ (x = 0 ∧ OkName b)
theorem NmAns.one {b : ByteArray} {x y : Int} (h : NmAns b x) (k : NmAns b y) : x = y := by
  rcases h with ⟨rfl, h⟩ | ⟨rfl, h⟩ <;> rcases k with ⟨rfl, k⟩ | ⟨rfl, k⟩ <;> first | rfl | exact absurd h k | exact absurd k h

set_option maxHeartbeats 4000000 in
theorem specName_any (b : ByteArray) (hb : b.size ≤ 1048576) (w : World) :
    Calls Try.prog 17 #[.string b] w fun e w' => ∃ x, e = .returned (.int .i64 x) ∧ NmAns b x ∧ w' = w := by
  by_cases h1 : 1 ≤ b.size
  · have t1 : decide ((b.size : Int) < 1) = false := by simp; omega
    have t1n : decide (b.size < 1) = false := decide_eq_false (by omega)
    have t1z : decide (b.size = 0) = false := decide_eq_false (by omega)
    by_cases h2 : b.size ≤ 8
    · have t2 : decide ((8 : Int) < (b.size : Int)) = false := by simp; omega
      have t2n : decide (8 < b.size) = false := by simp; omega
      have hix := index_name b 0 h1
      have e0 : ((0 : Nat) : Int) = 0 := rfl
      rw [e0] at hix
      obtain ⟨y, hy⟩ : ∃ y, y = nameByte b 0 := ⟨_, rfl⟩
      rw [← hy] at hix
      have HY : Hid (y = nameByte b 0) := hy
      clear e0 hy
      by_cases h3 : y < 97
      · have HN : Hid (¬ OkName b) := fun h => by have := h.2.2.1.1; rw [← HY.out] at this; omega
        have t3 : decide ((y : Int) < 97) = true := by simp; omega
        go_enter Try.func17, Try.ntmps17
        go_wp2
        go_ret
        exact ⟨5, rfl, .inl ⟨rfl, HN.out⟩, rfl⟩
      · have t3 : decide ((y : Int) < 97) = false := by simp; omega
        have t3n : decide (y < 97) = false := by simp; omega
        by_cases h4 : 122 < y
        · have HN : Hid (¬ OkName b) := fun h => by have := h.2.2.1.2; rw [← HY.out] at this; omega
          have t4 : decide ((122 : Int) < (y : Int)) = true := by simp; omega
          clear h3
          go_enter Try.func17, Try.ntmps17
          go_wp2
          go_ret
          exact ⟨5, rfl, .inl ⟨rfl, HN.out⟩, rfl⟩
        · have t4 : decide ((122 : Int) < (y : Int)) = false := by simp; omega
          have t4n : decide (122 < y) = false := by simp; omega
          have HL : Hid (LetP (nameByte b 0)) := by show LetP (nameByte b 0); rw [← HY.out]; exact ⟨by omega, by omega⟩
          clear h3 h4
          go_enter Try.func17, Try.ntmps17
          go_wp2
          go_loop [3] (fun i => ∃ k : Nat, k ≤ b.size ∧ i = .int .i64 k ∧ ∀ i, i < k → LetP (nameByte b i) ∨ DigP (nameByte b i)) (fun i => b.size - (intOf i).toNat)
          case atStart => exact ⟨0, Nat.zero_le _, rfl, fun i hi => by omega⟩
          case round =>
            obtain ⟨k, hk, rfl, hall⟩ := hrel
            have HALL : Hid (∀ i, i < k → LetP (nameByte b i) ∨ DigP (nameByte b i)) := hall
            clear hall
            by_cases hlt : k < b.size
            · have hik := index_name b k hlt
              obtain ⟨z, hz⟩ : ∃ z, z = nameByte b k := ⟨_, rfl⟩
              rw [← hz] at hik
              have HZ : Hid (z = nameByte b k) := hz
              clear hz
              by_cases c1 : z < 97
              · have s1 : decide ((z : Int) < 97) = true := by simp; omega
                by_cases c3 : z < 48
                · have s3 : decide ((z : Int) < 48) = true := by simp; omega
                  have HN : Hid (¬ OkName b) := fun h => by
                    have := h.2.2.2 k hlt
                    rw [← HZ.out] at this
                    unfold LetP DigP at this
                    omega
                  go_wp2
                  go_ret
                  exact ⟨5, rfl, .inl ⟨rfl, HN.out⟩, rfl⟩
                · have s3 : decide ((z : Int) < 48) = false := by simp; omega
                  have s3n : decide (z < 48) = false := by simp; omega
                  by_cases c4 : 57 < z
                  · have s4 : decide ((57 : Int) < (z : Int)) = true := by simp; omega
                    have HN : Hid (¬ OkName b) := fun h => by
                      have := h.2.2.2 k hlt
                      rw [← HZ.out] at this
                      unfold LetP DigP at this
                      omega
                    clear c3
                    go_wp2
                    go_ret
                    exact ⟨5, rfl, .inl ⟨rfl, HN.out⟩, rfl⟩
                  · have s4 : decide ((57 : Int) < (z : Int)) = false := by simp; omega
                    have s4n : decide (57 < z) = false := by simp; omega
                    have HD : Hid (DigP (nameByte b k)) := by show DigP (nameByte b k); rw [← HZ.out]; exact ⟨by omega, by omega⟩
                    clear c3 c4
                    go_wp2
                    go_round
                    case rel => exact ⟨k + 1, by omega, by go_num, fun i hi => by
                                  by_cases c : i = k
                                  · right; rw [c]; exact HD.out
                                  · exact HALL.out i (by omega)⟩
                    case measure => simp [intOf]; omega
              · have s1 : decide ((z : Int) < 97) = false := by simp; omega
                have s1n : decide (z < 97) = false := by simp; omega
                by_cases c2 : 122 < z
                · have s2 : decide ((122 : Int) < (z : Int)) = true := by simp; omega
                  have s3 : decide ((z : Int) < 48) = false := by simp; omega
                  have s3n : decide (z < 48) = false := by simp; omega
                  have s4 : decide ((57 : Int) < (z : Int)) = true := by simp; omega
                  have HN : Hid (¬ OkName b) := fun h => by
                    have := h.2.2.2 k hlt
                    rw [← HZ.out] at this
                    unfold LetP DigP at this
                    omega
                  clear c1
                  go_wp2
                  go_ret
                  exact ⟨5, rfl, .inl ⟨rfl, HN.out⟩, rfl⟩
                · have s2 : decide ((122 : Int) < (z : Int)) = false := by simp; omega
                  have s2n : decide (122 < z) = false := by simp; omega
                  have HD : Hid (LetP (nameByte b k)) := by show LetP (nameByte b k); rw [← HZ.out]; exact ⟨by omega, by omega⟩
                  clear c1 c2
                  go_wp2
                  go_round
                  case rel => exact ⟨k + 1, by omega, by go_num, fun i hi => by
                                by_cases c : i = k
                                · left; rw [c]; exact HD.out
                                · exact HALL.out i (by omega)⟩
                  case measure => simp [intOf]; omega
            · obtain rfl : k = b.size := by omega
              have HY2 : Hid (OkName b) := ⟨h1, h2, HL.out, HALL.out⟩
              go_wp2
              go_ret
              exact ⟨0, rfl, .inr ⟨rfl, HY2.out⟩, rfl⟩
    · have HN : Hid (¬ OkName b) := fun h => h2 h.2.1
      have t2 : decide ((8 : Int) < (b.size : Int)) = true := by simp; omega
      have t2i : (8 : Int) < (b.size : Int) := by omega
      clear h2
      go_enter Try.func17, Try.ntmps17
      go_wp2
      go_ret
      exact ⟨5, rfl, .inl ⟨rfl, HN.out⟩, rfl⟩
  · have HN : Hid (¬ OkName b) := fun h => h1 h.1
    have t1 : decide ((b.size : Int) < 1) = true := by simp; omega
    have t1i : (b.size : Int) < 1 := by omega
    clear h1
    go_enter Try.func17, Try.ntmps17
    go_wp2
    go_ret
    exact ⟨5, rfl, .inl ⟨rfl, HN.out⟩, rfl⟩
end Go.Proofs.Ytbdiedcmhggnjaa
