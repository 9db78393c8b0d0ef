/- The decimal text of a number, as the laws mark names by it. -/
import Derived.Test.YtbmfndjglndnlaaGreatOwn
import Derived.Laws.BytesArg
import Derived.BigQuiet
import Derived.Deep.QuietTactic
namespace Go.Proofs.YtbmfndjglndnlaaGreat
open Go.RowKit F256
set_option linter.unusedVariables false
/-- the digits of k, ahead of out -/
def digT : Nat → Nat → ByteArray → ByteArray
  | 0, _, out => out
  | f + 1, k, out => if k = 0 then out else digT f (k / 10) (strOfNums [48 + (k : Int) % 10] ++ out)
def markT (k : Nat) : ByteArray := ByteArray.mk #[109] ++ digT 20 k ByteArray.empty
theorem digT_zero (f : Nat) (out : ByteArray) : digT f 0 out = out := by
  cases f <;> simp [digT]
theorem str1_size (x : Int) : (strOfNums [x]).size = 1 := rfl
theorem digT_size : ∀ (f k : Nat) (out : ByteArray), (digT f k out).size ≤ f + out.size
  | 0, k, out => by simp [digT]
  | f + 1, k, out => by
    rw [digT]
    split
    · omega
    · have := digT_size f (k / 10) (strOfNums [48 + (k : Int) % 10] ++ out)
      rw [ByteArray.size_append, str1_size] at this
      omega
theorem markT_le (k : Nat) : (markT k).size ≤ maxLen := by
  have := digT_size 20 k ByteArray.empty
  have e0 : ByteArray.empty.size = 0 := rfl
  have e : (markT k).size = 1 + (digT 20 k ByteArray.empty).size := by unfold markT; rw [ByteArray.size_append]; rfl
  rw [e]
  unfold maxLen
  omega
set_option maxHeartbeats 1000000 in
theorem markText_any (k0 : Nat) (h0 : 0 < k0) (h1 : k0 ≤ 1000000000) (w : World) :
    Calls Tryz.prog 122 #[.int .i64 k0] w fun e w' => e = .returned (.string (markT k0)) ∧ Below w.heap.size w w' := by
  go_enter Tryz.func122, Tryz.ntmps122
  go_wp2
  go_loopw [0, 3] (fun y s wr => ∃ (k f : Nat) (out : ByteArray), y = .int .i64 k ∧ s = .string out ∧ k < 10 ^ f ∧ k ≤ 1000000000 ∧ f ≤ 20 ∧ out.size ≤ 20 - f ∧ digT f k out = digT 20 k0 ByteArray.empty ∧ Below w.heap.size w wr) (fun y _ _ => (intOf y).toNat)
  case atStart => exact ⟨k0, 20, ByteArray.empty, rfl, rfl, by omega, by omega, by omega, by simp, rfl, Below.refl _ _⟩
  case round =>
    obtain ⟨k, f, out, rfl, rfl, hk, hkb, hf, hsz, hd, hb⟩ := hrel
    have HD : Hid (digT f k out = digT 20 k0 ByteArray.empty) := hd
    clear hd
    have HP : Hid (k < 10 ^ f) := hk
    clear hk
    by_cases hk0 : k = 0
    · subst hk0
      go_wp2
      go_ret
      have e := HD.out
      rw [digT_zero] at e
      exact ⟨by unfold markT; rw [← e]; rfl, hb⟩
    · obtain ⟨f', hf'⟩ : ∃ f', f = f' + 1 := by
        cases f with
        | zero => exact absurd HP.out (by simp; omega)
        | succ f' => exact ⟨f', rfl⟩
      have HF : Hid (f = f' + 1) := hf'
      clear hf'
      have h48 : (48 + (k : Int) % 10) % 256 = 48 + (k : Int) % 10 := by omega
      have HC : ∀ ct, (convert 44 9 (.slice (some ⟨wr.heap.size, 0, none⟩) 1 ct)).run Tryz.prog (wr.alloc (.cells #[.int .u8 (48 + (k : Int) % 10)] 5)) = .ok (.string (strOfNums [48 + (k : Int) % 10])) (wr.alloc (.cells #[.int .u8 (48 + (k : Int) % 10)] 5)) := fun ct =>
        run_convert_bytes_arg _ _ _ Tryz.underlying44 Tryz.underlying5 wr.heap.size 0 1 ct [48 + (k : Int) % 10] rfl (fun i hi => by
          obtain rfl : i = 0 := by omega
          exact (box_new wr #[.int .u8 (48 + (k : Int) % 10)] 5).cell 0) _ Tryz.underlying9
      have hadd : ¬ (strOfNums [48 + (k : Int) % 10]).size + out.size > 9223372036854775807 := by rw [str1_size]; omega
      go_wp2
      go_roundw
      case rel =>
        have e := HD.out
        have p := HP.out
        have q := HF.out
        subst q
        rw [digT, if_neg hk0] at e
        rw [Nat.pow_succ] at p
        exact ⟨k / 10, f', _, val_eq (by omega), rfl, by omega, by omega, by omega, by rw [ByteArray.size_append, str1_size]; omega, e, hb.alloc hb.size _⟩
      case measure => simp [intOf]; omega
end Go.Proofs.YtbmfndjglndnlaaGreat
