/- What the walk writes of bits, as plain numbers. -/
import Derived.Test.YtgpglgchbimmaaaField
import Derived.WalkKit
namespace Go.Proofs.Ytgpglgchbimmaaa
open Go.RowKit F256

theorem val_eq {k : IntKind} {x y : Int} (h : x = y) : Value.int k x = Value.int k y := by rw [h]
theorem ret_eq {k : IntKind} {x y : Int} (h : x = y) : Ending.returned (Value.int k x) = Ending.returned (Value.int k y) := by rw [h]

theorem i64_xor_nat (a b : Nat) (ha : a < 65536) (hb : b < 65536) : bits .xor .i64 (a : Int) (b : Int) = ((a ^^^ b : Nat) : Int) := by
  have ha' : a % 2 ^ 64 = a := Nat.mod_eq_of_lt (by omega)
  have hb' : b % 2 ^ 64 = b := Nat.mod_eq_of_lt (by omega)
  have hx : a ^^^ b < 2 ^ 16 := Nat.xor_lt_two_pow (by omega) (by omega)
  show IntKind.i64.wrap ((BitVec.ofInt 64 (a : Int) ^^^ BitVec.ofInt 64 (b : Int)).toNat : Int) = _
  rw [BitVec.toNat_xor, BitVec.ofInt_natCast, BitVec.ofInt_natCast, BitVec.toNat_ofNat, BitVec.toNat_ofNat, ha', hb', IntKind.wrap_i64]
  omega

theorem bit_val (b k : Nat) (hb : b < 256) : bits .and .u8 ((b : Int) / 2 ^ k) 1 = ((b / 2 ^ k % 2 : Nat) : Int) := by
  have e : ((b : Int) / 2 ^ k) = ((b / 2 ^ k : Nat) : Int) := by simp
  have hlt : b / 2 ^ k < 256 := Nat.lt_of_le_of_lt (Nat.div_le_self _ _) hb
  rw [e]
  have := u8_and_nat (b / 2 ^ k) 1 hlt (by decide)
  rw [show ((1 : Nat) : Int) = 1 from rfl] at this
  rw [this]
  rw [show (1 : Nat) = 2 ^ 1 - 1 from rfl, Nat.and_two_pow_sub_one_eq_mod]
theorem bit_yes {b k : Nat} (hb : b < 256) (h : (bits .and .u8 ((b : Int) / 2 ^ k) 1 == 1) = true) : b / 2 ^ k % 2 = 1 := by
  rw [bit_val b k hb, beq_iff_eq] at h
  omega
theorem bit_no {b k : Nat} (hb : b < 256) (h : (bits .and .u8 ((b : Int) / 2 ^ k) 1 == 1) = false) : ¬ b / 2 ^ k % 2 = 1 := by
  rw [bit_val b k hb] at h
  intro e
  rw [e] at h
  exact absurd h (by decide)

theorem o_yes {a b k : Nat} (ha : a < 256) (hb : b < 256) (h : (bits .and .u8 ((b : Int) / 2 ^ k) 1 == 1) = true) :
    bits .xor .i64 (accN a b k : Int) (tabN a k : Int) = ((accN a b (k + 1) : Nat) : Int) := by
  have h1 := accN_lt (b := b) ha k
  have h2 := tabN_lt ha k
  rw [i64_xor_nat _ _ (by omega) (by omega)]
  simp only [accN, if_pos (bit_yes hb h)]
theorem o_no {a b k : Nat} (hb : b < 256) (h : (bits .and .u8 ((b : Int) / 2 ^ k) 1 == 1) = false) :
    (accN a b k : Int) = ((accN a b (k + 1) : Nat) : Int) := by
  simp only [accN, if_neg (bit_no hb h)]
theorem x_over {a k : Nat} (ha : a < 256) (h : (255 : Int) < 2 * (tabN a k : Int)) : bits .xor .i64 (2 * (tabN a k : Int)) 285 = ((tabN a (k + 1) : Nat) : Int) := by
  have h2 := tabN_lt ha k
  have := i64_xor_nat (2 * tabN a k) 285 (by omega) (by omega)
  rw [show ((2 * tabN a k : Nat) : Int) = 2 * (tabN a k : Int) by omega, show ((285 : Nat) : Int) = 285 from rfl] at this
  rw [this]
  simp only [tabN, dblN]
  rw [if_pos (by omega)]
theorem x_in {a k : Nat} (h : 2 * (tabN a k : Int) ≤ 255) : 2 * (tabN a k : Int) = ((tabN a (k + 1) : Nat) : Int) := by
  simp only [tabN, dblN]
  rw [if_neg (by omega)]
  omega

theorem bthen {w w1 w2 : World} (h : Below w.heap.size w w1) (k : Below w1.heap.size w1 w2) : Below w.heap.size w w2 := h.trans (k.mono h.size)

theorem bcell {W w1 : World} (hb : Below W.heap.size W w1) : (∀ b o, b < W.heap.size → w1.cell? ⟨b, o, none⟩ = W.cell? ⟨b, o, none⟩) ∧ (∀ b o, b < W.heap.size → w1.frozen? ⟨b, o, none⟩ = W.frozen? ⟨b, o, none⟩) :=
  ⟨fun b o h => hb.cell (p := ⟨b, o, none⟩) h, fun b o h => hb.frozen (p := ⟨b, o, none⟩) h⟩

theorem bnew {w w2 : World} {o : Obj} (h : Below (w.alloc o).heap.size (w.alloc o) w2) : Below w.heap.size w w2 :=
  ((Below.refl _ _).alloc (Nat.le_refl _) o).trans (h.mono (by simp))

theorem bsize {w w2 : World} {o : Obj} (h : Below (w.alloc o).heap.size (w.alloc o) w2) : w.heap.size < w2.heap.size := by
  have := h.size
  simp at this
  omega

end Go.Proofs.Ytgpglgchbimmaaa
