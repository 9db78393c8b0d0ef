/- Walks of the two quotients, and of the comparison of two results. -/
import Derived.Test.YteelhafnkkfcbagWPow
namespace Go.Proofs.Yteelhafnkkfcbag
open Go.RowKit F256

/-- a result with a number in it -/
def intR (code value : Int) : Value := .agg #[.int .i64 code, .int .i64 value]

theorem specDiv_zero (a : Nat) (w : World) :
    Calls Try.prog 12 #[.int .u8 a, .int .u8 0] w fun e w' => e = .returned (intR 6 0) ∧ Below w.heap.size w w' := by
  go_enter Try.func12, Try.ntmps12
  go_wp2
  exact bodyPost_ret (v := intR 6 0) (by simp [results, Try.results12, go_sem, intR]) rfl ⟨rfl, (Below.refl _ _).alloc (Nat.le_refl _) _⟩
theorem implDiv_zero (a : Nat) (w : World) :
    Calls Try.prog 13 #[.int .u8 a, .int .u8 0] w fun e w' => e = .returned (intR 6 0) ∧ Below w.heap.size w w' := by
  go_enter Try.func13, Try.ntmps13
  go_wp2
  exact bodyPost_ret (v := intR 6 0) (by simp [results, Try.results13, go_sem, intR]) rfl ⟨rfl, (Below.refl _ _).alloc (Nat.le_refl _) _⟩

theorem bcell {W w1 : World} (hb : Below W.heap.size W w1) : (∀ b o, b < W.heap.size → w1.cell? ⟨b, o, none⟩ = W.cell? ⟨b, o, none⟩) ∧ (∀ b o, b < W.heap.size → w1.frozen? ⟨b, o, none⟩ = W.frozen? ⟨b, o, none⟩) :=
  ⟨fun b o h => hb.cell (p := ⟨b, o, none⟩) h, fun b o h => hb.frozen (p := ⟨b, o, none⟩) h⟩

theorem bnew {w w2 : World} {o : Obj} (h : Below (w.alloc o).heap.size (w.alloc o) w2) : Below w.heap.size w w2 :=
  ((Below.refl _ _).alloc (Nat.le_refl _) o).trans (h.mono (by simp))

theorem bsize {w w2 : World} {o : Obj} (h : Below (w.alloc o).heap.size (w.alloc o) w2) : w.heap.size < w2.heap.size := by
  have := h.size
  simp at this
  omega

theorem specDiv_any (a b : Nat) (ha : a < 256) (hb : b < 256) (h0 : b ≠ 0) (w : World) :
    Calls Try.prog 12 #[.int .u8 a, .int .u8 b] w fun e w' => e = .returned (intR 0 (mulN a (powN b 254))) ∧ Below w.heap.size w w' := by
  have hne : ((b : Int) == 0) = false := by simp; omega
  have hi := powN_lt (a := b) 254
  have hv := mulN_lt (b := powN b 254) ha
  go_enter Try.func12, Try.ntmps12
  go_wp2_with (first | (go_at_call 27; refine (specInv_any _ hb _).mono ?_; rintro e w1 ⟨rfl, rfl⟩) | (go_at_call 8; refine (specMul_any _ _ ha hi _).mono ?_; rintro e w1 ⟨rfl, rfl⟩))
  exact bodyPost_ret (v := intR 0 (mulN a (powN b 254))) (by simp [results, Try.results12, go_sem, intR]) rfl ⟨rfl, (Below.refl _ _).alloc (Nat.le_refl _) _⟩
theorem implDiv_any (a b : Nat) (ha : a < 256) (hb : b < 256) (h0 : b ≠ 0) (w : World) :
    Calls Try.prog 13 #[.int .u8 a, .int .u8 b] w fun e w' => e = .returned (intR 0 (mulN a (powN b 254))) ∧ Below w.heap.size w w' := by
  have hne : ((b : Int) == 0) = false := by simp; omega
  have hi := powN_lt (a := b) 254
  have hv := mulN_lt (b := powN b 254) ha
  go_enter Try.func13, Try.ntmps13
  go_wp2_with (first | (go_at_call 28; refine (implInv_any _ hb _).mono ?_; rintro e w1 ⟨rfl, hb1⟩) | (go_at_call 9; refine (implMul_any _ _ ha hi _).mono ?_; rintro e w2 ⟨rfl, hb2⟩; obtain ⟨hc, hf⟩ := bcell (bthen hb1 hb2)))
  refine bodyPost_ret (v := intR 0 (mulN a (powN b 254))) (by simp [results, Try.results13, go_sem, intR, hc]) rfl ⟨rfl, ?_⟩
  exact ((bnew (bthen hb1 hb2)).setCell (Nat.le_refl _) _).setCell (Nat.le_refl _) _

theorem eqInt_same (c v : Int) (w : World) :
    Calls Try.prog 14 #[intR c v, intR c v] w fun e w' => e = .returned (.bool true) ∧ Below w.heap.size w w' := by
  unfold intR
  go_enter Try.func14, Try.ntmps14
  go_wp2
  go_ret
  exact ⟨rfl, ((Below.refl _ _).alloc (Nat.le_refl _) _).alloc (by simp) _⟩
end Go.Proofs.Yteelhafnkkfcbag
