/- Walks of the two CauchyG. -/
import Derived.Test.YtnjgpbnlkbcblaaWPow
import Derived.Test.YtnjgpbnlkbcblaaWBytes
import Derived.Deep.RegionLaw
namespace Go.Proofs.Ytnjgpbnlkbcblaa
open Go.RowKit F256
set_option linter.unusedSimpArgs false

/-- the byte in the place t, in rows of C -/
def cau (C t : Nat) : Nat := powN ((128 + t / C) ^^^ (t % C)) 254
theorem cau_at (C j i : Nat) (hi : i < C) : cau C (j * C + i) = powN ((128 + j) ^^^ i) 254 := by
  unfold cau
  have h1 : (j * C + i) / C = j := by rw [Nat.add_comm, Nat.mul_comm, Nat.add_mul_div_left _ _ (by omega), Nat.div_eq_of_lt hi, Nat.zero_add]
  have h2 : (j * C + i) % C = i := by rw [Nat.add_comm, Nat.mul_comm, Nat.add_mul_mod_self_left, Nat.mod_eq_of_lt hi]
  rw [h1, h2]

/-- the struct that the specification fills, k bytes of it filled -/
def CS (w wr : World) (C k : Nat) (ao : Option Addr) (cap : Nat) : Prop :=
  Own wr (w.heap.size + 2) wr.heap.size (.slice ao k cap) k (cau C) ∧ Box wr (w.heap.size + 1) #[.int .i64 0, .slice ao k cap] 26 ∧ Box wr w.heap.size #[.int .i64 0, .slice none 0 0] 26 ∧ Below w.heap.size w wr
theorem CS.start (w : World) (C : Nat) : CS w ((w.alloc (.cells #[.int .i64 0, .slice none 0 0] 26)).alloc (.cells #[.int .i64 0, .slice none 0 0] 26)) C 0 none 0 :=
  ⟨own_nil _ _ _ _, heap_alloc2_new w _ _, heap_alloc2_old w _ _, ((Below.refl _ _).alloc (Nat.le_refl _) _).alloc (by simp) _⟩
theorem CS.next {w wr w1 wd : World} {C k : Nat} {ao ao' : Option Addr} {cap cap' : Nat} {o : Obj} (h : CS w wr C k ao cap) (hd : wd.heap = (wr.alloc o).heap) (ho : wd.os = wr.os) (ht : wd.tape = wr.tape) (hp : wd.output = wr.output)
    (hown : Own w1 (w.heap.size + 2) w1.heap.size (.slice ao' (k + 1) cap') (k + 1) (cau C)) (hb : Below (w.heap.size + 2) wd w1) :
    CS w (w1.setCell ⟨w.heap.size + 1, 1, none⟩ (.slice ao' (k + 1) cap')) C (k + 1) ao' cap' := by
  obtain ⟨h1, h2, h3, h4⟩ := h
  have l2 := h2.lt
  have bx : ∀ b, b < w.heap.size + 2 → w1.heap[b]? = wr.heap[b]? := fun b hbb => by rw [hb.block b hbb, hd]; exact Below.heap_alloc wr o b (by omega)
  have b2 : w1.heap[w.heap.size + 1]? = some (.cells #[.int .i64 0, .slice ao k cap] 26 (0, 0)) := (bx _ (by omega)).trans h2
  have hsz : wr.heap.size ≤ w1.heap.size := by have := hb.size; rw [hd] at this; simp at this; omega
  refine ⟨?_, ?_, ?_, ?_⟩
  · have o1 := out_store w1 (w.heap.size + 1) (w.heap.size + 2) (w.heap.size + 1) 1 (.slice ao' (k + 1) cap') (Nat.le_refl _) (by omega)
    exact (hown.out o1 (.inr (Nat.le_refl _))).weaken (Nat.le_refl _) (Nat.le_of_eq o1.size.symm)
  · exact heap_setCell_same w1 (w.heap.size + 1) 1 _ _ _ b2
  · exact (heap_setCell_other w1 ⟨w.heap.size + 1, 1, none⟩ w.heap.size _ (by show w.heap.size ≠ w.heap.size + 1; omega)).trans ((bx _ (by omega)).trans h3)
  · refine ⟨(hb.os.trans ho).trans h4.os, (hb.tape.trans ht).trans h4.tape, (hb.output.trans hp).trans h4.output, by simp; have := h4.size; omega, fun b hbb => ?_⟩
    exact (heap_setCell_other w1 ⟨w.heap.size + 1, 1, none⟩ b _ (by show b ≠ w.heap.size + 1; omega)).trans ((bx _ (by omega)).trans (h4.block b hbb))

end Go.Proofs.Ytnjgpbnlkbcblaa
