/- make of a slice whose elements hold slices. -/
import Derived.Test.YtgpglgchbimmaaaLay3
namespace Go.Proofs.Ytgpglgchbimmaaa
open Go.RowKit
set_option linter.unusedVariables false

theorem catN_made (zs : List Value) (hz : 0 < zs.length) (n : Nat) : (madeCells zs.toArray (n * zs.length)).toList = catN n (fun _ => zs) := by
  have hl : ∀ i, i < n → ((fun _ => zs : Nat → List Value) i).length = zs.length := fun _ _ => rfl
  apply List.ext_getElem?
  intro i
  by_cases hi : i < n * zs.length
  · have e : i / zs.length * zs.length + i % zs.length = i := by rw [Nat.mul_comm]; exact Nat.div_add_mod i zs.length
    have hq : i / zs.length < n := (Nat.div_lt_iff_lt_mul hz).2 hi
    have hr := Nat.mod_lt i hz
    have g1 := catN_get hl hq hr
    rw [e] at g1
    rw [g1]
    simp only [madeCells, Array.toList_map, Array.toList_range, List.getElem?_map, List.getElem?_range hi, Option.map_some]
    simp [hr]
  · rw [List.getElem?_eq_none (by simp [size_madeCells]; omega), List.getElem?_eq_none (by rw [catN_len hl]; omega)]

/-- make([]E, n): no element is laid yet -/
theorem wp_makeT {α : Type} (E : Lay α) (zs : List Value) (T e : TypeId) (by_ : Nat) (hs : 0 < E.sz) (hzs : zs.length = E.sz) (hu : Try.prog.underlying T = some (.slice e)) (hi : (Try.prog.info? e).map (fun i => (i.zero.map (·.cells), i.size, i.bytes)) = some (some zs.toArray, E.sz, by_))
    (x : Nat → α) (Ls : Nat → List Nat) (w : World) {ops : Array Oper} {rest : List Oper} {o : Oper} {a : Act} {Q : Exit → Act → World → Prop}
    (hg : o.guard = none) (l c : Operand) (hop : o.op = Op.makeSlice T l c) (L C : Int) (n : Nat) (hl : a.eval l = .int .i64 L) (hc : a.eval c = .int .i64 C) (hL : L = (n : Int)) (hC : C = (n : Int)) (hn : by_ * n ≤ 281474976710656) (hm : n ≤ maxLen)
    (hK : ∀ w', SlP E e w' w.heap.size w.heap.size n n 0 x (fun _ => zs) Ls → Below w.heap.size w w' → wpList Try.prog ops Q rest (a.put o.dst (.slice (some ⟨w.heap.size, 0, none⟩) n n)) w') :
    wpList Try.prog ops Q (o :: rest) a w := by
  obtain ⟨i0, hi0⟩ : ∃ i0, Try.prog.info? e = some i0 := by
    cases h : Try.prog.info? e with
    | none => rw [h] at hi; cases hi
    | some i0 => exact ⟨i0, rfl⟩
  rw [hi0] at hi
  simp only [Option.map_some, Option.some.injEq, Prod.mk.injEq] at hi
  obtain ⟨h1, h2, h3⟩ := hi
  obtain ⟨z, hz, hzc⟩ : ∃ z, i0.zero = some z ∧ z.cells = zs.toArray := by
    cases h : i0.zero with
    | none => rw [h] at h1; cases h1
    | some z => rw [h] at h1; exact ⟨z, rfl, by simpa using h1⟩
  refine wpList_make_full w hg l c T hop w.heap.size e i0 z E.sz hu hi0 hz h2 .i64 .i64 L C n hl hc hL hC (by rw [h3]; exact hn) hm (Nat.le_refl _) ?_
  intro w' hown hgrow
  rw [hzc, ← hzs, catN_made zs (by omega)] at hown
  rw [hzs] at hown
  exact hK w' ⟨hown, fun _ _ => hzs, fun i hi => by omega, by simp [catN_zero], fun b hb => by rw [catN_zero] at hb; cases hb⟩ (below_of_grown hgrow)
end Go.Proofs.Ytgpglgchbimmaaa
