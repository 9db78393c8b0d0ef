/- Walks of the specification's SplitObject and JoinObject. -/
import Derived.Test.YtdnankopblkblabWSplit
import Derived.Test.YtdnankopblkblabWOwnB
import Derived.Test.YtdnankopblkblabWInt
import Derived.Test.YtdnankopblkblabWBytess
namespace Go.Proofs.Ytdnankopblkblab
open Go.RowKit F256
set_option linter.unusedVariables false
set_option linter.unusedSimpArgs false

/-- the answers of SplitObject to n bytes -/
def SoAns (s : Nat → Int) (n : Nat) (x : Int) : Prop := ∃ v, PfAns s (n : Int) v x
theorem SoAns.one {s : Nat → Int} {n : Nat} {x y : Int} (h : SoAns s n x) (k : SoAns s n y) : x = y := by
  obtain ⟨v, h⟩ := h
  obtain ⟨u, k⟩ := k
  exact (h.one k).2
theorem ok_data {s : Nat → Int} (h : OkShape s) : ∃ D : Nat, s 2 = (D : Int) ∧ 1 ≤ D ∧ D ≤ 3 := by
  have h2 := h.2.1
  unfold Shp at h2
  exact ⟨(s 2).toNat, by omega, by omega, by omega⟩
theorem alloc_cell {w : World} {o : Obj} {b j : Nat} {v : Value} (h : b < w.heap.size) (hc : w.cell? ⟨b, j, none⟩ = some v) : (w.alloc o).cell? ⟨b, j, none⟩ = some v := (cell_alloc_old w o b j h).trans hc
theorem alloc_frozen {w : World} {o : Obj} {b j : Nat} (h : b < w.heap.size) (hc : w.frozen? ⟨b, j, none⟩ = false) : (w.alloc o).frozen? ⟨b, j, none⟩ = false := (frozen_alloc_old w o b j h).trans hc

set_option maxHeartbeats 4000000 in
theorem specSplit_any (s : Nat → Int) (vb : Value) (n : Nat) (f : Nat → Nat) (h1 : Nat) (w : World) (rb : Rd w h1 vb n f) (hh : h1 ≤ w.heap.size) :
    Calls Try.prog 7 #[shapeV s, vb] w fun ee w' => ∃ x v', ee = .returned (bytesR x v') ∧ SoAns s n x ∧ OwnB w' w.heap.size w'.heap.size v' (if x = 0 then partN (s 2).toNat n else 0) (fun _ => 4 * (s 2).toNat) (splitN (s 2).toNat n f) ∧ Below w.heap.size w w' := by
  have HRB : Hid (Rd w h1 vb n f) := rb
  obtain ⟨aob, capb, rfl, hmb, hcb⟩ := rb
  unfold maxLen at hmb
  clear hcb
  have CP := specParts_any s (n : Int)
  have CS := fun (D : Nat) (hD : s 2 = (D : Int)) (hD1 : 1 ≤ D) (hD3 : D ≤ 3) (h1 : Nat) (w : World) => l4Split_any s D n hD hD1 hD3 (.slice aob n capb) f h1 w
  have HCS : Hid (∀ (D : Nat) (hD : s 2 = (D : Int)) (hD1 : 1 ≤ D) (hD3 : D ≤ 3) (h1 : Nat) (w : World) (rb : Rd w h1 (.slice aob n capb) n f) (hh : h1 ≤ w.heap.size) (hn1 : 1 ≤ n) (hn2 : n ≤ 12 * D), Calls Try.prog 18 #[shapeV s, .slice aob n capb] w fun e w' => ∃ v', e = .returned v' ∧ OwnM w' w.heap.size w'.heap.size v' (partN D n) (fun _ => 4 * D) (splitN D n f) ∧ Below w.heap.size w w') := CS
  clear CS
  unfold shapeV at *
  go_enter Try.func7, Try.ntmps7
  go_wp2_with fail
  refine (CP _).mono ?_
  rintro e w1 ⟨x, c, rfl, hp, b1'⟩
  obtain ⟨X1, X2, B1, z1⟩ := two_new b1'
  obtain ⟨x0, x1, x2, x3, x4, x5, x6, x7, x8⟩ := box9 X1
  obtain ⟨y0, y1, y2, y3⟩ := res_cells X2
  have z0 : w.heap.size < w1.heap.size := by omega
  have HP : Hid (PfAns s (n : Int) x c) := hp
  have HX1 : Hid (Box w1 w.heap.size #[.int .i64 (s 0), .int .i64 (s 1), .int .i64 (s 2), .int .i64 (s 3), .int .i64 (s 4), .int .i64 (s 5), .int .i64 (s 6), .int .i64 (s 7), .int .i64 (s 8)] 25) := X1
  have HX2 : Hid (Box w1 (w.heap.size + 1) #[.int .i64 0, .slice none 0 0] 30) := X2
  have BA : Below w.heap.size w (w1.alloc (.cells #[.int .i64 c, .int .i64 x] 37)) := B1.alloc B1.size _
  clear b1' X1 X2 hp CP
  unfold intR
  by_cases hc0 : c = 0
  · subst hc0
    have HOK : Hid (OkShape s ∧ 1 ≤ (n : Int) ∧ (n : Int) ≤ 3 * (s 2 * 4)) := by
      rcases HP.out with ⟨_, h, _⟩ | ⟨_, _, h, _⟩ | ⟨_, _, _, h, _⟩ | ⟨h1, h2, h3, _, _⟩
      · omega
      · omega
      · omega
      · exact ⟨h1, h2, h3⟩
    obtain ⟨D, hD, hD1, hD3⟩ := ok_data HOK.out.1
    have hn1 : 1 ≤ n := by have := HOK.out.2.1; omega
    have hn2 : n ≤ 12 * D := by have := HOK.out.2.2; rw [hD] at this; omega
    have HDT : Hid ((s 2).toNat = D) := by show (s 2).toNat = D; rw [hD]; simp
    have sA : w1.heap.size ≤ (w1.alloc (.cells #[.int .i64 0, .int .i64 x] 37)).heap.size := by simp
    have CSp := HCS.out D hD hD1 hD3 h1 (w1.alloc (.cells #[.int .i64 0, .int .i64 x] 37)) (HRB.out.below BA hh) (Nat.le_trans hh BA.size) hn1 hn2
    have p0 := alloc_cell (o := .cells #[.int .i64 0, .int .i64 x] 37) z0 x0
    have p1 := alloc_cell (o := .cells #[.int .i64 0, .int .i64 x] 37) z0 x1
    have p2 := alloc_cell (o := .cells #[.int .i64 0, .int .i64 x] 37) z0 x2
    have p3 := alloc_cell (o := .cells #[.int .i64 0, .int .i64 x] 37) z0 x3
    have p4 := alloc_cell (o := .cells #[.int .i64 0, .int .i64 x] 37) z0 x4
    have p5 := alloc_cell (o := .cells #[.int .i64 0, .int .i64 x] 37) z0 x5
    have p6 := alloc_cell (o := .cells #[.int .i64 0, .int .i64 x] 37) z0 x6
    have p7 := alloc_cell (o := .cells #[.int .i64 0, .int .i64 x] 37) z0 x7
    have p8 := alloc_cell (o := .cells #[.int .i64 0, .int .i64 x] 37) z0 x8
    clear hD HCS
    go_wp2_with fail
    refine CSp.mono ?_
    rintro e w2 ⟨v2, rfl, om, b2⟩
    have hsl : ∃ ao cap, v2 = .slice ao (partN D n) cap := by
      obtain ⟨g, cap, e, h⟩ := om
      exact ⟨_, _, h.val⟩
    obtain ⟨ao2, cap2, rfl⟩ := hsl
    have hA1 : (w1.alloc (.cells #[.int .i64 0, .int .i64 x] 37)).heap.size = w1.heap.size + 1 := by simp
    have XA : Box (w1.alloc (.cells #[.int .i64 0, .int .i64 x] 37)) (w.heap.size + 1) #[.int .i64 0, .slice none 0 0] 30 := HX2.out.below ((Below.refl w1.heap.size w1).alloc (Nat.le_refl _) _) z1
    have X3 : Box w2 (w.heap.size + 1) #[.int .i64 0, .slice none 0 0] 30 := XA.below b2 XA.lt
    have B2 : Below w.heap.size w w2 := BA.trans (b2.mono BA.size)
    have HOM : Hid (OwnM w2 (w1.heap.size + 1) w2.heap.size (.slice ao2 (partN D n) cap2) (partN D n) (fun _ => 4 * D) (splitN D n f)) := by
      show OwnM w2 (w1.heap.size + 1) w2.heap.size _ _ _ _
      rw [← hA1]; exact om
    have z2 := X3.lt
    obtain ⟨r0, r1, r2, r3⟩ := res_cells X3
    clear om b2 CSp XA X3 p0 p1 p2 p3 p4 p5 p6 p7 p8 x0 x1 x2 x3 x4 x5 x6 x7 x8 y0 y1 y2 y3
    go_wp2
    refine bodyPost_ret (v := bytesR 0 (.slice ao2 (partN D n) cap2)) (by simp [results, Try.results7, go_sem, bytesR, r0, r1]) rfl ⟨0, _, rfl, ⟨x, HP.out⟩, ?_, (B2.setCell (Nat.le_succ _) _).setCell (Nat.le_succ _) _⟩
    have o1 := out_store w2 (w.heap.size + 1) (w.heap.size + 2) (w.heap.size + 1) 0 (.int .i64 0) (Nat.le_refl _) (by omega)
    have o2 := out_store (w2.setCell ⟨w.heap.size + 1, 0, none⟩ (.int .i64 0)) (w.heap.size + 1) (w.heap.size + 2) (w.heap.size + 1) 1 (.slice ao2 (partN D n) cap2) (Nat.le_refl _) (by omega)
    simp only [if_pos]
    rw [HDT.out]
    exact .inr ((HOM.out.out (o1.trans o2) (.inr (by omega))).weaken (by omega) (by rw [(o1.trans o2).size]; exact Nat.le_refl _))
  · have tc : (c != 0) = true := by simp [hc0]
    clear x0 x1 x2 x3 x4 x5 x6 x7 x8
    go_wp2
    have sz2 : w.heap.size + 1 < ((w1.setCell ⟨w.heap.size + 1, 0, none⟩ (.int .i64 c)).setCell ⟨w.heap.size + 1, 1, none⟩ (.slice none 0 0)).heap.size := by simp; exact z1
    have u0 : ((w1.setCell ⟨w.heap.size + 1, 0, none⟩ (.int .i64 c)).setCell ⟨w.heap.size + 1, 1, none⟩ (.slice none 0 0)).cell? ⟨w.heap.size + 1, 0, none⟩ = some (.int .i64 c) := by simp [go_sem, y0, y1]
    have u1 : ((w1.setCell ⟨w.heap.size + 1, 0, none⟩ (.int .i64 c)).setCell ⟨w.heap.size + 1, 1, none⟩ (.slice none 0 0)).cell? ⟨w.heap.size + 1, 1, none⟩ = some (.slice none 0 0) := by simp [go_sem, y0, y1]
    have q0 := alloc_cell (o := .cells #[.int .i64 c, .int .i64 x] 37) sz2 u0
    have q1 := alloc_cell (o := .cells #[.int .i64 c, .int .i64 x] 37) sz2 u1
    refine bodyPost_ret (v := bytesR c (.slice none 0 0)) (by simp [results, Try.results7, go_sem, bytesR, q0, q1]) rfl ⟨c, _, rfl, ⟨x, HP.out⟩, ?_, ((B1.setCell (Nat.le_succ _) _).setCell (Nat.le_succ _) _).alloc (by simp; omega) _⟩
    rw [if_neg hc0]
    exact OwnB.none _ _ _ _ _
end Go.Proofs.Ytdnankopblkblab
