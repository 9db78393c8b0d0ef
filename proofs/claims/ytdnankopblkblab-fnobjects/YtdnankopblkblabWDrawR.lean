/- Walks of the draw of a row and of lwBytes. What is drawn is not told, only its bounds. -/
import Derived.Test.YtdnankopblkblabWDraw2
namespace Go.Proofs.Ytdnankopblkblab
open Go.RowKit F256
set_option linter.unusedVariables false
set_option linter.unusedSimpArgs false

theorem l1Pick_list (bs t : Nat) (v : Value) (n : Nat) (f : Nat → Nat) (l : List Int) (bl cap : Nat) (ht : t ≤ 1000000) (hl : 1 ≤ l.length) (hl2 : l.length ≤ 100000)
    (w : World) (h : Src w bs t v n f) (hb : Box w bl (l.map fun x => Value.int .i64 x).toArray 2) (hne : bl ≠ bs) :
    Calls Try.prog 23 #[.pointer (some ⟨bs, 0, none⟩), .slice (some ⟨bl, 0, none⟩) l.length cap] w fun e w' => ∃ x : Int, x ∈ l ∧ e = .returned (.int .i64 x) ∧ Src w' bs (t + 1) v n f ∧ Chg bs (bs + 1) w w' := by
  have e1 : (l.map fun x => Value.int .i64 x).toArray.size = l.length := by simp
  have C := l1Pick_any bs t v n f (l.map fun x => Value.int .i64 x).toArray (fun i => l.getD i 0) bl cap ht (by rw [e1]; exact hl) (by rw [e1]; exact hl2) (fun i hi => by
    rw [e1] at hi
    simp [List.getD, List.getElem?_eq_getElem hi]) w h hb hne
  rw [e1] at C
  refine C.mono fun e w' ⟨i, hi, he, hs, hc⟩ => ⟨l.getD i 0, ?_, he, hs, hc⟩
  simp [List.getD, List.getElem?_eq_getElem hi]

theorem l1Max_any (a b : Int) (w : World) : Calls Try.prog 14 #[.int .i64 a, .int .i64 b] w fun e w' => e = .returned (.int .i64 (if b < a then a else b)) ∧ w' = w := by
  by_cases h : b < a
  · rw [if_pos h]
    go_enter Try.func14, Try.ntmps14
    go_wp2
    go_ret
    exact ⟨rfl, rfl⟩
  · rw [if_neg h]
    have h1 : decide (b < a) = false := by simp; omega
    clear h
    go_enter Try.func14, Try.ntmps14
    go_wp2
    go_ret
    exact ⟨rfl, rfl⟩
theorem l1Min_any (a b : Int) (w : World) : Calls Try.prog 25 #[.int .i64 a, .int .i64 b] w fun e w' => e = .returned (.int .i64 (if a < b then a else b)) ∧ w' = w := by
  by_cases h : a < b
  · rw [if_pos h]
    go_enter Try.func25, Try.ntmps25
    go_wp2
    go_ret
    exact ⟨rfl, rfl⟩
  · rw [if_neg h]
    have h1 : decide (a < b) = false := by simp; omega
    clear h
    go_enter Try.func25, Try.ntmps25
    go_wp2
    go_ret
    exact ⟨rfl, rfl⟩

set_option maxHeartbeats 400000 in
theorem lwBytes_same (v1 v2 : Value) (n : Nat) (f : Nat → Nat) (h1 h2 : Nat) (w : World) (r1 : Rd w h1 v1 n f) (r2 : Rd w h2 v2 n f) :
    Calls Try.prog 9 #[v1, v2] w fun e w' => e = .returned (.bool true) ∧ Below w.heap.size w w' := by
  obtain ⟨ao, cap, rfl, hm, hc⟩ := r1
  obtain ⟨ao2, cap2, rfl, _, hc2⟩ := r2
  unfold maxLen at hm
  go_enter Try.func9, Try.ntmps9
  go_wp2
  go_loopw [5] (fun i wr => ∃ k : Nat, k ≤ n ∧ i = .int .i64 k ∧ ∃ m, wr = w.drewN m) (fun i _ => n - (intOf i).toNat)
  case atStart => exact ⟨0, Nat.zero_le _, rfl, 0, rfl⟩
  case round =>
    obtain ⟨k, hk, rfl, m, rfl⟩ := hrel
    by_cases hlt : k < n
    · obtain ⟨b, off, rfl, hblt, hcell⟩ := hc (by omega)
      obtain ⟨b2, off2, rfl, hblt2, hcell2⟩ := hc2 (by omega)
      have hck : w.cell? ⟨b, off + k, none⟩ = some (.int .u8 (f k)) := hcell k hlt
      have hck2 : w.cell? ⟨b2, off2 + k, none⟩ = some (.int .u8 (f k)) := hcell2 k hlt
      clear hc hc2 hcell hcell2
      go_wp2
      go_quiet (fail)
      go_wp2
      go_roundw
      case rel => exact ⟨k + 1, by omega, by go_num, _, rfl⟩
      case measure => simp [intOf]; omega
    · have hkn : k = n := by omega
      subst hkn
      go_wp2
      go_ret
      exact ⟨rfl, below_drewN (Below.refl _ _) _⟩
end Go.Proofs.Ytdnankopblkblab
