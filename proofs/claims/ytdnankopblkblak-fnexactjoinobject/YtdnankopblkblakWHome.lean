/- Walk of the specification's HomeOf. -/
import Derived.Test.YtdnankopblkblakWName
import Derived.Test.YtdnankopblkblakWInt
namespace Go.Proofs.Ytdnankopblkblak
open Go.RowKit F256
set_option linter.unusedVariables false
set_option linter.unusedSimpArgs false

/-- the sum of a name's first bytes -/
def nameSum (b : ByteArray) : Nat → Nat
  | 0 => 0
  | k + 1 => nameSum b k + nameByte b k
theorem nameSum_lt (b : ByteArray) (k : Nat) : nameSum b k ≤ 255 * k := by
  induction k with
  | zero => exact Nat.le_refl _
  | succ k ih => have := nameByte_lt b k; simp only [nameSum]; omega

set_option maxHeartbeats 4000000 in
theorem specHome_in (s : Nat → Int) (b : ByteArray) (hb : b.size ≤ 8) (hg : 1 ≤ s 0) (hg2 : s 0 ≤ 1000) (w : World) :
    Calls Try.prog 35 #[shapeV s, .string b] w fun e w' => e = .returned (.int .i64 ((nameSum b b.size : Int) % s 0)) ∧ Below w.heap.size w w' := by
  unfold shapeV
  obtain ⟨a0, h0⟩ : ∃ a, a = s 0 := ⟨_, rfl⟩
  rw [← h0] at hg hg2 ⊢
  clear h0
  go_enter Try.func35, Try.ntmps35
  go_wp2
  have B0 : Below w.heap.size w (w.alloc (.cells #[.int .i64 a0, .int .i64 (s 1), .int .i64 (s 2), .int .i64 (s 3), .int .i64 (s 4), .int .i64 (s 5), .int .i64 (s 6), .int .i64 (s 7), .int .i64 (s 8)] 27)) := bnew (Below.refl _ _)
  go_loop [5, 6] (fun n i => ∃ k : Nat, k ≤ b.size ∧ n = .int .i64 (nameSum b k : Int) ∧ i = .int .i64 k) (fun n i => b.size - (intOf i).toNat)
  case atStart => exact ⟨0, Nat.zero_le _, rfl, rfl⟩
  case round =>
    obtain ⟨k, hk, rfl, rfl⟩ := hrel
    have hs1 := nameSum_lt b k
    by_cases hlt : k < b.size
    · have hik := index_name b k hlt
      have hz0 := nameByte_lt b k
      have HS : Hid (nameSum b (k + 1) = nameSum b k + nameByte b k) := rfl
      obtain ⟨z, hz⟩ : ∃ z, z = nameByte b k := ⟨_, rfl⟩
      rw [← hz] at hik HS hz0
      clear hz
      obtain ⟨m, hm⟩ : ∃ m, m = nameSum b k := ⟨_, rfl⟩
      rw [← hm] at hs1 HS ⊢
      clear hm
      go_wp2
      go_round
      case rel => exact ⟨k + 1, by omega, by rw [HS.out]; go_num, by go_num⟩
      case measure => simp [intOf]; omega
    · obtain rfl : k = b.size := by omega
      obtain ⟨m, hm⟩ : ∃ m, m = nameSum b b.size := ⟨_, rfl⟩
      rw [← hm] at hs1 ⊢
      have HM : Hid (m = nameSum b b.size) := hm
      clear hm
      go_wp2
      go_ret
      exact ⟨by rw [← HM.out]; rfl, B0⟩

/-- what HomeOf answers -/
def HoAns (s : Nat → Int) (b : ByteArray) (x c : Int) : Prop :=
  (¬ OkShape s ∧ c = 3 ∧ x = 0) ∨ (OkShape s ∧ ¬ OkName b ∧ c = 5 ∧ x = 0) ∨ (OkShape s ∧ OkName b ∧ c = 0 ∧ x = (nameSum b b.size : Int) % s 0)
theorem HoAns.one {s : Nat → Int} {b : ByteArray} {x c y d : Int} (h : HoAns s b x c) (k : HoAns s b y d) : x = y ∧ c = d := by
  rcases h with ⟨h1, rfl, rfl⟩ | ⟨h1, h2, rfl, rfl⟩ | ⟨h1, h2, rfl, rfl⟩ <;> rcases k with ⟨k1, rfl, rfl⟩ | ⟨k1, k2, rfl, rfl⟩ | ⟨k1, k2, rfl, rfl⟩ <;>
    first | exact ⟨rfl, rfl⟩ | exact absurd h1 k1 | exact absurd k1 h1 | exact absurd h2 k2 | exact absurd k2 h2

theorem two_new {w w1 : World} {cs ds : Array Value} {t u : TypeId} (h : Below ((w.alloc (.cells cs t)).alloc (.cells ds u)).heap.size ((w.alloc (.cells cs t)).alloc (.cells ds u)) w1) :
    Box w1 w.heap.size cs t ∧ Box w1 (w.heap.size + 1) ds u ∧ Below w.heap.size w w1 ∧ w.heap.size + 1 < w1.heap.size := by
  have h2 := bnew h
  have e : (w.alloc (.cells cs t)).heap.size = w.heap.size + 1 := by simp
  have k2 := box_new (w.alloc (.cells cs t)) ds u
  rw [e] at k2
  have z := bsize h
  rw [e] at z
  exact ⟨(box_new w cs t).below h2 (by simp), k2.below h (by simp), bnew h2, z⟩

set_option maxHeartbeats 4000000 in
theorem specHomeOf_any (s : Nat → Int) (b : ByteArray) (hb : b.size ≤ 1048576) (w : World) :
    Calls Try.prog 8 #[shapeV s, .string b] w fun e w' => ∃ x c, e = .returned (intR c x) ∧ HoAns s b x c ∧ Below w.heap.size w w' := by
  unfold shapeV
  go_enter Try.func8, Try.ntmps8
  go_wp2_with fail
  refine (specShape_any s _).mono ?_
  rintro e w1 ⟨x, rfl, hx, B1'⟩
  obtain ⟨X1, X2, B1, z1⟩ := two_new B1'
  obtain ⟨x0, x1, x2, x3, x4, x5, x6, x7, x8⟩ := box9 X1
  obtain ⟨y0, y1, y2, y3⟩ := res_cells X2
  have HX : Hid (Box w1 (w.heap.size + 1) #[.int .i64 0, .int .i64 0] 25) := X2
  clear B1' X1 X2
  rcases hx with ⟨rfl, hx⟩ | ⟨rfl, hx⟩
  · have HN : Hid (¬ OkShape s) := hx
    clear hx
    go_wp2
    exact bodyPost_ret (v := intR 3 0) (by simp [results, Try.results8, go_sem, intR, y0, y1]) rfl ⟨0, 3, rfl, .inl ⟨HN.out, rfl, rfl⟩, (B1.setCell (Nat.le_succ _) _).setCell (Nat.le_succ _) _⟩
  · have HO : Hid (OkShape s) := hx
    clear hx
    go_wp2_with fail
    refine (specName_any b hb _).mono ?_
    rintro e w2 ⟨x, rfl, hx, hw⟩
    obtain rfl := hw.symm
    rcases hx with ⟨rfl, hx⟩ | ⟨rfl, hx⟩
    · have HN : Hid (¬ OkName b) := hx
      clear hx
      go_wp2
      exact bodyPost_ret (v := intR 5 0) (by simp [results, Try.results8, go_sem, intR, y0, y1]) rfl ⟨0, 5, rfl, .inr (.inl ⟨HO.out, HN.out, rfl, rfl⟩), (B1.setCell (Nat.le_succ _) _).setCell (Nat.le_succ _) _⟩
    · have HN : Hid (OkName b) := hx
      clear hx
      go_wp2_with fail
      refine (specHome_in s b HN.out.2.1 (by have := HO.out.1; unfold Shp3 at this; omega) (by have := HO.out.1; unfold Shp3 at this; omega) _).mono ?_
      rintro e w3 ⟨rfl, B2⟩
      have B3 : Below w.heap.size w w3 := B1.trans (B2.mono B1.size)
      obtain ⟨v0, v1, v2, v3⟩ := res_cells (HX.out.below B2 z1)
      obtain ⟨m, hm⟩ : ∃ m, m = (nameSum b b.size : Int) % s 0 := ⟨_, rfl⟩
      rw [← hm]
      have HM : Hid (m = (nameSum b b.size : Int) % s 0) := hm
      clear hm
      go_wp2
      exact bodyPost_ret (v := intR 0 m) (by simp [results, Try.results8, go_sem, intR, v0, v1]) rfl ⟨m, 0, rfl, .inr (.inr ⟨HO.out, HN.out, rfl, HM.out⟩), (B3.setCell (Nat.le_succ _) _).setCell (Nat.le_succ _) _⟩
end Go.Proofs.Ytdnankopblkblak
