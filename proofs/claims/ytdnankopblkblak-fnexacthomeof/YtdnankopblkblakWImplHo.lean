/- Walk of the program's HomeOf. -/
import Derived.Test.YtdnankopblkblakWHome
import Derived.Test.YtdnankopblkblakWNearB
import Derived.Test.YtdnankopblkblakWLetters
namespace Go.Proofs.Ytdnankopblkblak
open Go.RowKit F256
set_option linter.unusedVariables false
set_option linter.unusedSimpArgs false

set_option maxHeartbeats 4000000 in
theorem implHomeOf_any (s : Nat → Int) (b : ByteArray) (hb : b.size ≤ 1048576) (w : World) :
    Calls Try.prog 10 #[shapeV s, .string b] w fun e w' => ∃ x c, e = .returned (intR c x) ∧ HoAns s b x c ∧ Below w.heap.size w w' := by
  unfold shapeV
  go_enter Try.func10, Try.ntmps10
  go_wp2_with fail
  refine (implShape_any s _).mono ?_
  rintro e w1 ⟨x, rfl, hx, B1'⟩
  obtain ⟨X1, X2, B1, z1⟩ := two_new B1'
  obtain ⟨x0, x1, x2, x3, x4, x5, x6, x7, x8⟩ := box9 X1
  obtain ⟨y0, y1, y2, y3⟩ := res_cells X2
  have HX : Hid (Box w1 (w.heap.size + 1) #[.int .i64 0, .int .i64 0] 25) := X2
  clear B1' X1 X2
  rcases hx with ⟨rfl, hx⟩ | ⟨rfl, hx⟩
  · have HN : Hid (¬ OkShape s) := hx
    clear hx
    go_wp2
    exact bodyPost_ret (v := intR 3 0) (by simp [results, Try.results10, go_sem, intR, y0, y1]) rfl ⟨0, 3, rfl, .inl ⟨HN.out, rfl, rfl⟩, (B1.setCell (Nat.le_succ _) _).setCell (Nat.le_succ _) _⟩
  · have HO : Hid (OkShape s) := hx
    clear hx
    go_wp2_with fail
    refine (implName_any b hb _).mono ?_
    rintro e w2 ⟨x, rfl, hx, hw⟩
    obtain rfl := hw.symm
    rcases hx with ⟨rfl, hx⟩ | ⟨rfl, hx⟩
    · have HN : Hid (¬ OkName b) := hx
      clear hx
      go_wp2
      exact bodyPost_ret (v := intR 5 0) (by simp [results, Try.results10, go_sem, intR, y0, y1]) rfl ⟨0, 5, rfl, .inr (.inl ⟨HO.out, HN.out, rfl, rfl⟩), (B1.setCell (Nat.le_succ _) _).setCell (Nat.le_succ _) _⟩
    · have HN : Hid (OkName b) := hx
      clear hx
      have hg : 1 ≤ s 0 := by have := HO.out.1; unfold Shp3 at this; omega
      have hg2 : s 0 ≤ 1000 := by have := HO.out.1; unfold Shp3 at this; omega
      have hb8 : b.size ≤ 8 := HN.out.2.1
      have HM0 : Hid (∀ m : Int, m = (nameSum b b.size : Int) % s 0 → HoAns s b m 0) := fun m hm => .inr (.inr ⟨HO.out, HN.out, rfl, hm⟩)
      obtain ⟨a0, h0⟩ : ∃ a, a = s 0 := ⟨_, rfl⟩
      rw [← h0] at hg hg2 HM0 x0 ⊢
      clear h0 HX
      go_wp2
      go_loop [7, 23] (fun n i => ∃ k : Nat, k ≤ b.size ∧ n = .int .i64 (nameSum b k : Int) ∧ i = .int .i64 k) (fun n i => b.size - (intOf i).toNat)
      case atStart => exact ⟨0, Nat.zero_le _, rfl, rfl⟩
      case round =>
        obtain ⟨k, hk, rfl, rfl⟩ := hrel
        have hs1 := nameSum_lt b k
        by_cases hlt : k < b.size
        · have hik := index_name b k hlt
          have hz0 := nameByte_lt b k
          have HS : Hid (nameSum b (k + 1) = nameSum b k + nameByte b k) := rfl
          obtain ⟨z, hz⟩ : ∃ z, z = nameByte b k := ⟨_, rfl⟩
          rw [← hz] at hik HS hz0
          clear hz
          obtain ⟨m, hm⟩ : ∃ m, m = nameSum b k := ⟨_, rfl⟩
          rw [← hm] at hs1 HS ⊢
          clear hm
          go_wp2
          go_round
          case rel => exact ⟨k + 1, by omega, by rw [HS.out]; go_num, by go_num⟩
          case measure => simp [intOf]; omega
        · obtain rfl : k = b.size := by omega
          obtain ⟨m, hm⟩ : ∃ m, m = nameSum b b.size := ⟨_, rfl⟩
          rw [← hm] at hs1 ⊢
          have HM : Hid (m = nameSum b b.size) := hm
          clear hm
          go_wp2
          exact bodyPost_ret (v := intR 0 ((m : Int) % a0)) (by simp [results, Try.results10, go_sem, intR, y0, y1]) rfl ⟨(m : Int) % a0, 0, rfl, HM0.out _ (by rw [HM.out]), (B1.setCell (Nat.le_succ _) _).setCell (Nat.le_succ _) _⟩
end Go.Proofs.Ytdnankopblkblak
