/- Walk of the specification's JoinObject. -/
import Derived.Test.YtdnankopblkblabWJoinO
import Derived.Test.YtdnankopblkblabShapeB
import Derived.BigQuiet
import Derived.Deep.QuietTactic
namespace Go.Proofs.Ytdnankopblkblab
open Go.RowKit F256
set_option linter.unusedVariables false
set_option linter.unusedSimpArgs false

/-- rows of W bytes, one behind the other -/
def joinW (W : Nat) (f : Mat) : Nat → Nat := fun t => f (t / W) (t % W)
theorem joinW_at (W : Nat) (f : Mat) (k i : Nat) (hi : i < W) : joinW W f (W * k + i) = f k i := by
  unfold joinW
  rw [Nat.mul_add_div (by omega), Nat.mul_add_mod, Nat.div_eq_of_lt hi, Nat.mod_eq_of_lt hi, Nat.add_zero]
theorem Own.cut {w : World} {lo hi g N L cap : Nat} {f : Nat → Nat} (h : Own w lo hi (.slice (some ⟨g, 0, none⟩) N cap) N f) (hL : L ≤ N) : Own w lo hi (.slice (some ⟨g, 0, none⟩) L cap) L f := by
  refine ⟨⟨by rw [cellsOf_length]; omega, ?_⟩, h.2⟩
  rcases h.1.2 with ⟨h1, _⟩ | ⟨g', cap', cur, h1, hbg, hgg, hnc, hcm, hcs, htake⟩
  · cases h1
  · cases h1
    refine .inr ⟨g, cap, cur, rfl, hbg, hgg, by omega, hcm, hcs, ?_⟩
    have h2 : List.take (L * 1) (List.take (N * 1) cur.toList) = List.take (L * 1) (cellsOf N f) := by rw [htake]
    rw [List.take_take, Nat.min_eq_left (by omega)] at h2
    rw [h2]
    apply List.ext_getElem?
    intro i
    rw [List.getElem?_take]
    by_cases hi : i < L
    · rw [if_pos (by omega), cellsOf_get _ _ _ (by omega), cellsOf_get _ _ _ hi]
    · rw [if_neg (by omega), List.getElem?_eq_none (by rw [cellsOf_length]; omega)]

/-- the answers of JoinObject to R lists -/
def JoAns (s : Nat → Int) (R : Nat) (n : Nat → Nat) (l : Int) (x : Int) : Prop :=
  (x ≠ 0 ∧ ∃ v, PfAns s l v x) ∨ (x = 1 ∧ ∃ v, PfAns s l v 0 ∧ ((R : Int) ≠ v ∨ ∃ i, i < R ∧ n i ≠ 4 * (s 2).toNat)) ∨ (x = 0 ∧ ∃ v, PfAns s l v 0 ∧ (R : Int) = v ∧ ∀ i, i < R → n i = 4 * (s 2).toNat)
theorem pf_not1 {s : Nat → Int} {l v : Int} (h : PfAns s l v 1) : False := by
  rcases h with ⟨_, h, _⟩ | ⟨_, _, h, _⟩ | ⟨_, _, _, h, _⟩ | ⟨_, _, _, h, _⟩ <;> omega
theorem JoAns.one {s : Nat → Int} {R : Nat} {n : Nat → Nat} {l x y : Int} (h : JoAns s R n l x) (k : JoAns s R n l y) : x = y := by
  rcases h with ⟨h0, v, h⟩ | ⟨rfl, v, h, h2⟩ | ⟨rfl, v, h, h2, h3⟩ <;> rcases k with ⟨k0, u, k⟩ | ⟨rfl, u, k, k2⟩ | ⟨rfl, u, k, k2, k3⟩
  · exact (h.one k).2
  · exact absurd (h.one k).2 h0
  · exact (h.one k).2
  · exact absurd (h.one k).2.symm k0
  · rfl
  · obtain rfl := (h.one k).1
    rcases h2 with h2 | ⟨i, hi, h2⟩
    · exact absurd k2 h2
    · exact absurd (k3 i hi) h2
  · exact (h.one k).2
  · obtain rfl := (h.one k).1
    rcases k2 with k2 | ⟨i, hi, k2⟩
    · exact absurd h2 k2
    · exact absurd (h3 i hi) k2
  · rfl
theorem l4Wide_be (s : Nat → Int) (W : Nat) (hW : s 2 * 4 = (W : Int)) (h1 : 1 ≤ s 2) (h2 : s 2 ≤ 1000) (w : World) :
    Calls Try.prog 29 #[.agg #[.int .i64 (s 0), .int .i64 (s 1), .int .i64 (s 2), .int .i64 (s 3), .int .i64 (s 4), .int .i64 (s 5), .int .i64 (s 6), .int .i64 (s 7), .int .i64 (s 8)]] w fun e w' => e = .returned (.int .i64 (W : Int)) ∧ Below w.heap.size w w' :=
  (l4Wide_ex s W hW h1 h2 w).mono fun e w' h => ⟨h.1, by rw [h.2]; exact (Below.refl _ _).alloc (Nat.le_refl _) _⟩

end Go.Proofs.Ytdnankopblkblab
