/- Walks of the program's columnInBounds, parityOf and EncodeColumn. -/
import Derived.Test.YtoadjpacchhleajWImplA
import Derived.Test.YtoadjpacchhleajWBld
import Derived.Test.YtoadjpacchhleajColDefs
import Derived.Test.YtoadjpacchhleajWReduce2
import Derived.Test.YtoadjpacchhleajWRankI
namespace Go.Proofs.Ytoadjpacchhleaj
open Go.RowKit F256
set_option linter.unusedVariables false
set_option linter.unusedSimpArgs false

theorem columnInBounds_any (d s : Int) (w : World) :
    Calls Try.prog 37 #[.int .i64 d, .int .i64 s] w (BoolP (Shp3 d s) w) := by
  by_cases h1 : 1 ≤ d
  · by_cases h2 : d ≤ 4
    · by_cases h3 : 0 ≤ s
      · by_cases h4 : s ≤ 2
        · go_enter Try.func37, Try.ntmps37
          go_wp2
          go_ret
          exact boolYes rfl ⟨by omega, by omega, by omega, by omega⟩ (Below.refl _ _)
        · have e4 : decide (s ≤ 2) = false := by simp; omega
          have H : Hid (¬ Shp3 d s) := fun h => h4 h.2.2.2
          clear h4
          go_enter Try.func37, Try.ntmps37
          go_wp2
          go_ret
          exact boolNo rfl H.out (Below.refl _ _)
      · have e3 : decide (0 ≤ s) = false := by simp; omega
        have H : Hid (¬ Shp3 d s) := fun h => h3 h.2.2.1
        clear h3
        go_enter Try.func37, Try.ntmps37
        go_wp2
        go_ret
        exact boolNo rfl H.out (Below.refl _ _)
    · have e2 : decide (d ≤ 4) = false := by simp; omega
      have H : Hid (¬ Shp3 d s) := fun h => h2 h.2.1
      clear h2
      go_enter Try.func37, Try.ntmps37
      go_wp2
      go_ret
      exact boolNo rfl H.out (Below.refl _ _)
  · have e1 : decide (1 ≤ d) = false := by simp; omega
    have H : Hid (¬ Shp3 d s) := fun h => h1 h.1
    clear h1
    go_enter Try.func37, Try.ntmps37
    go_wp2
    go_ret
    exact boolNo rfl H.out (Below.refl _ _)

/-- the row i changed in its place, whatever the rows' lengths -/
theorem OwnE.updN {w w' : World} {lo hi : Nat} {v : Value} {R : Nat} {n : Nat → Nat} {M M' : Mat} {g cap : Nat} {e : Nat → Value} (h : OwnE w lo hi v R n M g cap e) (i : Nat) (hi' : i < R) (hc : Chg (tlo (e i) lo) (thi (e i) lo) w w')
    (ho : Own w' lo hi (e i) (n i) (M' i)) (hM : ∀ j, j < R → j ≠ i → M' j = M j) : OwnE w' lo hi v R n M' g cap e := by
  refine ⟨h.val, h.low, h.high, row_kept h.row fun k hk => ?_, fun j hj => ?_, h.apart⟩
  · have hlt := (h.row.lt k hk).2
    rw [h.val] at hk
    simp [Value.ownBlock] at hk
    subst hk
    exact hc.block g hlt (not_in_tight fun q hq hh => h.apart.1 i hi' (by rw [hq, hh]))
  · by_cases e1 : j = i
    · subst e1; exact ho
    · rw [hM j hj e1]
      refine (h.each j hj).kept fun k hk => ?_
      exact hc.block k ((h.each j hj).1.lt k hk).2 (not_in_tight fun q hq hh => h.apart.2 i j hi' hj (fun x => e1 x.symm) q hq (by rw [← hh]; exact hk))
/-- R rows, none of them there yet -/
theorem ownE_made {w : World} {lo hi g R : Nat} {f : Mat} {n : Nat → Nat} (h : w.ownsRow lo 23 1 (.slice (some ⟨g, 0, none⟩) R R) R (valsOf R fun _ => nilS)) (h1 : lo ≤ g) (h2 : g < hi) (hn : ∀ i, i < R → n i = 0) :
    OwnE w lo hi (.slice (some ⟨g, 0, none⟩) R R) R n f g R (fun _ => nilS) :=
  ⟨rfl, h1, h2, h, fun i hi => by rw [hn i hi]; exact own_nil _ _ _ _, ⟨fun i hi h => by simp [Value.ownBlock] at h, fun i j hi hj hne k hk => by simp [Value.ownBlock] at hk⟩⟩
/-- the rows' lengths behind k of them -/
def lenN (N k : Nat) : Nat → Nat := fun i => if i < k then N else 0
/-- the rows P, of which the row k is summed up to m -/
def sumM (P : Mat) (f : Mat) (G : Nat → Nat) (k m : Nat) : Mat := fun i => if i = k then mixN f G m else P i

end Go.Proofs.Ytoadjpacchhleaj
