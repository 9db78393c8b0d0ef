/- A variable of a struct's type made and filled in one step. -/
import Derived.Test.YtapnjoophlckoaaOwnM2
import Derived.Test.YtapnjoophlckoaaWJoin
import Derived.Test.YtapnjoophlckoaaWCauchy
import Derived.Test.YtapnjoophlckoaaWMix
import Derived.Test.YtapnjoophlckoaaGaussT
import Derived.Deep.DeepCutAuto
import Derived.Test.YtapnjoophlckoaaWInts
import Derived.BigQuiet
import Derived.Deep.QuietTactic
import Derived.Test.YtapnjoophlckoaaGaussW
import Derived.Test.YtapnjoophlckoaaNth
import Derived.Test.YtapnjoophlckoaaWSz
import Derived.Test.YtapnjoophlckoaaShapeV
import Derived.Test.YtapnjoophlckoaaCells
import Derived.Test.YtapnjoophlckoaaProg
import Derived.Test.YtapnjoophlckoaaBits
import Derived.WalkLawsBesides
import Derived.Lib.QuietBelow
import Derived.Test.YtapnjoophlckoaaLay8
import Derived.Deep.RegionLaw
import Derived.Test.YtapnjoophlckoaaOpensD
import Derived.Test.YtapnjoophlckoaaWToT
import Derived.Test.YtapnjoophlckoaaWEqT
import Derived.Test.YtapnjoophlckoaaWMkT
import Derived.Test.YtapnjoophlckoaaWHdT
import Derived.Test.YtapnjoophlckoaaWSzT
import Derived.Laws.CopyOwn
import Derived.Maps.AppendAt
import Derived.Test.YtapnjoophlckoaaLay7
import Derived.Test.YtapnjoophlckoaaWorldD
import Derived.Deep.MidRow
import Derived.Laws.Tables
import Derived.Laws.Rows
namespace Go.Proofs.Ytapnjoophlckoaa
open Go.RowKit F256
set_option linter.unusedVariables false
set_option linter.unusedSimpArgs false

/-- append(v, x...), v empty and the call's own, x a slice that the call owns -/
theorem wp_appendC {ops : Array Oper} {rest : List Oper} {o : Oper} {a : Act} {w : World} {Q : Exit → Act → World → Prop}
    (hg : o.guard = none) (s x : Operand) (hop : o.op = Op.call { callee := Callee.builtin Builtin.append, args := #[s, x], argTypes := #[23, 23] })
    (lo hi : Nat) (v : Value) (z : Nat → Nat) (hs : a.eval s = v) (hown : Own w lo hi v 0 z) (lo2 hi2 : Nat) (xv : Value) (m : Nat) (f : Nat → Nat) (hx : a.eval x = xv) (hox : Own w lo2 hi2 xv m f)
    (hm : m ≤ 1000000) (hlo : lo ≤ w.heap.size)
    (hK : ∀ v' w', Own w' lo w'.heap.size v' m f → Below lo w w' → wpList Try.prog ops Q rest (a.put o.dst v') w') : wpList Try.prog ops Q (o :: rest) a w := by
  obtain ⟨i0, hi0, hz0, hz1, hz2⟩ := info_parts info_u8
  have key : ∃ v' w', (Builtin.append_ #[23, 23] o.type #[v, xv]).run Try.prog w = .ok v' w' ∧ Own w' lo w'.heap.size v' m f ∧ Below lo w w' := by
    rcases hox.1.2 with ⟨rfl, rfl⟩ | ⟨g, cap, cur, rfl, hbg, hgg, hnc, hcm, hcs, htake⟩
    · have hr := run_append_owned_none (P := Try.prog) w lo 23 o.type 5 i0 1 Try.underlying23 hi0 v 0 _ hown.1
      refine ⟨v, w, hr, ?_, Below.refl _ _⟩
      have := hown.congr (g := f) (fun i hi => by omega)
      exact ⟨this.1, fun k hk => (this.1.lt k hk).2⟩
    · obtain ⟨v', w', hr, h2, h3, _⟩ := run_append_own (P := Try.prog) w lo 23 o.type 5 i0 (.int .u8 0) 1 1 Try.underlying23 hi0 hz0 hz1 hz2 rfl (by decide) v 0 (cellsOf 0 z) hown.1 ⟨g, 0, none⟩ m cap (cellsOf m f) (by rw [cellsOf_length]; omega)
        (fun j u hj => by
          by_cases hjm : j < m
          · rw [add_none', Nat.zero_add, hox.1.cellAt j (by omega)]
            exact hj
          · rw [List.getElem?_eq_none (by rw [cellsOf_length]; omega)] at hj
            cases hj)
        (cellsOf_one m f) (by unfold maxLen; omega) (by omega) hlo
      have h2' : w'.ownsRow lo 5 1 v' m (cellsOf m f) := by
        have e0 : cellsOf 0 z ++ cellsOf m f = cellsOf m f := rfl
        rw [Nat.zero_add, e0] at h2
        exact h2
      exact ⟨v', w', hr, ⟨h2', fun k hk => (h2'.lt k hk).2⟩, (Below.refl _ _).grown h3 hlo (fun k hk => (hown.1.lt k hk).1)⟩
  refine wpList_plain hg fun K hK' => ?_
  obtain ⟨v', w', hrun, r1, r2⟩ := key
  unfold Oper.wp
  simp [execOp, hop, resolve, invoke, builtin, hs, hx, hrun, Result.andThen]
  exact hK' _ _ (hK v' w' r1 r2)

/-- rows that are gathered one behind the other: the outer slice v, k of them -/
structure Bld (w wr : World) (lo : Nat) (v : Value) (k : Nat) (n : Nat → Nat) (f : Mat) (e : Nat → Value) : Prop where
  row : wr.ownsRow lo 23 1 v k (valsOf k e)
  notnil : v ≠ nilS
  each : ∀ i, i < k → Own wr lo wr.heap.size (e i) (n i) (f i)
  apart : ∀ i j, i < k → j < k → i ≠ j → ∀ b, (e i).ownBlock = some b → (e j).ownBlock ≠ some b
  bel : Below lo w wr
  le : lo ≤ wr.heap.size
/-- a row of slices and a row of bytes lie in two blocks -/
theorem two_blocks {w : World} {lo lo' hi : Nat} {v x : Value} {k n : Nat} {xs : List Value} {f : Nat → Nat} (h : w.ownsRow lo 23 1 v k xs) (ho : Own w lo' hi x n f) (b : Nat) (hb : v.ownBlock = some b) : x.ownBlock ≠ some b := by
  intro hx
  rcases h.2 with ⟨rfl, _⟩ | ⟨g, cap, cur, rfl, _, hg, _⟩
  · cases hb
  · rcases ho.1.2 with ⟨rfl, _⟩ | ⟨g', cap', cur', rfl, _, hg', _⟩
    · cases hx
    · simp [Value.ownBlock] at hb hx
      subst hb
      subst hx
      rw [hg] at hg'
      simp at hg'
theorem Bld.next {w wr w2 w4 : World} {lo : Nat} {v v' x : Value} {k : Nat} {n : Nat → Nat} {f : Mat} {e : Nat → Value} (h : Bld w wr lo v k n f e) (hb : Below wr.heap.size wr w2) (ho : Own w2 wr.heap.size w2.heap.size x (n k) (f k))
    (hr : w4.ownsRow lo 23 1 v' (k + 1) (valsOf k e ++ [x])) (hg : (w2.alloc (.cells #[x] 23)).grownBy w4 v.ownBlock) (hnn : v' ≠ nilS) : Bld w w4 lo v' (k + 1) n f (fun i => if i = k then x else e i) := by
  have hs2 := hb.size
  have hs4 : w2.heap.size + 1 ≤ w4.heap.size := by have := hg.size; simpa using this
  have hv : valsOf k e ++ [x] = valsOf (k + 1) (fun i => if i = k then x else e i) := by
    rw [← valsOf_snoc]
    simp only [if_pos]
    rw [valsOf_eq (e := e) (g := fun i => if i = k then x else e i) (fun i hi => by simp [show ¬ i = k by omega])]
  rw [hv] at hr
  have row2 : w2.ownsRow lo 23 1 v k (valsOf k e) := row_kept h.row fun b hb' => hb.block b (h.row.lt b hb').2
  have kp : ∀ {y : Value} {m : Nat} {q : Nat → Nat} {l : Nat}, Own w2 l w2.heap.size y m q → Own w4 l w4.heap.size y m q := fun {y m q l} hy =>
    (hy.kept fun b hb' => by
      have hlt := hy.2 b hb'
      rw [hg.block b (by simp; omega) (fun hh => two_blocks row2 hy b hh.symm hb')]
      exact Below.heap_alloc w2 _ b hlt).mono (by omega)
  refine ⟨hr, hnn, fun i hi => ?_, fun i j hi hj hne b hbi => ?_, ?_, by have := h.le; omega⟩
  · by_cases c : i = k
    · subst c
      simp only [if_pos]
      exact (kp ho).weaken h.le (Nat.le_refl _)
    · simp only [if_neg c]
      exact kp (((h.each i (by omega)).below hb (Nat.le_refl _)).mono hs2)
  · have new : ∀ b, x.ownBlock = some b → wr.heap.size ≤ b := fun b hb' => (ho.1.lt b hb').1
    have old : ∀ i, i < k → ∀ b, (e i).ownBlock = some b → b < wr.heap.size := fun i hi b hb' => (h.each i hi).2 b hb'
    have hbi2 : (if i = k then x else e i).ownBlock = some b := hbi
    show (if j = k then x else e j).ownBlock ≠ some b
    by_cases c : i = k
    · have c2 : ¬ j = k := fun z => hne (by rw [c, z])
      rw [if_pos c] at hbi2
      rw [if_neg c2]
      intro hh
      have h5 := new b hbi2
      have h6 := old j (by omega) b hh
      omega
    · rw [if_neg c] at hbi2
      by_cases c2 : j = k
      · rw [if_pos c2]
        intro hh
        have h5 := new b hh
        have h6 := old i (by omega) b hbi2
        omega
      · rw [if_neg c2]
        exact h.apart i j (by omega) (by omega) hne b hbi2
  · have b1 : Below lo w w2 := h.bel.trans (hb.mono h.le)
    exact (b1.alloc (by have := h.le; omega) (.cells #[x] 23)).grown hg (by simp; have := h.le; omega) (fun b hb' => (h.row.lt b hb').1)
theorem Bld.done {w wr : World} {lo : Nat} {v : Value} {k : Nat} {n : Nat → Nat} {f : Mat} {e : Nat → Value} (h : Bld w wr lo v k n f e) : OwnM wr lo wr.heap.size v k n f := by
  rcases h.row.2 with ⟨hv, _⟩ | ⟨g, cap, cur, hv, hbg, hg, _⟩
  · exact absurd hv h.notnil
  · refine ⟨g, cap, e, hv, hbg, (Array.getElem?_eq_some_iff.1 hg).1, h.row, h.each, ⟨fun i hi => ?_, h.apart⟩⟩
    exact two_blocks h.row (h.each i hi) g (by rw [hv]; rfl)

/-- rows that are gathered one behind the other, all their blocks in lo..hi -/
structure BldR (wr : World) (lo hi : Nat) (v : Value) (k : Nat) (n : Nat → Nat) (f : Mat) (e : Nat → Value) : Prop where
  row : wr.ownsRow lo 23 1 v k (valsOf k e)
  notnil : v ≠ nilS
  low : ∀ b, v.ownBlock = some b → b < hi
  each : ∀ i, i < k → Own wr lo hi (e i) (n i) (f i)
  apart : ∀ i j, i < k → j < k → i ≠ j → ∀ b, (e i).ownBlock = some b → (e j).ownBlock ≠ some b
  le : lo ≤ hi
  le2 : hi ≤ wr.heap.size
theorem BldR.kept {w w2 : World} {lo hi : Nat} {v : Value} {k : Nat} {n : Nat → Nat} {f : Mat} {e : Nat → Value} (h : BldR w lo hi v k n f e) (hk : ∀ b, lo ≤ b → b < hi → w2.heap[b]? = w.heap[b]?) (hs : hi ≤ w2.heap.size) : BldR w2 lo hi v k n f e :=
  ⟨row_kept h.row fun b hb => hk b (h.row.lt b hb).1 (h.low b hb), h.notnil, h.low, fun i hi => (h.each i hi).kept fun b hb => hk b ((h.each i hi).1.lt b hb).1 ((h.each i hi).2 b hb), h.apart, h.le, hs⟩
theorem BldR.next {w2 w4 : World} {lo hi lo2 hi2 : Nat} {v v' x : Value} {k : Nat} {n n' : Nat → Nat} {f f' : Mat} {e : Nat → Value} (h : BldR w2 lo hi v k n f e) (ho : Own w2 lo2 hi2 x (n' k) (f' k)) (hlo : hi ≤ lo2)
    (hn : ∀ i, i < k → n' i = n i) (hf : ∀ i, i < k → f' i = f i)
    (hr : w4.ownsRow lo 23 1 v' (k + 1) (valsOf k e ++ [x])) (hg : (w2.alloc (.cells #[x] 23)).grownBy w4 v.ownBlock) (hnn : v' ≠ nilS) : BldR w4 lo w4.heap.size v' (k + 1) n' f' (fun i => if i = k then x else e i) := by
  have hs4 : w2.heap.size + 1 ≤ w4.heap.size := by have := hg.size; simpa using this
  have hle := h.le
  have hle2 := h.le2
  have hv : valsOf k e ++ [x] = valsOf (k + 1) (fun i => if i = k then x else e i) := by
    rw [← valsOf_snoc]
    simp only [if_pos]
    rw [valsOf_eq (e := e) (g := fun i => if i = k then x else e i) (fun i hi => by simp [show ¬ i = k by omega])]
  rw [hv] at hr
  have kp : ∀ {y : Value} {m : Nat} {q : Nat → Nat} {l u : Nat}, Own w2 l u y m q → Own w4 l w4.heap.size y m q := fun {y m q l u} hy =>
    ⟨(hy.kept fun b hb' => by
      have hlt := (hy.1.lt b hb').2
      rw [hg.block b (by simp; omega) (fun hh => two_blocks h.row hy b hh.symm hb')]
      exact Below.heap_alloc w2 _ b hlt).1, fun b hb' => by have := (hy.1.lt b hb').2; omega⟩
  refine ⟨hr, hnn, fun b hb => (hr.lt b hb).2, fun i hik => ?_, fun i j hik hj hne b hbi => ?_, by omega, Nat.le_refl _⟩
  · by_cases c : i = k
    · subst c
      simp only [if_pos]
      exact (kp ho).weaken (by omega) (Nat.le_refl _)
    · simp only [if_neg c]
      rw [hn i (by omega), hf i (by omega)]
      exact kp (h.each i (by omega))
  · have new : ∀ b, x.ownBlock = some b → hi ≤ b := fun b hb' => by have := (ho.1.lt b hb').1; omega
    have old : ∀ i, i < k → ∀ b, (e i).ownBlock = some b → b < hi := fun i hi b hb' => (h.each i hi).2 b hb'
    have hbi2 : (if i = k then x else e i).ownBlock = some b := hbi
    show (if j = k then x else e j).ownBlock ≠ some b
    by_cases c : i = k
    · have c2 : ¬ j = k := fun z => hne (by rw [c, z])
      rw [if_pos c] at hbi2
      rw [if_neg c2]
      intro hh
      have h5 := new b hbi2
      have h6 := old j (by omega) b hh
      omega
    · rw [if_neg c] at hbi2
      by_cases c2 : j = k
      · rw [if_pos c2]
        intro hh
        have h5 := new b hh
        have h6 := old i (by omega) b hbi2
        omega
      · rw [if_neg c2]
        exact h.apart i j (by omega) (by omega) hne b hbi2
theorem BldR.done {wr : World} {lo hi : Nat} {v : Value} {k : Nat} {n : Nat → Nat} {f : Mat} {e : Nat → Value} (h : BldR wr lo hi v k n f e) : ∃ g cap, OwnE wr lo hi v k n f g cap e := by
  rcases h.row.2 with ⟨hv, _⟩ | ⟨g, cap, cur, hv, hbg, hg, _⟩
  · exact absurd hv h.notnil
  · refine ⟨g, cap, hv, hbg, h.low g (by rw [hv]; rfl), h.row, h.each, ⟨fun i hi => ?_, h.apart⟩⟩
    exact two_blocks h.row (h.each i hi) g (by rw [hv]; rfl)
/-- a row laid into the place i: its blocks are behind all others -/
theorem OwnE.lay {w : World} {lo hi lo2 hi2 : Nat} {v : Value} {R : Nat} {n n' : Nat → Nat} {M M' : Mat} {g cap : Nat} {e : Nat → Value} {x : Value} (h : OwnE w lo hi v R n M g cap e) (i : Nat) (hi' : i < R) (ho : Own w lo2 hi2 x (n' i) (M' i)) (h1 : hi ≤ lo2) (h2 : hi ≤ hi2)
    (hn : ∀ j, j < R → j ≠ i → n' j = n j) (hM : ∀ j, j < R → j ≠ i → M' j = M j) : OwnE (w.setCell ⟨g, i, none⟩ x) lo hi2 v R n' M' g cap (fun j => if j = i then x else e j) := by
  have hg := h.high
  have hl := h.low
  have hr := h.row
  rw [h.val] at hr
  have hst := (hr.stored i x).1
  rw [valsOf_set R e (fun j => if j = i then x else e j) i x hi' (fun j _ => rfl)] at hst
  have oth : ∀ b, b ≠ g → (w.setCell ⟨g, i, none⟩ x).heap[b]? = w.heap[b]? := fun b hbg => heap_setCell_other w ⟨g, i, none⟩ b _ hbg
  have new : ∀ k, x.ownBlock = some k → hi ≤ k := fun k hk => by have := (ho.1.lt k hk).1; omega
  refine ⟨h.val, h.low, by omega, by rw [h.val]; exact hst, fun j hj => ?_, ⟨fun j hj => ?_, fun j l hj hl hne k hk => ?_⟩⟩
  · by_cases c : j = i
    · subst c
      simp only [if_pos]
      exact (ho.kept fun k hk => oth k (by have := new k hk; omega)).weaken (by omega) (Nat.le_refl _)
    · simp only [if_neg c]
      rw [hM j hj c, hn j hj c]
      exact ((h.each j hj).kept fun k hk => oth k fun hkg => h.apart.1 j hj (by rw [hk, hkg])).weaken (Nat.le_refl _) (by omega)
  · by_cases c : j = i
    · simp only [if_pos c]
      intro hh
      have := new g hh
      omega
    · simp only [if_neg c]
      exact h.apart.1 j hj
  · have low : ∀ q, q < R → ∀ k, (e q).ownBlock = some k → k < hi := fun q hq k hk => (h.each q hq).2 k hk
    by_cases c : j = i
    · have c2 : ¬ l = i := fun z => hne (by rw [c, z])
      simp only [if_pos c] at hk
      simp only [if_neg c2]
      intro hh
      have h1 := new k hk
      have h3 := low l hl k hh
      omega
    · simp only [if_neg c] at hk
      by_cases c2 : l = i
      · simp only [if_pos c2]
        intro hh
        have h1 := new k hh
        have h3 := low j hj k hk
        omega
      · simp only [if_neg c2]
        exact h.apart.2 j l hj hl hne k hk
theorem OwnE.keep {w w2 : World} {lo hi : Nat} {v : Value} {R : Nat} {n : Nat → Nat} {M : Mat} {g cap : Nat} {e : Nat → Value} (h : OwnE w lo hi v R n M g cap e) (hk : ∀ b, lo ≤ b → b < hi → w2.heap[b]? = w.heap[b]?) : OwnE w2 lo hi v R n M g cap e :=
  ⟨h.val, h.low, h.high, row_kept h.row fun b hb => by
    have e1 : b = g := by rw [h.val] at hb; simpa [Value.ownBlock] using hb.symm
    rw [e1]
    exact hk g h.low h.high, fun i hi => (h.each i hi).kept fun b hb => hk b ((h.each i hi).1.lt b hb).1 ((h.each i hi).2 b hb), h.apart⟩

end Go.Proofs.Ytapnjoophlckoaa

namespace Go.Proofs.Ytapnjoophlckoaa
open Go.RowKit F256
set_option linter.unusedVariables false
set_option linter.unusedSimpArgs false

/-- it tells whether P, and changes nothing -/
def BoolP (P : Prop) (w : World) (e : Ending) (w' : World) : Prop := ∃ b : Bool, e = .returned (.bool b) ∧ (b = true ↔ P) ∧ Below w.heap.size w w'
theorem boolYes {P : Prop} {w : World} {e : Ending} {w' : World} (he : e = .returned (.bool true)) (h : P) (hb : Below w.heap.size w w') : BoolP P w e w' := ⟨true, he, ⟨fun _ => h, fun _ => rfl⟩, hb⟩
theorem boolNo {P : Prop} {w : World} {e : Ending} {w' : World} (he : e = .returned (.bool false)) (h : ¬ P) (hb : Below w.heap.size w w') : BoolP P w e w' := ⟨false, he, ⟨fun h => (by cases h), fun hh => absurd hh h⟩, hb⟩
/-- a shape: 1 to 3 data places, 0 to 2 spare ones -/
def Shp (d s : Int) : Prop := 1 ≤ d ∧ d ≤ 3 ∧ 0 ≤ s ∧ s ≤ 2
def WholeP (R : Nat) (n : Nat → Nat) (N : Int) : Prop := (∀ i, i < R → n i = 4) ∧ (R : Int) = N
def SameP (n m : Nat) (f g : Nat → Nat) : Prop := n = m ∧ ∀ i, i < n → f i = g i
set_option maxHeartbeats 1000000 in
theorem l2Same_any (v1 v2 : Value) (n m : Nat) (f g : Nat → Nat) (h1 h2 : Nat) (w : World) (r1 : Rd w h1 v1 n f) (r2 : Rd w h2 v2 m g) :
    Calls Try.prog 34 #[v1, v2] w (BoolP (SameP n m f g) w) := by
  obtain ⟨ao, cap, rfl, hm, hc⟩ := r1
  obtain ⟨ao2, cap2, rfl, hm2, hc2⟩ := r2
  unfold maxLen at hm hm2
  by_cases hnm : n = m
  · subst hnm
    go_enter Try.func34, Try.ntmps34
    go_wp2
    go_loopw [5] (fun i wr => ∃ k : Nat, k ≤ n ∧ i = .int .i64 k ∧ (∀ i, i < k → f i = g i) ∧ ∃ m, wr = w.drewN m) (fun i _ => n - (intOf i).toNat)
    case atStart => exact ⟨0, Nat.zero_le _, rfl, fun i hi => by omega, 0, rfl⟩
    case round =>
      obtain ⟨k, hk, rfl, hall, q, rfl⟩ := hrel
      have HALL : Hid (∀ i, i < k → f i = g i) := hall
      clear hall
      by_cases hlt : k < n
      · obtain ⟨b, off, rfl, hblt, hcell⟩ := hc (by omega)
        obtain ⟨b2, off2, rfl, hblt2, hcell2⟩ := hc2 (by omega)
        have hck : w.cell? ⟨b, off + k, none⟩ = some (.int .u8 (f k)) := hcell k hlt
        have hck2 : w.cell? ⟨b2, off2 + k, none⟩ = some (.int .u8 (g k)) := hcell2 k hlt
        obtain ⟨x, hx⟩ : ∃ x, x = f k := ⟨_, rfl⟩
        obtain ⟨y, hy⟩ : ∃ y, y = g k := ⟨_, rfl⟩
        have HX : Hid (x = f k) := hx
        have HY : Hid (y = g k) := hy
        rw [← hx] at hck
        rw [← hy] at hck2
        clear hc hc2 hcell hcell2 hx hy
        by_cases heq : x = y
        · subst heq
          go_wp2
          go_quiet (fail)
          go_wp2
          go_roundw
          case rel => exact ⟨k + 1, by omega, by go_num, fun i hi => by
                        by_cases c : i = k
                        · rw [c, ← HX.out, ← HY.out]
                        · exact HALL.out i (by omega), _, rfl⟩
          case measure => simp [intOf]; omega
        · have tn : ((x : Int) != (y : Int)) = true := by simp; omega
          go_wp2
          go_quiet (fail)
          go_wp2
          go_ret
          exact boolNo rfl (fun h => absurd (h.2 k hlt) (by rw [← HX.out, ← HY.out]; exact heq)) (below_drewN (below_drewN (Below.refl _ _) _) _)
      · have hkn : k = n := by omega
        subst hkn
        go_wp2
        go_ret
        exact boolYes rfl ⟨rfl, HALL.out⟩ (below_drewN (Below.refl _ _) _)
  · have tn : ((n : Int) != (m : Int)) = true := by simp; omega
    clear hc hc2
    go_enter Try.func34, Try.ntmps34
    go_wp2
    go_ret
    exact boolNo rfl (fun h => hnm h.1) (Below.refl _ _)

end Go.Proofs.Ytapnjoophlckoaa

namespace Go.Proofs.Ytapnjoophlckoaa
open Go.RowKit F256
set_option linter.unusedVariables false
set_option linter.unusedSimpArgs false

/-- the numbers rise, from 0 on and no higher than most -/
def RiseP (n : Nat) (g : Nat → Int) (most : Int) : Prop := ∀ i, i < n → 0 ≤ g i ∧ g i ≤ most ∧ (0 < i → g (i - 1) < g i)

end Go.Proofs.Ytapnjoophlckoaa

namespace Go.Proofs.Ytapnjoophlckoaa
open F256
set_option linter.unusedVariables false

/-- a shape across groups: 1 to 4 of data, 0 to 2 of parity -/
def Shp3 (d s : Int) : Prop := 1 ≤ d ∧ d ≤ 4 ∧ 0 ≤ s ∧ s ≤ 2
/-- all equally long -/
def EvenP (R : Nat) (n : Nat → Nat) : Prop := ∀ i, i < R → n i = n 0
/-- the parity lists -/
def parN (R : Nat) (f : Mat) : Mat := fun j => mixN f (genN R (R + j) 8) R
theorem parN_byt (R : Nat) (f : Mat) : Byt (parN R f) := fun j t => mixN_lt _ _ (genN_lt R (R + j) 8) _ _
/-- the answers of EncodeColumn -/
def CeAns (R : Nat) (n : Nat → Nat) (c : Int) (x : Int) : Prop := (x = 3 ∧ ¬ Shp3 R c) ∨ (x = 1 ∧ Shp3 R c ∧ ¬ EvenP R n) ∨ (x = 2 ∧ Shp3 R c ∧ EvenP R n ∧ 4000 < n 0) ∨ (x = 0 ∧ Shp3 R c ∧ EvenP R n ∧ n 0 ≤ 4000)
theorem CeAns.one {R : Nat} {n : Nat → Nat} {c : Int} {x y : Int} (h : CeAns R n c x) (k : CeAns R n c y) : x = y := by
  rcases h with ⟨rfl, h⟩ | ⟨rfl, h, h2⟩ | ⟨rfl, h, h2, h3⟩ | ⟨rfl, h, h2, h3⟩ <;> rcases k with ⟨rfl, k⟩ | ⟨rfl, k, k2⟩ | ⟨rfl, k, k2, k3⟩ | ⟨rfl, k, k2, k3⟩ <;> first | rfl | exact absurd h k | exact absurd k h | exact absurd h2 k2 | exact absurd k2 h2 | omega
theorem ce_ans (R : Nat) (n : Nat → Nat) (c : Int) : ∃ x, CeAns R n c x := by
  by_cases h : Shp3 R c
  · by_cases h2 : EvenP R n
    · by_cases h3 : n 0 ≤ 4000
      · exact ⟨0, .inr (.inr (.inr ⟨rfl, h, h2, h3⟩))⟩
      · exact ⟨2, .inr (.inr (.inl ⟨rfl, h, h2, by omega⟩))⟩
    · exact ⟨1, .inr (.inl ⟨rfl, h, h2⟩)⟩
  · exact ⟨3, .inl ⟨rfl, h⟩⟩
/-- the lists of a column fit -/
def CfP (R : Nat) (n : Nat → Nat) (f : Mat) (c : Int) : Prop := (0 ≤ c ∧ c ≤ 2) ∧ Shp3 ((R : Int) - c) c ∧ EvenP R n ∧ ∀ j, j < c.toNat → ∀ t, t < n 0 → f (R - c.toNat + j) t = parN (R - c.toNat) f j t
/-- a factor is asked rightly -/
def FacP (g c gr p : Int) : Prop := Shp3 g c ∧ (0 ≤ gr ∧ gr ≤ g - 1) ∧ (0 ≤ p ∧ p ≤ c - 1)
/-- the answers of FactorOf -/
def FacAns (g c gr p : Int) (x v : Int) : Prop := (x = 3 ∧ v = 0 ∧ ¬ FacP g c gr p) ∨ (x = 0 ∧ FacP g c gr p ∧ v = ((powN ((128 + (8 + p.toNat)) ^^^ gr.toNat) 254 : Nat) : Int))
theorem FacAns.one {g c gr p : Int} {x v y u : Int} (h : FacAns g c gr p x v) (k : FacAns g c gr p y u) : x = y ∧ v = u := by
  rcases h with ⟨rfl, rfl, h⟩ | ⟨rfl, h, rfl⟩ <;> rcases k with ⟨rfl, rfl, k⟩ | ⟨rfl, k, rfl⟩
  · exact ⟨rfl, rfl⟩
  · exact absurd k h
  · exact absurd h k
  · exact ⟨rfl, rfl⟩
theorem fac_ans (g c gr p : Int) : ∃ x v, FacAns g c gr p x v := by
  by_cases h : FacP g c gr p
  · exact ⟨0, _, .inr ⟨rfl, h, rfl⟩⟩
  · exact ⟨3, 0, .inl ⟨rfl, rfl, h⟩⟩
/-- the number is among them -/
def HasP (n : Nat) (g : Nat → Int) (x : Int) : Prop := ∃ i, i < n ∧ g i = x
/-- the weights of those that are there: those behind the first n weigh 0 -/
def shareN (n : Nat) (hv : Nat → Nat) (want : Nat) : Nat → Nat := fun i => if i < n then weightsN n 8 hv want i else 0
/-- the answers of ShareOf -/
def ShAns (g c : Int) (m : Nat) (h : Nat → Int) (want : Int) (x : Int) : Prop :=
  (x = 3 ∧ ¬ Shp3 g c) ∨ (x = 1 ∧ Shp3 g c ∧ ¬ RiseP m h (g + c - 1)) ∨ (x = 3 ∧ Shp3 g c ∧ RiseP m h (g + c - 1) ∧ ¬ (0 ≤ want ∧ want ≤ g + c - 1)) ∨
    (x = 7 ∧ Shp3 g c ∧ RiseP m h (g + c - 1) ∧ (0 ≤ want ∧ want ≤ g + c - 1) ∧ HasP m h want) ∨ (x = 10 ∧ Shp3 g c ∧ RiseP m h (g + c - 1) ∧ (0 ≤ want ∧ want ≤ g + c - 1) ∧ ¬ HasP m h want ∧ (m : Int) < g) ∨
    (x = 0 ∧ Shp3 g c ∧ RiseP m h (g + c - 1) ∧ (0 ≤ want ∧ want ≤ g + c - 1) ∧ ¬ HasP m h want ∧ g ≤ (m : Int))
theorem ShAns.one {g c : Int} {m : Nat} {h : Nat → Int} {want : Int} {x y : Int} (a : ShAns g c m h want x) (b : ShAns g c m h want y) : x = y := by
  rcases a with ⟨rfl, a⟩ | ⟨rfl, a, a2⟩ | ⟨rfl, a, a2, a3⟩ | ⟨rfl, a, a2, a3, a4⟩ | ⟨rfl, a, a2, a3, a4, a5⟩ | ⟨rfl, a, a2, a3, a4, a5⟩ <;> rcases b with ⟨rfl, b⟩ | ⟨rfl, b, b2⟩ | ⟨rfl, b, b2, b3⟩ | ⟨rfl, b, b2, b3, b4⟩ | ⟨rfl, b, b2, b3, b4, b5⟩ | ⟨rfl, b, b2, b3, b4, b5⟩ <;> first | rfl | exact absurd a b | exact absurd b a | exact absurd a2 b2 | exact absurd b2 a2 | exact absurd a3 b3 | exact absurd b3 a3 | exact absurd a4 b4 | exact absurd b4 a4 | omega
theorem sh_ans (g c : Int) (m : Nat) (h : Nat → Int) (want : Int) : ∃ x, ShAns g c m h want x := by
  by_cases h1 : Shp3 g c
  · by_cases h2 : RiseP m h (g + c - 1)
    · by_cases h3 : 0 ≤ want ∧ want ≤ g + c - 1
      · by_cases h4 : HasP m h want
        · exact ⟨7, .inr (.inr (.inr (.inl ⟨rfl, h1, h2, h3, h4⟩)))⟩
        · by_cases h5 : (m : Int) < g
          · exact ⟨10, .inr (.inr (.inr (.inr (.inl ⟨rfl, h1, h2, h3, h4, h5⟩))))⟩
          · exact ⟨0, .inr (.inr (.inr (.inr (.inr ⟨rfl, h1, h2, h3, h4, by omega⟩))))⟩
      · exact ⟨3, .inr (.inr (.inl ⟨rfl, h1, h2, h3⟩))⟩
    · exact ⟨1, .inr (.inl ⟨rfl, h1, h2⟩)⟩
  · exact ⟨3, .inl ⟨rfl, h1⟩⟩
theorem rise_nat' {n m : Nat} {g : Nat → Int} {most : Int} (h : RiseP m g most) (hn : n ≤ m) : (∀ k, k < n → g k = ((g k).toNat : Int)) ∧ (∀ k, k < n → ((g k).toNat : Int) ≤ most) ∧ ∀ k, k + 1 < n → (g k).toNat < (g (k + 1)).toNat := by
  refine ⟨fun k hk => ?_, fun k hk => ?_, fun k hk => ?_⟩
  · have := (h k (by omega)).1; omega
  · have h1 := (h k (by omega)).1
    have h2 := (h k (by omega)).2.1
    omega
  · have h1 := (h k (by omega)).1
    have h2 := (h (k + 1) (by omega)).2.2 (by omega)
    rw [show k + 1 - 1 = k by omega] at h2
    omega
/-- the lists of the column that has the first D of those that are there -/
def colN (D : Nat) (n : Nat → Nat) (R : Nat) (f : Mat) : Mat := fun p => mixN (fun k => f (nthN n R k)) (weightsN D 8 (nthN n R) p) D
/-- those that are there are equally long -/
def EvenM (R : Nat) (n : Nat → Nat) : Prop := EvenP (cntN n R) fun t => n (nthN n R t)
/-- the answers of DecodeColumn -/
def DcAns (g c : Int) (R : Nat) (n : Nat → Nat) (x : Int) : Prop :=
  (x = 3 ∧ ¬ Shp3 g c) ∨ (x = 1 ∧ Shp3 g c ∧ (R : Int) ≠ g + c) ∨ (x = 1 ∧ Shp3 g c ∧ (R : Int) = g + c ∧ ¬ EvenM R n) ∨
    (x = 2 ∧ Shp3 g c ∧ (R : Int) = g + c ∧ EvenM R n ∧ (0 < cntN n R ∧ 4000 < n (nthN n R 0))) ∨ (x = 10 ∧ Shp3 g c ∧ (R : Int) = g + c ∧ EvenM R n ∧ ¬ (0 < cntN n R ∧ 4000 < n (nthN n R 0)) ∧ (cntN n R : Int) < g) ∨
    (x = 0 ∧ Shp3 g c ∧ (R : Int) = g + c ∧ EvenM R n ∧ ¬ (0 < cntN n R ∧ 4000 < n (nthN n R 0)) ∧ g ≤ (cntN n R : Int))
theorem DcAns.one {g c : Int} {R : Nat} {n : Nat → Nat} {x y : Int} (a : DcAns g c R n x) (b : DcAns g c R n y) : x = y := by
  rcases a with ⟨rfl, a⟩ | ⟨rfl, a, a2⟩ | ⟨rfl, a, a2, a3⟩ | ⟨rfl, a, a2, a3, a4⟩ | ⟨rfl, a, a2, a3, a4, a5⟩ | ⟨rfl, a, a2, a3, a4, a5⟩ <;> rcases b with ⟨rfl, b⟩ | ⟨rfl, b, b2⟩ | ⟨rfl, b, b2, b3⟩ | ⟨rfl, b, b2, b3, b4⟩ | ⟨rfl, b, b2, b3, b4, b5⟩ | ⟨rfl, b, b2, b3, b4, b5⟩ <;> first | rfl | exact absurd a b | exact absurd b a | exact absurd a2 b2 | exact absurd b2 a2 | exact absurd a3 b3 | exact absurd b3 a3 | exact absurd a4 b4 | exact absurd b4 a4 | omega
theorem dc_ans (g c : Int) (R : Nat) (n : Nat → Nat) : ∃ x, DcAns g c R n x := by
  by_cases h1 : Shp3 g c
  · by_cases h2 : (R : Int) = g + c
    · by_cases h3 : EvenM R n
      · by_cases h4 : 0 < cntN n R ∧ 4000 < n (nthN n R 0)
        · exact ⟨2, .inr (.inr (.inr (.inl ⟨rfl, h1, h2, h3, h4⟩)))⟩
        · by_cases h5 : (cntN n R : Int) < g
          · exact ⟨10, .inr (.inr (.inr (.inr (.inl ⟨rfl, h1, h2, h3, h4, h5⟩))))⟩
          · exact ⟨0, .inr (.inr (.inr (.inr (.inr ⟨rfl, h1, h2, h3, h4, by omega⟩))))⟩
      · exact ⟨1, .inr (.inr (.inl ⟨rfl, h1, h2, h3⟩))⟩
    · exact ⟨1, .inr (.inl ⟨rfl, h1, h2⟩)⟩
  · exact ⟨3, .inl ⟨rfl, h1⟩⟩
/-- the answers of AddShare to n and m bytes -/
def AdsAns (n m : Nat) (x : Int) : Prop := (x = 1 ∧ n ≠ m) ∨ (x = 2 ∧ n = m ∧ 4000 < n) ∨ (x = 0 ∧ n = m ∧ n ≤ 4000)
theorem AdsAns.one {n m : Nat} {x y : Int} (h : AdsAns n m x) (k : AdsAns n m y) : x = y := by
  rcases h with ⟨rfl, h⟩ | ⟨rfl, h, h2⟩ | ⟨rfl, h, h2⟩ <;> rcases k with ⟨rfl, k⟩ | ⟨rfl, k, k2⟩ | ⟨rfl, k, k2⟩ <;> first | rfl | omega
theorem ads_ans (n m : Nat) : ∃ x, AdsAns n m x := by
  by_cases h : n = m
  · by_cases h2 : n ≤ 4000
    · exact ⟨0, .inr (.inr ⟨rfl, h, h2⟩)⟩
    · exact ⟨2, .inr (.inl ⟨rfl, h, by omega⟩)⟩
  · exact ⟨1, .inl ⟨rfl, h⟩⟩
/-- the sum with a share -/
def adsN (f g : Nat → Nat) (c : Nat) : Nat → Nat := fun i => f i ^^^ mulN c (g i)
end Go.Proofs.Ytapnjoophlckoaa

namespace Go.Proofs.Ytapnjoophlckoaa
open Go.RowKit F256
set_option linter.unusedVariables false
set_option linter.unusedSimpArgs false

theorem cellsOf_join (k m : Nat) (g f : Nat → Nat) (hg : ∀ i, i < m → g (k + i) = f i) : cellsOf k g ++ cellsOf m f = cellsOf (k + m) g := by
  apply List.ext_getElem?
  intro i
  by_cases h : i < k
  · rw [List.getElem?_append_left (by rw [cellsOf_length]; exact h), cellsOf_get _ _ _ h, cellsOf_get _ _ _ (by omega)]
  · rw [List.getElem?_append_right (by rw [cellsOf_length]; omega), cellsOf_length]
    by_cases h2 : i - k < m
    · rw [cellsOf_get _ _ _ h2, cellsOf_get _ _ _ (by omega), ← hg _ h2, show k + (i - k) = i by omega]
    · rw [List.getElem?_eq_none (by rw [cellsOf_length]; omega), List.getElem?_eq_none (by rw [cellsOf_length]; omega)]
theorem valsOf_join (k m : Nat) (e e2 : Nat → Value) (hg : ∀ i, i < m → e (k + i) = e2 i) : valsOf k e ++ valsOf m e2 = valsOf (k + m) e := by
  apply List.ext_getElem?
  intro i
  by_cases h : i < k
  · rw [List.getElem?_append_left (by rw [valsOf_length]; exact h), valsOf_get _ _ _ h, valsOf_get _ _ _ (by omega)]
  · rw [List.getElem?_append_right (by rw [valsOf_length]; omega), valsOf_length]
    by_cases h2 : i - k < m
    · rw [valsOf_get _ _ _ h2, valsOf_get _ _ _ (by omega), ← hg _ h2, show k + (i - k) = i by omega]
    · rw [List.getElem?_eq_none (by rw [valsOf_length]; omega), List.getElem?_eq_none (by rw [valsOf_length]; omega)]
theorem row_weaken {w : World} {lo lo' : Nat} {t : TypeId} {v : Value} {k : Nat} {xs : List Value} (h : w.ownsRow lo t 1 v k xs) (hl : lo' ≤ lo) : w.ownsRow lo' t 1 v k xs := by
  refine ⟨h.1, ?_⟩
  rcases h.2 with hn | ⟨g, cap, cur, hg, hbg, rest⟩
  · exact .inl hn
  · exact .inr ⟨g, cap, cur, hg, by omega, rest⟩
theorem row_slice {w : World} {lo : Nat} {t : TypeId} {v : Value} {k : Nat} {xs : List Value} (h : w.ownsRow lo t 1 v k xs) : ∃ ao cap, v = .slice ao k cap := by
  rcases h.2 with ⟨h1, h2⟩ | ⟨g, cap, cur, h1, _⟩
  · subst h2
    exact ⟨_, _, h1⟩
  · exact ⟨_, _, h1⟩
theorem grown_refl (w : World) (o : Option Nat) : w.grownBy w o := ⟨rfl, rfl, rfl, Nat.le_refl _, fun _ _ _ => rfl⟩

/-- append(v, x...) of bytes, x not empty -/
theorem run_appendX (w : World) (ty : TypeId) (lo hi : Nat) (v : Value) (k : Nat) (g : Nat → Nat) (hown : Own w lo hi v k g) (h : Nat) (xv : Value) (m : Nat) (f : Nat → Nat) (hx : Rd w h xv m f) (h0 : 0 < m) (hg : ∀ i, i < m → g (k + i) = f i) (hm : k + m ≤ 1000000) (hlo : lo ≤ w.heap.size) :
    ∃ v' w', (Builtin.append_ #[23, 23] ty #[v, xv]).run Try.prog w = .ok v' w' ∧ Own w' lo w'.heap.size v' (k + m) g ∧ w.grownBy w' v.ownBlock := by
  obtain ⟨i0, hi0, hz0, hz1, hz2⟩ := info_parts info_u8
  obtain ⟨ao, cap, rfl, hml, hc⟩ := hx
  obtain ⟨b, off, rfl, hb, hcell⟩ := hc (by omega)
  obtain ⟨v', w', hr, h2, h3, _⟩ := run_append_own (P := Try.prog) w lo 23 ty 5 i0 (.int .u8 0) 1 1 Try.underlying23 hi0 hz0 hz1 hz2 rfl (by decide) v k (cellsOf k g) hown.1 ⟨b, off, none⟩ m cap (cellsOf m f) (by rw [cellsOf_length]; omega)
    (fun j u hj => by
      by_cases hjm : j < m
      · rw [cellsOf_get _ _ _ hjm] at hj
        cases hj
        rw [add_none']
        exact hcell j hjm
      · rw [List.getElem?_eq_none (by rw [cellsOf_length]; omega)] at hj
        cases hj)
    (cellsOf_one m f) (by unfold maxLen; omega) (by omega) hlo
  rw [cellsOf_join k m g f hg] at h2
  exact ⟨v', w', hr, ⟨h2, fun k hk => (h2.lt k hk).2⟩, h3⟩
theorem wp_appendX {ops : Array Oper} {rest : List Oper} {o : Oper} {a : Act} {w : World} {Q : Exit → Act → World → Prop}
    (hg : o.guard = none) (s x : Operand) (hop : o.op = Op.call { callee := Callee.builtin Builtin.append, args := #[s, x], argTypes := #[23, 23] })
    (lo hi : Nat) (v : Value) (k : Nat) (g : Nat → Nat) (hs : a.eval s = v) (hown : Own w lo hi v k g) (h : Nat) (xv : Value) (m : Nat) (f : Nat → Nat) (hx : a.eval x = xv) (hox : Rd w h xv m f) (h0 : 0 < m) (hgf : ∀ i, i < m → g (k + i) = f i)
    (hm : k + m ≤ 1000000) (hlo : lo ≤ w.heap.size)
    (hK : ∀ v' w', Own w' lo w'.heap.size v' (k + m) g → w.grownBy w' v.ownBlock → wpList Try.prog ops Q rest (a.put o.dst v') w') : wpList Try.prog ops Q (o :: rest) a w := by
  refine wpList_plain hg fun K hK' => ?_
  obtain ⟨v', w', hrun, r1, r2⟩ := run_appendX w o.type lo hi v k g hown h xv m f hox h0 hgf hm hlo
  unfold Oper.wp
  simp [execOp, hop, resolve, invoke, builtin, hs, hx, hrun, Result.andThen]
  exact hK' _ _ (hK v' w' r1 r2)
/-- append(v, x...), v empty in the block p, as a step of a region that draws -/
theorem step_appendC {ops : Array Oper} {o : Oper} {a : Act} {w : World} {K : Act → World → Prop} {Q : Exit → Act → World → Prop} {E : Prop}
    (hg : o.guard = none) (s x : Operand) (hop : o.op = Op.call { callee := Callee.builtin Builtin.append, args := #[s, x], argTypes := #[23, 23] })
    (p : Nat) (z : Nat → Nat) (hs : a.eval s = .slice (some ⟨p, 0, none⟩) 0 0) (hown : Own w p (p + 1) (.slice (some ⟨p, 0, none⟩) 0 0) 0 z) (lo2 hi2 : Nat) (xv : Value) (m : Nat) (f : Nat → Nat) (hx : a.eval x = xv) (hox : Own w lo2 hi2 xv m f)
    (hm : m ≤ 1000000)
    (hK : ∀ v' w', Own w' p w'.heap.size v' m f → Chg p (p + 1) w w' → K (a.put o.dst v') w') :
    if Region.wanted o (yielded ops a.tmps) = true then Oper.wp Try.prog o a w K Q else E := by
  have hw : Region.wanted o (yielded ops a.tmps) = true := by simp [Region.wanted, hg]
  rw [if_pos hw]
  obtain ⟨i0, hi0, hz0, hz1, hz2⟩ := info_parts info_u8
  have hlo : p ≤ w.heap.size := Nat.le_of_lt (hown.1.lt p rfl).2
  have key : ∃ v' w', (Builtin.append_ #[23, 23] o.type #[.slice (some ⟨p, 0, none⟩) 0 0, xv]).run Try.prog w = .ok v' w' ∧ Own w' p w'.heap.size v' m f ∧ Chg p (p + 1) w w' := by
    rcases hox.1.2 with ⟨rfl, rfl⟩ | ⟨g, cap, cur, rfl, hbg, hgg, hnc, hcm, hcs, htake⟩
    · have hr := run_append_owned_none (P := Try.prog) w p 23 o.type 5 i0 1 Try.underlying23 hi0 _ 0 _ hown.1
      refine ⟨_, w, hr, ?_, Chg.refl' _ _ _⟩
      have := hown.congr (g := f) (fun i hi => by omega)
      exact ⟨this.1, fun k hk => (this.1.lt k hk).2⟩
    · obtain ⟨v', w', hr, h2, h3, _⟩ := run_append_own (P := Try.prog) w p 23 o.type 5 i0 (.int .u8 0) 1 1 Try.underlying23 hi0 hz0 hz1 hz2 rfl (by decide) (.slice (some ⟨p, 0, none⟩) 0 0) 0 (cellsOf 0 z) hown.1 ⟨g, 0, none⟩ m cap (cellsOf m f) (by rw [cellsOf_length]; omega)
        (fun j u hj => by
          by_cases hjm : j < m
          · rw [add_none', Nat.zero_add, hox.1.cellAt j (by omega)]
            exact hj
          · rw [List.getElem?_eq_none (by rw [cellsOf_length]; omega)] at hj
            cases hj)
        (cellsOf_one m f) (by unfold maxLen; omega) (by omega) hlo
      have h2' : w'.ownsRow p 5 1 v' m (cellsOf m f) := by
        have e0 : cellsOf 0 z ++ cellsOf m f = cellsOf m f := rfl
        rw [Nat.zero_add, e0] at h2
        exact h2
      refine ⟨v', w', hr, ⟨h2', fun k hk => (h2'.lt k hk).2⟩, ⟨h3.os, h3.tape, h3.output, h3.size, fun k hk hne => h3.block k hk ?_⟩⟩
      simp [Value.ownBlock]
      omega
  obtain ⟨v', w', hrun, r1, r2⟩ := key
  unfold Oper.wp
  simp [execOp, hop, resolve, invoke, builtin, hs, hx, hrun, Result.andThen]
  exact hK v' w' r1 r2
/-- rows that are gathered one behind the other, all their blocks in lo..hi; none yet: nil -/
structure BldO (wr : World) (lo hi : Nat) (v : Value) (k : Nat) (n : Nat → Nat) (f : Mat) (e : Nat → Value) : Prop where
  row : wr.ownsRow lo 23 1 v k (valsOf k e)
  low : ∀ b, v.ownBlock = some b → b < hi
  each : ∀ i, i < k → Own wr lo hi (e i) (n i) (f i)
  apart : ∀ i j, i < k → j < k → i ≠ j → ∀ b, (e i).ownBlock = some b → (e j).ownBlock ≠ some b
  le : lo ≤ hi
  le2 : hi ≤ wr.heap.size
theorem BldO.kept {w w2 : World} {lo hi : Nat} {v : Value} {k : Nat} {n : Nat → Nat} {f : Mat} {e : Nat → Value} (h : BldO w lo hi v k n f e) (hk : ∀ b, lo ≤ b → b < hi → w2.heap[b]? = w.heap[b]?) (hs : hi ≤ w2.heap.size) : BldO w2 lo hi v k n f e :=
  ⟨row_kept h.row fun b hb => hk b (h.row.lt b hb).1 (h.low b hb), h.low, fun i hi => (h.each i hi).kept fun b hb => hk b ((h.each i hi).1.lt b hb).1 ((h.each i hi).2 b hb), h.apart, h.le, hs⟩
theorem BldO.next {w2 w4 : World} {lo hi lo2 hi2 : Nat} {v v' x : Value} {k : Nat} {n n' : Nat → Nat} {f f' : Mat} {e : Nat → Value} (h : BldO w2 lo hi v k n f e) (ho : Own w2 lo2 hi2 x (n' k) (f' k)) (hlo : hi ≤ lo2)
    (hn : ∀ i, i < k → n' i = n i) (hf : ∀ i, i < k → f' i = f i)
    (hr : w4.ownsRow lo 23 1 v' (k + 1) (valsOf k e ++ [x])) (hg : (w2.alloc (.cells #[x] 23)).grownBy w4 v.ownBlock) : BldO w4 lo w4.heap.size v' (k + 1) n' f' (fun i => if i = k then x else e i) := by
  have hs4 : w2.heap.size + 1 ≤ w4.heap.size := by have := hg.size; simpa using this
  have hle := h.le
  have hle2 := h.le2
  have hv : valsOf k e ++ [x] = valsOf (k + 1) (fun i => if i = k then x else e i) := by
    rw [← valsOf_snoc]
    simp only [if_pos]
    rw [valsOf_eq (e := e) (g := fun i => if i = k then x else e i) (fun i hi => by simp [show ¬ i = k by omega])]
  rw [hv] at hr
  have kp : ∀ {y : Value} {m : Nat} {q : Nat → Nat} {l u : Nat}, Own w2 l u y m q → Own w4 l w4.heap.size y m q := fun {y m q l u} hy =>
    ⟨(hy.kept fun b hb' => by
      have hlt := (hy.1.lt b hb').2
      rw [hg.block b (by simp; omega) (fun hh => two_blocks h.row hy b hh.symm hb')]
      exact Below.heap_alloc w2 _ b hlt).1, fun b hb' => by have := (hy.1.lt b hb').2; omega⟩
  refine ⟨hr, fun b hb => (hr.lt b hb).2, fun i hik => ?_, fun i j hik hj hne b hbi => ?_, by omega, Nat.le_refl _⟩
  · by_cases c : i = k
    · subst c
      simp only [if_pos]
      exact (kp ho).weaken (by omega) (Nat.le_refl _)
    · simp only [if_neg c]
      rw [hn i (by omega), hf i (by omega)]
      exact kp (h.each i (by omega))
  · have new : ∀ b, x.ownBlock = some b → hi ≤ b := fun b hb' => by have := (ho.1.lt b hb').1; omega
    have old : ∀ i, i < k → ∀ b, (e i).ownBlock = some b → b < hi := fun i hi b hb' => (h.each i hi).2 b hb'
    have hbi2 : (if i = k then x else e i).ownBlock = some b := hbi
    show (if j = k then x else e j).ownBlock ≠ some b
    by_cases c : i = k
    · have c2 : ¬ j = k := fun z => hne (by rw [c, z])
      rw [if_pos c] at hbi2
      rw [if_neg c2]
      intro hh
      have h5 := new b hbi2
      have h6 := old j (by omega) b hh
      omega
    · rw [if_neg c] at hbi2
      by_cases c2 : j = k
      · rw [if_pos c2]
        intro hh
        have h5 := new b hh
        have h6 := old i (by omega) b hbi2
        omega
      · rw [if_neg c2]
        exact h.apart i j (by omega) (by omega) hne b hbi2
theorem BldO.done {wr : World} {lo hi : Nat} {v : Value} {k : Nat} {n : Nat → Nat} {f : Mat} {e : Nat → Value} (h : BldO wr lo hi v k n f e) (hn : v ≠ nilS) : ∃ g cap, OwnE wr lo hi v k n f g cap e :=
  BldR.done ⟨h.row, hn, h.low, h.each, h.apart, h.le, h.le2⟩
theorem BldO.slice {wr : World} {lo hi : Nat} {v : Value} {k : Nat} {n : Nat → Nat} {f : Mat} {e : Nat → Value} (h : BldO wr lo hi v k n f e) : ∃ ao cap, v = .slice ao k cap := by
  rcases h.row.2 with ⟨h1, h2⟩ | ⟨g, cap, cur, h1, _⟩
  · subst h2
    exact ⟨_, _, h1⟩
  · exact ⟨_, _, h1⟩

end Go.Proofs.Ytapnjoophlckoaa

namespace Go.Proofs.Ytapnjoophlckoaa
open Go.RowKit F256
set_option linter.unusedVariables false
set_option linter.unusedSimpArgs false

end Go.Proofs.Ytapnjoophlckoaa

namespace Go.Proofs.Ytapnjoophlckoaa
open Go.RowKit F256
set_option linter.unusedVariables false
set_option linter.unusedSimpArgs false

/-- a shape that has no fault -/
def OkShape (s : Nat → Int) : Prop := Shp3 (s 0) (s 1) ∧ Shp (s 2) (s 3) ∧ (1 ≤ s 4 ∧ s 4 ≤ 6) ∧ (1 ≤ s 5 ∧ s 5 ≤ 6) ∧ (1 ≤ s 6 ∧ s 6 ≤ 4) ∧ (1 ≤ s 7 ∧ s 7 ≤ 6) ∧ (0 ≤ s 8 ∧ s 8 ≤ 400)
def ShFAns (s : Nat → Int) (x : Int) : Prop := (x = 3 ∧ ¬ OkShape s) ∨ (x = 0 ∧ OkShape s)
theorem ShFAns.one {s : Nat → Int} {x y : Int} (h : ShFAns s x) (k : ShFAns s y) : x = y := by
  rcases h with ⟨rfl, h⟩ | ⟨rfl, h⟩ <;> rcases k with ⟨rfl, k⟩ | ⟨rfl, k⟩ <;> first | rfl | exact absurd h k | exact absurd k h
theorem box9 {w : World} {b : Nat} {t : TypeId} {a0 a1 a2 a3 a4 a5 a6 a7 a8 : Value} (h : Box w b #[a0, a1, a2, a3, a4, a5, a6, a7, a8] t) :
    w.cell? ⟨b, 0, none⟩ = some a0 ∧ w.cell? ⟨b, 1, none⟩ = some a1 ∧ w.cell? ⟨b, 2, none⟩ = some a2 ∧ w.cell? ⟨b, 3, none⟩ = some a3 ∧ w.cell? ⟨b, 4, none⟩ = some a4 ∧ w.cell? ⟨b, 5, none⟩ = some a5 ∧ w.cell? ⟨b, 6, none⟩ = some a6 ∧ w.cell? ⟨b, 7, none⟩ = some a7 ∧ w.cell? ⟨b, 8, none⟩ = some a8 :=
  ⟨h.cell 0, h.cell 1, h.cell 2, h.cell 3, h.cell 4, h.cell 5, h.cell 6, h.cell 7, h.cell 8⟩

end Go.Proofs.Ytapnjoophlckoaa

namespace Go.Proofs.Ytapnjoophlckoaa
open Go.RowKit F256
set_option linter.unusedVariables false
set_option linter.unusedSimpArgs false

/-- the bytes of a string -/
def nameByte (b : ByteArray) (i : Nat) : Nat := if h : i < b.size then (b[i]'h).toNat else 0
theorem nameByte_lt (b : ByteArray) (i : Nat) : nameByte b i < 256 := by
  unfold nameByte
  split
  · exact UInt8.toNat_lt _
  · omega
theorem index_name (b : ByteArray) (i : Nat) (h : i < b.size) (w : World) : (Instr.index 9 (.string b) (.int .i64 (i : Int))).run Try.prog w = .ok (.int .u8 (nameByte b i)) w := by
  rw [run_index_string w 9 b .i64 (i : Int) Try.underlying9, dif_pos ⟨by omega, by omega⟩]
  simp [nameByte, h]
def LetP (y : Nat) : Prop := 97 ≤ y ∧ y ≤ 122
def DigP (y : Nat) : Prop := 48 ≤ y ∧ y ≤ 57
/-- a name that has no fault -/
def OkName (b : ByteArray) : Prop := 1 ≤ b.size ∧ b.size ≤ 8 ∧ LetP (nameByte b 0) ∧ ∀ i, i < b.size → LetP (nameByte b i) ∨ DigP (nameByte b i)
def NmAns (b : ByteArray) (x : Int) : Prop := (x = 5 ∧ ¬ OkName b) ∨ (x = 0 ∧ OkName b)
theorem NmAns.one {b : ByteArray} {x y : Int} (h : NmAns b x) (k : NmAns b y) : x = y := by
  rcases h with ⟨rfl, h⟩ | ⟨rfl, h⟩ <;> rcases k with ⟨rfl, k⟩ | ⟨rfl, k⟩ <;> first | rfl | exact absurd h k | exact absurd k h

end Go.Proofs.Ytapnjoophlckoaa

namespace Go.Proofs.Ytapnjoophlckoaa
open Go.RowKit F256
set_option linter.unusedVariables false

def InP (x a b : Int) : Prop := a ≤ x ∧ x ≤ b
/-- numbers from 0 to most, no two alike -/
def ApartP (n : Nat) (g : Nat → Int) (most : Int) : Prop := ∀ i, i < n → InP (g i) 0 most ∧ ∀ t, t < i → g t ≠ g i
def ItemP (s : Nat → Int) (r : RecD) : Prop :=
  (r.length = -1 ∧ r.data.1 = 0 ∧ r.rows.1 = 0) ∨
  (r.length ≠ -1 ∧ 1 ≤ r.length ∧ r.length ≤ 3 * (s 2 * 4) ∧
    ((0 < r.data.1 ∧ (r.data.1 : Int) = r.length ∧ r.rows.1 = 0) ∨
     (r.data.1 = 0 ∧ (r.rows.1 : Int) = (r.length + s 2 * 4 - 1) / (s 2 * 4) ∧ ApartP r.rows.1 r.rows.2 (s 4 - 1))))
def MoveP (s : Nat → Int) (r : RecD) : Prop := InP r.group 0 (s 0 - 1) ∧ InP r.row 0 (s 4 - 1) ∧ (r.data.1 : Int) = s 2 * 4 ∧ (r.delta.1 : Int) = s 2 * 4
def DoneP (s : Nat → Int) (r : RecD) : Prop := InP r.group 0 (s 0 + s 1 - 1)
def WeightsP (s : Nat → Int) (r : RecD) : Prop := (r.delta.1 : Int) = s 0 + s 1 ∧ r.delta.2 r.group.toNat = 0 ∧ ∀ i, i < r.rows.1 → r.delta.2 (r.rows.2 i).toNat ≠ 0
def ShareP (s : Nat → Int) (r : RecD) : Prop := InP r.group 0 (s 0 + s 1 - 1) ∧ InP r.row 0 (s 4 - 1) ∧ RiseP r.rows.1 r.rows.2 (s 0 + s 1 - 1) ∧ (r.data.1 : Int) = s 2 * 4 ∧ WeightsP s r
def KindP (s : Nat → Int) (r : RecD) : Prop := (r.kind = 1 ∧ ItemP s r) ∨ (r.kind = 2 ∧ MoveP s r) ∨ (r.kind = 3 ∧ DoneP s r) ∨ (r.kind = 4 ∧ ShareP s r)
def noName (r : RecD) : Prop := r.name = ByteArray.empty ∧ r.length = 0
def BlankP (r : RecD) : Prop :=
  (r.kind = 1 ∧ r.group = 0 ∧ r.row = 0 ∧ r.delta.1 = 0) ∨ (r.kind = 2 ∧ noName r ∧ r.rows.1 = 0) ∨
  (r.kind = 3 ∧ noName r ∧ r.row = 0 ∧ r.rows.1 = 0 ∧ r.data.1 = 0 ∧ r.delta.1 = 0) ∨ (r.kind = 4 ∧ noName r)
def NamedP (r : RecD) : Prop := r.kind = 1 → OkName r.name
/-- codes asked one behind the other: the first that falls is told; behind them all K -/
def Stair : List (Prop × Int) → (Int → Prop) → Int → Prop
  | [], K, x => K x
  | (p, c) :: l, K, x => (¬ p ∧ x = c) ∨ (p ∧ Stair l K x)
theorem Stair.fall {p : Prop} {c : Int} {l : List (Prop × Int)} {K : Int → Prop} (h : ¬ p) : Stair ((p, c) :: l) K c := .inl ⟨h, rfl⟩
theorem Stair.pass {p : Prop} {c : Int} {l : List (Prop × Int)} {K : Int → Prop} {x : Int} (h : p) (k : Stair l K x) : Stair ((p, c) :: l) K x := .inr ⟨h, k⟩
theorem Stair.last {K : Int → Prop} {x : Int} (h : K x) : Stair [] K x := h
theorem Stair.one {K : Int → Prop} (hK : ∀ x y, K x → K y → x = y) : ∀ (l : List (Prop × Int)) {x y : Int}, Stair l K x → Stair l K y → x = y
  | [], x, y, h, k => hK x y h k
  | (p, c) :: l, x, y, h, k => by
    rcases h with ⟨h1, h2⟩ | ⟨h1, h2⟩ <;> rcases k with ⟨k1, k2⟩ | ⟨k1, k2⟩
    · rw [h2, k2]
    · exact absurd k1 h1
    · exact absurd h1 k1
    · exact Stair.one hK l h2 k2
def isZ (x : Int) : Prop := x = 0
theorem isZ_one (x y : Int) (h : isZ x) (k : isZ y) : x = y := by rw [show x = 0 from h, show y = 0 from k]
/-- what RecFault tells -/
def RecAns (s : Nat → Int) (r : RecD) (x : Int) : Prop :=
  Stair [(OkShape s, 3), (InP r.kind 1 4, 5), (InP r.seq 1 1000000000, 3), (NamedP r, 5), (KindP s r, 3), (BlankP r, 1)] isZ x
theorem RecAns.one {s : Nat → Int} {r : RecD} {x y : Int} (h : RecAns s r x) (k : RecAns s r y) : x = y := Stair.one isZ_one _ h k

/-- groups, drives and blocks as the shape has them -/
def BlockP (b : BlockD) : Prop := InP b.stamp 0 1000000000 ∧ b.bytes.1 = 4
def BlocksP (s : Nat → Int) (p : Nat × (Nat → BlockD)) : Prop := (p.1 : Int) = s 4 ∧ ∀ i, i < p.1 → BlockP (p.2 i)
def DrivesP (s : Nat → Int) (p : Nat × (Nat → DriveD)) : Prop := (p.1 : Int) = s 2 + s 3 ∧ ∀ i, i < p.1 → BlocksP s (p.2 i).blocks
def BuiltP (d : WorldD) : Prop := (d.groups.1 : Int) = d.shape 0 + d.shape 1 ∧ ∀ i, i < d.groups.1 → DrivesP d.shape (d.groups.2 i)
def OnP (d : WorldD) : Prop := ApartP d.on.1 d.on.2 (d.shape 0 + d.shape 1 - 1) ∧ (d.on.1 : Int) ≤ d.shape 5 ∧ (d.down = true → d.on.1 = 0)
def FormP (d : WorldD) : Prop := BuiltP d ∧ OnP d ∧ d.tapes.1 = 2
def FewP (d : WorldD) : Prop := ∀ t, t < d.tapes.1 → (d.tapes.2 t).recs.1 ≤ 200
/-- the first record that has a fault -/
def RecsAns (s : Nat → Int) (n : Nat) (x : Nat → TapeD) (c : Int) : Prop :=
  (c = 0 ∧ ∀ t, t < n → ∀ i, i < (x t).recs.1 → RecAns s ((x t).recs.2 i) 0) ∨
  (c ≠ 0 ∧ ∃ t i, t < n ∧ i < (x t).recs.1 ∧ RecAns s ((x t).recs.2 i) c ∧ (∀ k, k < i → RecAns s ((x t).recs.2 k) 0) ∧ ∀ u, u < t → ∀ k, k < (x u).recs.1 → RecAns s ((x u).recs.2 k) 0)
theorem RecsAns.one {s : Nat → Int} {n : Nat} {x : Nat → TapeD} {c e : Int} (h : RecsAns s n x c) (k : RecsAns s n x e) : c = e := by
  rcases h with ⟨rfl, h⟩ | ⟨hc, t, i, ht, hi, hr, hb, hu⟩ <;> rcases k with ⟨rfl, k⟩ | ⟨kc, t', i', kt, ki, kr, kb, ku⟩
  · rfl
  · exact absurd (kr.one (h t' kt i' ki)) kc
  · exact absurd (hr.one (k t ht i hi)) hc
  · rcases Nat.lt_trichotomy t t' with c1 | c1 | c1
    · exact absurd (hr.one (ku t c1 i hi)) hc
    · subst c1
      rcases Nat.lt_trichotomy i i' with c2 | c2 | c2
      · exact absurd (hr.one (kb i c2)) hc
      · subst c2; exact hr.one kr
      · exact absurd (kr.one (hb i' c2)) kc
    · exact absurd (kr.one (hu t' c1 i' ki)) kc
def CleanP (d : WorldD) : Prop := ∀ t, t < d.tapes.1 → (d.tapes.2 t).wiped = true → (d.tapes.2 t).recs.1 = 0
def CountP (d : WorldD) : Prop := InP d.writes 0 1000000000 ∧ InP d.stop (-1) 1000000000
/-- what WorldFault tells -/
def WldAns (d : WorldD) (x : Int) : Prop :=
  Stair [(OkShape d.shape, 3), (FormP d, 1), (FewP d, 2)] (fun x => (x ≠ 0 ∧ RecsAns d.shape d.tapes.1 d.tapes.2 x) ∨ (RecsAns d.shape d.tapes.1 d.tapes.2 0 ∧ Stair [(CleanP d, 1), (CountP d, 3)] isZ x)) x
theorem WldAns.one {d : WorldD} {x y : Int} (h : WldAns d x) (k : WldAns d y) : x = y := by
  refine Stair.one (fun x y h k => ?_) _ h k
  rcases h with ⟨h1, h2⟩ | ⟨h1, h2⟩ <;> rcases k with ⟨k1, k2⟩ | ⟨k1, k2⟩
  · exact h2.one k2
  · exact absurd (h2.one k1) h1
  · exact absurd (k2.one h1) k1
  · exact Stair.one isZ_one _ h2 k2
/-- a world without a fault -/
structure OkWorld (d : WorldD) : Prop where
  shape : OkShape d.shape
  form : FormP d
  few : FewP d
  recs : ∀ t, t < d.tapes.1 → ∀ i, i < (d.tapes.2 t).recs.1 → RecAns d.shape ((d.tapes.2 t).recs.2 i) 0
  clean : CleanP d
  count : CountP d
theorem WldAns.ok {d : WorldD} (h : WldAns d 0) : OkWorld d := by
  rcases h with ⟨_, h⟩ | ⟨h1, h⟩
  · omega
  rcases h with ⟨_, h⟩ | ⟨h2, h⟩
  · omega
  rcases h with ⟨_, h⟩ | ⟨h3, h⟩
  · omega
  rcases h with ⟨h, _⟩ | ⟨h4, h⟩
  · exact absurd rfl h
  rcases h with ⟨_, h⟩ | ⟨h5, h⟩
  · omega
  rcases h with ⟨_, h⟩ | ⟨h6, h⟩
  · omega
  rcases h4 with ⟨_, h4⟩ | ⟨h4, _⟩
  · exact ⟨h1, h2, h3, h4, h5, h6⟩
  · exact absurd rfl h4
theorem exB (P : Prop) : ∃ b : Bool, b = true ↔ P := by
  by_cases h : P
  · exact ⟨true, by simp [h]⟩
  · exact ⟨false, by simp [h]⟩
end Go.Proofs.Ytapnjoophlckoaa

namespace Go.Proofs.Ytapnjoophlckoaa
open Go.RowKit F256

/-- a result with a number in it -/
def intR (code value : Int) : Value := .agg #[.int .i64 code, .int .i64 value]

end Go.Proofs.Ytapnjoophlckoaa

namespace Go.Proofs.Ytapnjoophlckoaa
open Go.RowKit F256
set_option linter.unusedVariables false
set_option linter.unusedSimpArgs false

end Go.Proofs.Ytapnjoophlckoaa

namespace Go.Proofs.Ytapnjoophlckoaa
open Go.RowKit F256
set_option linter.unusedVariables false

theorem q_below {f : Nat} {args : Array Value} {W : World} {v : Value} (h : ∀ w', Below W.heap.size W w' → Calls Try.prog f args w' fun e w'' => e = .returned v ∧ Below w'.heap.size w' w'') :
    ∀ d os, Calls Try.prog f args (Go.Sort.grow (redrawn W d) os) fun e w'' => e = .returned v ∧ ∃ p : Regrown, w'' = Go.Sort.grow (redrawn W p.d) p.os := fun d os => Calls.regrown_of (h _ (below_regrown W d os))
theorem q_same {f : Nat} {args : Array Value} {W : World} {v : Value} (h : ∀ w', Calls Try.prog f args w' fun e w'' => e = .returned v ∧ w'' = w') :
    ∀ d os, Calls Try.prog f args (Go.Sort.grow (redrawn W d) os) fun e w'' => e = .returned v ∧ ∃ p : Regrown, w'' = Go.Sort.grow (redrawn W p.d) p.os :=
  q_below fun w' _ => (h w').mono fun e w'' ⟨h1, h2⟩ => ⟨h1, by rw [h2]; exact Below.refl _ _⟩
theorem det_b {f : Nat} {args : Array Value} {w : World} {P : Prop} {b : Bool} (h : Calls Try.prog f args w (BoolP P w)) (hb : b = true ↔ P) : Calls Try.prog f args w fun e w' => e = .returned (.bool b) ∧ Below w.heap.size w w' :=
  h.mono fun e w' ⟨b', h1, h2, h3⟩ => ⟨by rw [h1]; congr 2; cases b <;> cases b' <;> simp_all, h3⟩
theorem below_rg {W w' : World} (h : ∃ p : Regrown, w' = Go.Sort.grow (redrawn W p.d) p.os) : Below W.heap.size W w' := by
  obtain ⟨p, rfl⟩ := h
  exact below_regrown W p.d p.os
/-- the walk in the text's order, behind a wall (what is behind it is not looked into) -/
structure WQ (P : Program) (ops : Array Oper) (C : World → Prop) (Q : Act → Prop) (l : List Oper) (a : Act) : Prop where
  out : wpQuiet P ops C Q l a
theorem WQ.skip {P : Program} {ops : Array Oper} {C : World → Prop} {Q : Act → Prop} {a : Act} {o : Oper} {rest : List Oper} (hw : Region.wanted o (yielded ops a.tmps) = false)
    (h : ∀ K : Act → Prop, (∀ a, WQ P ops C Q rest a → K a) → K (a.put o.dst undef)) : WQ P ops C Q (o :: rest) a := by
  refine ⟨?_⟩
  unfold wpQuiet
  rw [if_neg (by rw [hw]; decide)]
  exact (h _ (fun _ h => h)).out
theorem WQ.want {P : Program} {ops : Array Oper} {C : World → Prop} {Q : Act → Prop} {a : Act} {o : Oper} {rest : List Oper} (hw : Region.wanted o (yielded ops a.tmps) = true)
    (h : ∀ K : Act → Prop, (∀ a, WQ P ops C Q rest a → K a) → o.quiet P a C K) : WQ P ops C Q (o :: rest) a := by
  refine ⟨?_⟩
  unfold wpQuiet
  rw [if_pos hw]
  exact Oper.quiet_mono (fun a h => h.out) (h _ (fun _ h => h))
theorem WQ.nil {P : Program} {ops : Array Oper} {C : World → Prop} {Q : Act → Prop} {a : Act} (h : Q a) : WQ P ops C Q [] a := ⟨wpQuiet_nil h⟩
theorem WQ.region {P : Program} {id : Nat} {Q : Exit → Act → World → Prop} {a : Act} {w : World} {l : List Oper} (hm : P.follows .mixedOrders = true) (hB : Region.lexB .any l.toArray = true)
    (h : WQ P l.toArray (fun w' => ∃ p : Regrown, w' = Go.Sort.grow (redrawn w p.d) p.os) (fun a' => ∀ w', (∃ p : Regrown, w' = Go.Sort.grow (redrawn w p.d) p.os) → Q .normal a' w') l a) : (Code.region id l.toArray true).wp P Q a w := wp_region_quiet_below hm hB h.out
end Go.Proofs.Ytapnjoophlckoaa

namespace Go.Proofs.Ytapnjoophlckoaa
open Go.RowKit F256
set_option linter.unusedVariables false
set_option linter.unusedSimpArgs false

def blankB : BlockD := ⟨0, (4, fun _ => 0)⟩
def freshD (rows : Nat) : DriveD := ⟨false, (rows, fun _ => blankB)⟩
theorem ownB_T {w : World} {lo hi n : Nat} {v : Value} {f : Nat → Nat} (h : Own w lo hi v n f) (hh : hi ≤ w.heap.size) (kf : ∀ i, f i < 256) : OwnT layBytes w lo hi (n, f) [v] := by
  refine ⟨v.ownBlock.toList, ⟨v, rfl, rfl, h.weaken (Nat.zero_le _) hh, kf⟩, ?_, fun b hb => ?_⟩
  · cases v.ownBlock <;> simp
  · have hb' : v.ownBlock = some b := by simpa using hb
    exact ⟨(h.1.lt b hb').1, h.2 b hb'⟩
theorem OwnT.fin1 {α : Type} {A : Lay α} {w : World} {s : Nat} {a : α} {cs : List Value} (h : OwnT A w (s + 1) w.heap.size a cs) (o : Nat) (l : List Value) (w' : World) (e : w' = Go.Proofs.Ytapnjoophlckoaa.stN w s o l) : OwnT A w' s w'.heap.size a cs := by
  subst e
  exact (h.stN s o l (by omega)).weaken (by omega) (by rw [stN_size]; exact Nat.le_refl _)
theorem Three.low {w wc w' : World} {c1 c2 c3 : Array Value} {t1 t2 t3 : TypeId} (h : Three w wc c1 c2 c3 t1 t2 t3) (hb : Below (w.heap.size + 1 + 1 + 1) wc w') : Three w w' c1 c2 c3 t1 t2 t3 :=
  ⟨h.b1.below hb (by omega), h.b2.below hb (by omega), h.b3.below hb (by omega), h.bel.trans (hb.mono (by omega))⟩
end Go.Proofs.Ytapnjoophlckoaa

namespace Go.Proofs.Ytapnjoophlckoaa
open Go.RowKit F256
set_option linter.unusedVariables false
section
variable {α : Type} {E : Lay α} {t : TypeId} {w w1 : World} {lo g cap n k : Nat} {x : Nat → α} {ce : Nat → List Value} {Ls : Nat → List Nat}
/-- a store into an element that is not laid yet -/
theorem SlP.poke (h : SlP E t w lo g cap n k x ce Ls) {i j : Nat} (hk : k ≤ i) (hi : i < n) (hj : j < E.sz) (u : Value) : SlP E t (w.setCell ⟨g, i * E.sz + j, none⟩ u) lo g cap n k x (upd ce i ((ce i).set j u)) Ls := by
  refine ⟨?_, fun m hm => ?_, fun m hm => ?_, h.nd, h.low⟩
  · have := (h.row.stored (i * E.sz + j) u).1
    rw [catN_set h.lens hi hj] at this
    exact this
  · by_cases c : m = i
    · subst c; rw [upd_at, List.length_set]; exact h.lens m hm
    · rw [upd_ne ce _ c]; exact h.lens m hm
  · rw [upd_ne ce _ (by omega)]
    exact E.own_kept (h.each m hm) (fun b hb => heap_setCell_other w _ b u (fun hh => (List.nodup_cons.1 h.nd).1 (by rw [← show b = g from hh]; exact mem_catN.2 ⟨m, hm, hb⟩)))
/-- the element k is laid now; w1: a world in which the others were there and none of its blocks -/
theorem SlP.count {x1 : Nat → α} {ce1 : Nat → List Value} (h1 : SlP E t w1 lo g cap n k x1 ce1 Ls) (h : SlP E t w lo g cap n k x ce Ls) {a : α} {K : List Nat} (ha : E.own w a (ce k) K) (hnd : K.Nodup) (hK : ∀ b, b ∈ K → w1.heap.size ≤ b) (hlo : lo ≤ w1.heap.size) :
    SlP E t w lo g cap n (k + 1) (upd x k a) ce (upd Ls k K) := by
  have eL : catN (k + 1) (upd Ls k K) = catN k Ls ++ K := by
    rw [catN_succ, upd_at, catN_congr (g := Ls) (fun i hi => upd_ne Ls K (by omega))]
  refine ⟨h.row, h.lens, fun i hi => ?_, ?_, ?_⟩
  · by_cases c : i = k
    · subst c; rw [upd_at, upd_at]; exact ha
    · rw [upd_ne x a c, upd_ne Ls K c]; exact h.each i (by omega)
  · rw [eL]
    refine List.nodup_cons.2 ⟨fun hb => ?_, List.nodup_append.2 ⟨(List.nodup_cons.1 h.nd).2, hnd, fun b hb c hc hh => ?_⟩⟩
    · rcases List.mem_append.1 hb with h3 | h3
      · exact (List.nodup_cons.1 h.nd).1 h3
      · have := hK g h3; have := h1.lt; omega
    · subst hh
      have k1 := h1.mem_lt b hb
      have k2 := hK b hc
      omega
  · rw [eL]
    intro b hb
    rcases List.mem_append.1 hb with h3 | h3
    · exact h.low b h3
    · have := hK b h3; omega
/-- a store into the element k, which lays it -/
theorem SlP.fill (h1 : SlP E t w1 lo g cap n k x ce Ls) (hb : Below w1.heap.size w1 w) (hk : k < n) {j : Nat} (hj : j < E.sz) (u : Value) {a : α} {cs : List Value} (hcs : (ce k).set j u = cs) (ha : OwnT E w w1.heap.size w.heap.size a cs) (hlo : lo ≤ w1.heap.size) :
    ∃ ce' Ls', SlP E t (w.setCell ⟨g, k * E.sz + j, none⟩ u) lo g cap n (k + 1) (upd x k a) ce' Ls' ∧ ∀ i, k < i → ce' i = ce i := by
  subst hcs
  obtain ⟨K, a1, a2, a3⟩ := ha
  have hg := h1.lt
  refine ⟨_, _, h1.count ((h1.below hb).poke (Nat.le_refl k) hk hj u) (K := K) ?_ a2 (fun b hb => (a3 b hb).1) hlo, fun i hi => upd_ne ce _ (by omega)⟩
  rw [upd_at]
  exact E.own_kept a1 (fun b hb => heap_setCell_other w _ b u (fun hh => by have := (a3 b hb).1; have h5 : b = g := hh; omega))
theorem SlP.congr {y : Nat → α} (h : SlP E t w lo g cap n k x ce Ls) (hy : ∀ i, i < k → x i = y i) : SlP E t w lo g cap n k y ce Ls := ⟨h.row, h.lens, fun i hi => by rw [← hy i hi]; exact h.each i hi, h.nd, h.low⟩
/-- all elements zero and without memory -/
theorem SlP.zero {zs : List Value} {a : α} (h : SlP E t w lo g cap n 0 x (fun _ => zs) Ls) (hz : E.own w a zs []) (hg : lo ≤ g) : OwnT (E.slice t) w lo w.heap.size (n, fun _ => a) [.slice (Option.some ⟨g, 0, none⟩) n cap] := by
  have e : ∀ m, catN m (fun _ => ([] : List Nat)) = [] := fun m => by
    induction m with
    | zero => rfl
    | succ m ih => rw [catN_succ, ih]; rfl
  have h2 : SlP E t w lo g cap n n (fun _ => a) (fun _ => zs) (fun _ => []) := ⟨h.row, h.lens, fun i _ => hz, by rw [e]; simp, fun b hb => by rw [e] at hb; cases hb⟩
  exact h2.done hg
end
/-- make([]E, n), as it runs -/
theorem run_makeT {α : Type} {E : Lay α} {T e : TypeId} {by_ : Nat} {zs : List Value} (I : ElInfo E T e by_ zs) (x : Nat → α) (Ls : Nat → List Nat) (w : World) (n : Nat) (hn : n ≤ 10000000) :
    ∃ w', (Instr.makeSlice T (.int .i64 (n : Int)) (.int .i64 (n : Int))).run Try.prog w = .ok (.slice (some ⟨w.heap.size, 0, none⟩) n n) w' ∧ SlP E e w' w.heap.size w.heap.size n n 0 x (fun _ => zs) Ls ∧ Below w.heap.size w w' := by
  obtain ⟨hs, hzs, hu, hi, few⟩ := I
  obtain ⟨i0, hi0⟩ : ∃ i0, Try.prog.info? e = some i0 := by
    cases h : Try.prog.info? e with
    | none => rw [h] at hi; cases hi
    | some i0 => exact ⟨i0, rfl⟩
  rw [hi0] at hi
  simp only [Option.map_some, Option.some.injEq, Prod.mk.injEq] at hi
  obtain ⟨h1, h2, h3⟩ := hi
  obtain ⟨z, hz, hzc⟩ : ∃ z, i0.zero = some z ∧ z.cells = zs.toArray := by
    cases h : i0.zero with
    | none => rw [h] at h1; cases h1
    | some z => rw [h] at h1; exact ⟨z, rfl, by simpa using h1⟩
  obtain ⟨w', hrun, hown, hgrow⟩ := run_make_full (P := Try.prog) w w.heap.size T e i0 z E.sz hu hi0 hz h2 .i64 .i64 n (by
    rw [h3]
    have : by_ * n ≤ 1000 * 10000000 := Nat.mul_le_mul few hn
    omega) (by unfold maxLen; omega) (Nat.le_refl _)
  rw [hzc, ← hzs, catN_made zs (by omega)] at hown
  rw [hzs] at hown
  exact ⟨w', hrun, ⟨hown, fun _ _ => hzs, fun i hi => by omega, by simp [catN_zero], fun b hb => by rw [catN_zero] at hb; cases hb⟩, below_of_grown hgrow⟩
end Go.Proofs.Ytapnjoophlckoaa

namespace Go.Proofs.Ytapnjoophlckoaa
open Go.RowKit F256
set_option linter.unusedVariables false
def noRec : RecD := ⟨0, 0, ByteArray.empty, 0, 0, 0, (0, fun _ => 0), (0, fun _ => 0), (0, fun _ => 0)⟩
def zeroT : TapeD := ⟨false, (0, fun _ => noRec)⟩
def zeroW : WorldD := ⟨fun _ => 0, (0, fun _ => (0, fun _ => freshD 0)), (0, fun _ => 0), (0, fun _ => zeroT), 0, 0, false⟩
def newW (s : Nat → Int) : WorldD := ⟨s, ((s 0 + s 1).toNat, fun _ => ((s 2 + s 3).toNat, fun _ => freshD (s 4).toNat)), (0, fun _ => 0), (2, fun _ => zeroT), 0, -1, false⟩
def NewAns (s : Nat → Int) (d : WorldResultD) : Prop := (¬ OkShape s ∧ d = ⟨3, zeroW⟩) ∨ (OkShape s ∧ d = ⟨0, newW s⟩)
theorem NewAns.one {s : Nat → Int} {d e : WorldResultD} (h : NewAns s d) (k : NewAns s e) : d = e := by
  rcases h with ⟨h1, h2⟩ | ⟨h1, h2⟩ <;> rcases k with ⟨k1, k2⟩ | ⟨k1, k2⟩
  · rw [h2, k2]
  · exact absurd k1 h1
  · exact absurd h1 k1
  · rw [h2, k2]
theorem new_ex (s : Nat → Int) : ∃ d, NewAns s d := by
  by_cases h : OkShape s
  · exact ⟨_, .inr ⟨h, rfl⟩⟩
  · exact ⟨_, .inl ⟨h, rfl⟩⟩
theorem own_noInts (w : World) (f : Nat → Int) (h : ∀ i, -9223372036854775808 ≤ f i ∧ f i ≤ 9223372036854775807) : layInts.own w (0, f) [.slice none 0 0] [] := ⟨_, rfl, rfl, ⟨⟨rfl, .inl ⟨rfl, rfl⟩⟩, fun k hk => by cases hk⟩, h⟩
theorem own_noSl {α : Type} {E : Lay α} {t : TypeId} (w : World) (x : Nat → α) : (E.slice t).own w (0, x) [.slice none 0 0] [] := ⟨_, fun _ => [], fun _ => [], rfl, rfl, World.ownsRow_nil w 0 t E.sz, fun i hi => by omega⟩
theorem Box.chgl {w w' : World} {b : Nat} {cs : Array Value} {t : TypeId} {K : List Nat} (h : Box w b cs t) (hc : ChgL K w w') (hb : b ∉ K) : Box w' b cs t := (hc.block b h.lt hb).trans h
theorem ChgL.bel {K : List Nat} {w w' : World} {B : Nat} (hc : ChgL K w w') (hK : ∀ b, b ∈ K → B ≤ b) (hB : B ≤ w.heap.size) : Below B w w' := ⟨hc.os, hc.tape, hc.output, hc.size, fun k hk => hc.block k (by omega) (fun h => by have := hK k h; omega)⟩
theorem ChgL.after {K : List Nat} {a b c : World} (h : ChgL K a b) (k : Below a.heap.size b c) : ChgL K a c := ⟨k.os.trans h.os, k.tape.trans h.tape, k.output.trans h.output, Nat.le_trans h.size k.size, fun i hi hn => (k.block i hi).trans (h.block i hi hn)⟩
theorem Two.chgl {w wc w' : World} {c1 c2 : Array Value} {t1 t2 : TypeId} {P : Nat} (h : Two w wc c1 c2 t1 t2) (hc : ChgL [P] wc w') (hP : w.heap.size + 1 < P) : Two w w' c1 c2 t1 t2 :=
  ⟨h.b1.chgl hc (by simp; omega), h.b2.chgl hc (by simp; omega), h.bel.trans (hc.bel (fun b hb => by simp at hb; omega) h.bel.size)⟩
theorem own_st {α : Type} {A : Lay α} {w : World} {a : α} {cs : List Value} {K : List Nat} {g off : Nat} {l : List Value} (h : A.own w a cs K) (hg : g ∉ K) : A.own (Go.Proofs.Ytapnjoophlckoaa.stN w g off l) a cs K := A.own_kept h (fun b hb => stN_heap g b (fun hh => hg (by rw [← hh]; exact hb)) l w off)
theorem OwnT.finb {α : Type} {A : Lay α} {w : World} {lo b : Nat} {a : α} {cs : List Value} (h : OwnT A w lo w.heap.size a cs) (hb : b < lo) {lo' : Nat} (hl : lo' ≤ lo) (o : Nat) (l : List Value) (w' : World) (e : w' = Go.Proofs.Ytapnjoophlckoaa.stN w b o l) : OwnT A w' lo' w'.heap.size a cs := by
  subst e
  exact (h.stN b o l hb).weaken hl (by rw [stN_size]; exact Nat.le_refl _)
end Go.Proofs.Ytapnjoophlckoaa

namespace Go.Proofs.Ytapnjoophlckoaa
open Go.RowKit F256
set_option linter.unusedVariables false
theorem mark_T {α : Type} {A : Lay α} {c : α → Nat} {mk : Nat → α → α} {fn : Nat} (hm : MkV A c mk fn) {w : World} {lo hi : Nat} {d : α} {cs : List Value} (h : OwnT A w lo hi d cs) (j : Nat) (hj : j + c d ≤ 100000000) :
    Calls Try.prog fn #[.agg cs.toArray, .int .i64 j] w fun e w' => e = .returned (.int .i64 ((j + c d : Nat) : Int)) ∧ OwnT A w' lo hi (mk j d) cs ∧ Chg lo hi w w' := by
  obtain ⟨L, h1, h2, h3⟩ := h
  exact (hm cs d L j w h1 h2 hj).mono fun e w' ⟨he, ho, hc⟩ => ⟨he, ⟨L, ho, h2, h3⟩, hc.chg h3⟩
theorem Chg.bel {lo hi B : Nat} {w w' : World} (h : Chg lo hi w w') (hl : B ≤ lo) (hB : B ≤ w.heap.size) : Below B w w' := ⟨h.os, h.tape, h.output, h.size, fun k hk => h.block k (by omega) (.inl (by omega))⟩
theorem sumN_mono2 {f g : Nat → Nat} : ∀ {n : Nat}, (∀ i, i < n → f i ≤ g i) → sumN f n ≤ sumN g n
  | 0, _ => Nat.le_refl _
  | n + 1, h => by
    rw [sumN_succ, sumN_succ]
    exact Nat.add_le_add (sumN_mono2 (fun i hi => h i (by omega))) (h n (by omega))
theorem sumN_const (c : Nat) : ∀ n : Nat, sumN (fun _ => c) n = n * c
  | 0 => by simp [sumN]
  | n + 1 => by rw [sumN_succ, sumN_const c n, Nat.succ_mul]
theorem sumN_plus (f : Nat → Nat) (c k : Nat) : ∀ n : Nat, sumN (fun i => c + k * f i) n = n * c + k * sumN f n
  | 0 => by simp [sumN]
  | n + 1 => by rw [sumN_succ, sumN_plus f c k n, sumN_succ, Nat.succ_mul, Nat.mul_add]; omega
/-- marks of a slice: at most k times its measure -/
theorem cSl_le {α : Type} {c s : α → Nat} {k : Nat} (h : ∀ a, c a ≤ k + k * s a) (p : Nat × (Nat → α)) : cSl c p ≤ k * szSl s p := by
  unfold cSl szSl
  have h1 : sumN (fun i => c (p.2 i)) p.1 ≤ sumN (fun i => k + k * s (p.2 i)) p.1 := sumN_mono2 (fun i _ => h (p.2 i))
  rw [sumN_plus (fun i => s (p.2 i)) k k p.1] at h1
  rw [Nat.mul_add]
  have : p.1 * k = k * p.1 := Nat.mul_comm _ _
  omega
theorem cBlock_le (d : BlockD) : cBlockD d ≤ 6 + 6 * szBlockD d := by unfold cBlockD szBlockD; omega
theorem cDrive_le (d : DriveD) : cDriveD d ≤ 6 + 6 * szDriveD d := by
  have := cSl_le (k := 6) cBlock_le d.blocks
  unfold cDriveD szDriveD
  omega
theorem cRec_le (d : RecD) : cRecD d ≤ 6 + 6 * szRecD d := by unfold cRecD szRecD; omega
theorem cTape_le (d : TapeD) : cTapeD d ≤ 6 + 6 * szTapeD d := by
  have := cSl_le (k := 6) cRec_le d.recs
  unfold cTapeD szTapeD
  omega
theorem cvWorld_le (d : WorldD) : cvWorldD d ≤ 6 * szWorldD d := by
  have h1 := cSl_le (c := cSl cDriveD) (s := szSl szDriveD) (k := 6) (fun p => Nat.le_trans (cSl_le (k := 6) cDrive_le p) (by omega)) d.groups
  have h3 := cSl_le (k := 6) cTape_le d.tapes
  unfold cvWorldD szWorldD
  omega
theorem szFresh (R : Nat) : szDriveD (freshD R) = R + R * 4 := by
  show R + sumN (fun _ => 4) R = _
  rw [sumN_const]
theorem szNew (s : Nat → Int) (h : OkShape s) : szWorldD (newW s) ≤ 10000 := by
  obtain ⟨h1, h2, h3, _⟩ := h
  unfold Shp3 at h1
  unfold Shp at h2
  obtain ⟨G, hG⟩ : ∃ G, (s 0 + s 1).toNat = G := ⟨_, rfl⟩
  obtain ⟨D, hD⟩ : ∃ D, (s 2 + s 3).toNat = D := ⟨_, rfl⟩
  obtain ⟨R, hR⟩ : ∃ R, (s 4).toNat = R := ⟨_, rfl⟩
  have e1 : szSl szDriveD (D, fun _ => freshD R) = D + D * (R + R * 4) := by
    show D + sumN (fun _ => szDriveD (freshD R)) D = _
    rw [sumN_const, szFresh]
  have e2 : szWorldD (newW s) = (G + G * (D + D * (R + R * 4))) + 0 + (2 + 2 * 0) := by
    unfold szWorldD newW
    simp only [hG, hD, hR]
    have a : szSl (szSl szDriveD) (G, fun _ => (D, fun _ => freshD R)) = G + G * (D + D * (R + R * 4)) := by
      show G + sumN (fun _ => szSl szDriveD (D, fun _ => freshD R)) G = _
      rw [sumN_const, e1]
    have b : szSl szTapeD (2, fun _ => zeroT) = 2 + 2 * 0 := by
      show 2 + sumN (fun _ => szTapeD zeroT) 2 = _
      rw [sumN_const]
      rfl
    rw [a, b]
    rfl
  rw [e2]
  have k1 : D * (R + R * 4) ≤ 6 * 30 := Nat.mul_le_mul (by omega) (by omega)
  have k2 : G * (D + D * (R + R * 4)) ≤ 6 * 186 := Nat.mul_le_mul (by omega) (by omega)
  omega
theorem cvNew (s : Nat → Int) {d : WorldResultD} (h : NewAns s d) : cvWorldResultD d ≤ 90000 := by
  rcases h with ⟨_, rfl⟩ | ⟨h, rfl⟩
  · show cvWorldD zeroW ≤ _
    have : cvWorldD zeroW = 0 := rfl
    omega
  · show cvWorldD (newW s) ≤ _
    have := cvWorld_le (newW s)
    have := szNew s h
    omega
end Go.Proofs.Ytapnjoophlckoaa

namespace Go.Proofs.Ytapnjoophlckoaa
open Go.ChangeShapes Go.WideShapes Go.ChangeAt Go.RowKit Go.Deep
set_option linter.unusedVariables false
theorem opensThing : Opens layThing 39 :=
  opens_as (A := layS.two (layB.two layBytes)) (fun p => ⟨p.1, p.2.1, p.2.2⟩) (fun _ => rfl)
    (opens_struct Try.underlying39 (show _ = 3 by kernel_rfl)
      (opens_more ⟨_, rfl, rfl, rfl⟩ (opensS Try.underlying9 (by kernel_rfl))
      (opens_more ⟨_, rfl, rfl, rfl⟩ (opensB Try.underlying4 (by kernel_rfl))
      (opens_last ⟨_, rfl, rfl, rfl⟩ (opensBytes Try.underlying23 Try.underlying5 (by kernel_rfl) (by kernel_rfl)) rfl))))
theorem opensThings : Opens (layThing.slice 40) 22 := opens_slice (by decide) Try.underlying22 (by kernel_rfl) opensThing
theorem opensBytesU : Opens layBytes 23 := opensBytes Try.underlying23 Try.underlying5 (by kernel_rfl) (by kernel_rfl)
theorem slice_of_trod {α : Type} {A : Lay α} {H : Type} {enc : TypeId × Value → H} {W : World} {ao : Option Addr} {len cap : Nat} {d : DataW H} {ps : List MemPlace} {t : TypeId} (hO : Opens A t)
    (h : DataW.Trod enc Try.prog W 0 (fun _ => true) true t (.slice ao len cap) d ps) : ∃ a, A.rd W W.heap.size a [.slice ao len cap] := by
  obtain ⟨fuel, hfu⟩ := h
  exact hO.opens (cs := [.slice ao len cap]) hfu
theorem mark_S {α : Type} {A : Lay α} {c : α → Nat} {mk : Nat → α → α} {fn : Nat} (hm : MkS A c mk fn) {w : World} {lo hi : Nat} {d : α} {v : Value} (h : OwnT A w lo hi d [v]) (j : Nat) (hj : j + c d ≤ 100000000) :
    Calls Try.prog fn #[v, .int .i64 j] w fun e w' => e = .returned (.int .i64 ((j + c d : Nat) : Int)) ∧ OwnT A w' lo hi (mk j d) [v] ∧ Chg lo hi w w' := by
  obtain ⟨L, h1, h2, h3⟩ := h
  exact (hm v d L j w h1 h2 hj).mono fun e w' ⟨he, ho, hc⟩ => ⟨he, ⟨L, ho, h2, h3⟩, hc.chg h3⟩
theorem cThing_le (d : ThingD) : cThingD d ≤ 6 + 6 * szThingD d := by unfold cThingD szThingD; omega
theorem cThings_le (p : Nat × (Nat → ThingD)) {B : Nat} (h : szSl szThingD p ≤ B) : cSl cThingD p ≤ 6 * B := Nat.le_trans (cSl_le (k := 6) cThing_le p) (Nat.mul_le_mul_left 6 h)
end Go.Proofs.Ytapnjoophlckoaa

namespace Go.Proofs.Ytapnjoophlckoaa
open Go.RowKit F256
set_option linter.unusedVariables false
set_option linter.unusedSimpArgs false
theorem OwnI.full {w : World} {lo hi g n : Nat} {f : Nat → Int} (h : OwnI w lo hi (.slice (some ⟨g, 0, none⟩) n n) n f) : w.heap[g]? = some (.cells (intsOf n f).toArray 2 (0, 0)) := by
  rcases h.1.2 with ⟨h', _⟩ | ⟨g', cap', cur, h', _, hg, _, _, hcs, htake⟩
  · simp at h'
  · simp only [Value.slice.injEq, Option.some.injEq, Addr.mk.injEq, and_true, true_and] at h'
    obtain ⟨rfl, rfl⟩ := h'
    have : cur = (intsOf n f).toArray := by
      rw [← htake, List.take_of_length_le (by simp; omega)]
    rw [← this]
    exact hg
theorem ownI_of_full {w : World} {lo g n : Nat} {f : Nat → Int} (hg : w.heap[g]? = some (.cells (intsOf n f).toArray 2 (0, 0))) (hlo : lo ≤ g) (hm : n ≤ maxLen) : OwnI w lo w.heap.size (.slice (some ⟨g, 0, none⟩) n n) n f :=
  ⟨⟨by rw [intsOf_length]; omega, .inr ⟨g, n, _, rfl, hlo, hg, Nat.le_refl _, hm, by simp [intsOf_length], by simp [List.take_of_length_le, intsOf_length]⟩⟩, fun k hk => by
    simp [Value.ownBlock] at hk
    subst hk
    exact (Array.getElem?_eq_some_iff.1 hg).1⟩
theorem splice_ints (N off m : Nat) (f t h : Nat → Int) (hm : off + m ≤ N) (hh : ∀ i, i < N → h i = if off ≤ i ∧ i < off + m then t (i - off) else f i) : splice (intsOf N f) off (intsOf m t) = intsOf N h := by
  unfold splice
  apply List.ext_getElem?
  intro i
  by_cases hi : i < N
  · rw [intsOf_get N h i hi, hh i hi]
    by_cases h1 : i < off
    · have e1 : ¬ (off ≤ i ∧ i < off + m) := by omega
      rw [if_neg e1, List.getElem?_append_left (by rw [List.length_take, intsOf_length]; omega), List.getElem?_take, if_pos h1, intsOf_get N f i hi]
    · rw [List.getElem?_append_right (by rw [List.length_take, intsOf_length]; omega)]
      have e0 : (List.take off (intsOf N f)).length = off := by rw [List.length_take, intsOf_length]; omega
      rw [e0]
      by_cases h2 : i < off + m
      · rw [if_pos ⟨by omega, h2⟩, List.getElem?_append_left (by rw [intsOf_length]; omega), intsOf_get m t _ (by omega)]
      · have e1 : ¬ (off ≤ i ∧ i < off + m) := by omega
        rw [if_neg e1, List.getElem?_append_right (by rw [intsOf_length]; omega), intsOf_length, List.getElem?_drop, show off + m + (i - off - m) = i by omega, intsOf_get N f i hi]
  · rw [List.getElem?_eq_none (by simp [intsOf_length]; omega), List.getElem?_eq_none (by rw [intsOf_length]; omega)]

theorem copy_srcI {w : World} {hi n cap : Nat} {ao : Option Addr} {f : Nat → Int} (r : RdI w hi (.slice ao n cap) n f) (h : 0 < (intsOf n f).length) : ∃ ad, ao = some ad ∧ ∀ j v, (intsOf n f)[j]? = some v → w.cell? (ad.add j) = some v := by
  rw [intsOf_length] at h
  obtain ⟨ao', cap', he, _, hc⟩ := r
  simp only [Value.slice.injEq, true_and] at he
  obtain ⟨rfl, rfl⟩ := he
  obtain ⟨b, off, rfl, _, hcell⟩ := hc (by omega)
  refine ⟨_, rfl, fun j v hj => ?_⟩
  by_cases hjn : j < n
  · rw [intsOf_get n f j hjn] at hj
    rw [add_none', hcell j hjn]
    exact hj
  · rw [List.getElem?_eq_none (by rw [intsOf_length]; omega)] at hj
    cases hj
theorem intsOf_one (n : Nat) (f : Nat → Int) : ∀ v ∈ intsOf n f, v.oneCell' = true := fun v hv => by
  simp only [intsOf, List.mem_map] at hv
  obtain ⟨i, _, rfl⟩ := hv
  rfl
theorem size_i64 : (Try.prog.info? 2).map (·.size) = some 1 := by kernel_rfl

theorem ownI_T {w : World} {lo hi n : Nat} {v : Value} {f : Nat → Int} (h : OwnI w lo hi v n f) (hh : hi ≤ w.heap.size) (kf : ∀ i, -9223372036854775808 ≤ f i ∧ f i ≤ 9223372036854775807) : OwnT layInts w lo hi (n, f) [v] := by
  refine ⟨v.ownBlock.toList, ⟨v, rfl, rfl, h.weaken (Nat.zero_le _) hh, kf⟩, ?_, fun b hb => ?_⟩
  · cases v.ownBlock <;> simp
  · have hb' : v.ownBlock = some b := by simpa using hb
    exact ⟨(h.1.lt b hb').1, h.2 b hb'⟩
/-- a copy of each element by a function that is handed in -/
def ToF {α : Type} (A : Lay α) (sz : α → Nat) (fn g : Nat) : Prop := ∀ (v : Value) (d : α) (hi : Nat) (w : World), A.rd w hi d [v] → hi ≤ w.heap.size → sz d ≤ 1048576 →
  Calls Try.prog fn #[v, .func (.func g) #[] #[]] w fun e w' => ∃ v', e = .returned v' ∧ OwnT A w' w.heap.size w'.heap.size d [v'] ∧ Below w.heap.size w w'
set_option maxHeartbeats 1000000 in
theorem copyBytes_is : ToS layBytes lenD 25 := fun v d hi w h hhi hn => by
  obtain ⟨n, f⟩ := d
  obtain ⟨v', e1, r1, kf⟩ := h
  cases e1
  simp only at r1 kf
  skip
  have hn' : n ≤ 1048576 := hn
  clear hn
  have R1 := fun (w1 : World) (hb : Below w.heap.size w w1) => r1.below hb hhi
  obtain ⟨ao, cap, rfl, hm1, hc1⟩ := r1
  clear hc1
  have HS : Hid (splice (cellsOf n fun _ => 0) 0 (cellsOf n f) = cellsOf n f) := splice_cells n 0 n _ f f (by omega) (fun i hi => by simp [hi])
  have L1 : (cellsOf n f).length = Nat.min n n := by rw [cellsOf_length]; exact (Nat.min_self n).symm
  have L2 : 0 + (cellsOf n f).length ≤ (cellsOf n fun _ => 0).length := by simp [cellsOf_length]
  have HL1 : Hid ((cellsOf n f).length = Nat.min n n) := L1
  have HL2 : Hid (0 + (cellsOf n f).length ≤ (cellsOf n fun _ => 0).length) := L2
  clear L1 L2
  go_enter Try.func25, Try.ntmps25
  go_wp2_with (first | (at_make; refine wp_makeB _ rfl _ _ rfl _ _ n rfl rfl (by simp) (by simp) (by omega) ?_; intro w1 hown1 hb1 hz1) | (refine wpList_copy_splice rfl (.tmp 7) (.tmp 8) 23 23 rfl 5 Try.underlying23 size_u8 (some ⟨w.heap.size, 0, none⟩) ao n n n cap rfl rfl w.heap.size 0 (cellsOf n fun _ => 0) 5 hown1.full (cellsOf n f) HL1.out (fun hp => ⟨rfl, copy_src (R1 w1 hb1) hp⟩) HL2.out (cellsOf_one n f) w.heap.size w hb1 (Nat.le_refl _) ?_; intro w2 hF2 hb2))
  go_ret
  have F2 := hF2.out
  rw [HS.out] at F2
  exact ⟨_, rfl, ownB_T (own_of_full F2 (Nat.le_refl _) (by unfold maxLen; omega)) (Nat.le_refl _) kf, hb2⟩
end Go.Proofs.Ytapnjoophlckoaa

namespace Go.Proofs.Ytapnjoophlckoaa
open Go.RowKit F256
set_option linter.unusedVariables false
theorem run_append_none' {P : Program} (w : World) (base : Nat) (t ty e : TypeId) (i : TypeInfo) (size : Nat) (ht : P.underlying t = some (.slice e)) (hi : P.info? e = some i) (v : Value) (n c : Nat) (xs : List Value) (hown : w.ownsRow base e size v n xs) :
    (Builtin.append_ #[t, t] ty #[v, .slice none 0 c]).run P w = .ok v w := by
  rcases hown.2 with ⟨rfl, rfl⟩ | ⟨g, cap, cur, rfl, _, _, hnc, _⟩
  · simp [Builtin.append_, run_underlying ht, sizeOf, typeInfo, hi, Builtin.lenOf, Builtin.firstCells]
  · simp [Builtin.append_, run_underlying ht, sizeOf, typeInfo, hi, Builtin.lenOf, Builtin.firstCells, hnc, storeCells]
theorem lit_row (w : World) (e : TypeId) : (w.alloc (.cells #[] e)).ownsRow w.heap.size e 1 (.slice (some ⟨w.heap.size, 0, none⟩) 0 0) 0 [] := World.ownsRow_lit (base := w.heap.size) (e := e) (size := 1) w #[] 0 (Nat.le_refl _) (Nat.zero_le _) rfl
theorem run_appendR {T e : TypeId} {z : Value} {by_ : Nat} (hu : Try.prog.underlying T = some (.slice e)) (hi : (Try.prog.info? e).map (fun i => (i.zero, i.size, i.bytes)) = some (some z, 1, by_)) (hz : z.cells.size = 1) (hby : by_ ≤ 100) (ty : TypeId) (W : World) (p : Nat) (hown : W.ownsRow p e 1 (.slice (some ⟨p, 0, none⟩) 0 0) 0 [])
    (ao : Option Addr) (m cap : Nat) (cs : List Value) (hl : cs.length = m) (hsrc : 0 < cs.length → ∃ ad, ao = some ad ∧ ∀ j v, cs[j]? = some v → W.cell? (ad.add j) = some v) (h1 : ∀ v ∈ cs, v.oneCell' = true) (hm : m ≤ 10000000) :
    ∃ v' w', (Builtin.append_ #[T, T] ty #[.slice (some ⟨p, 0, none⟩) 0 0, .slice ao m cap]).run Try.prog W = .ok v' w' ∧ w'.ownsRow p e 1 v' m cs ∧ Below p W w' := by
  obtain ⟨i0, hi0, hz0, hz1, hz2⟩ := info_parts hi
  have hlo : p ≤ W.heap.size := Nat.le_of_lt (hown.lt p rfl).2
  have big : ∀ ad, ao = some ad → (∀ j v, cs[j]? = some v → W.cell? (ad.add j) = some v) → ∃ v' w', (Builtin.append_ #[T, T] ty #[.slice (some ⟨p, 0, none⟩) 0 0, .slice ao m cap]).run Try.prog W = .ok v' w' ∧ w'.ownsRow p e 1 v' m cs ∧ Below p W w' := fun ad ha hc => by
    subst ha
    have hb2 : (0 + m) * by_ ≤ 140737488355328 := by
      have : (0 + m) * by_ ≤ 10000000 * 100 := Nat.mul_le_mul (by omega) hby
      omega
    obtain ⟨v', w', hr, r1, r2, _⟩ := run_append_own_at (P := Try.prog) W p T ty e i0 z 1 by_ hu hi0 hz0 hz1 hz2 hz (by decide) _ 0 [] hown ad m cap cs (by omega) hc h1 (by unfold maxLen; omega) hb2 hlo
    refine ⟨v', w', hr, ?_, (Below.refl _ _).grown r2 hlo (fun k hk => (hown.lt k hk).1)⟩
    rw [Nat.zero_add, List.nil_append] at r1
    exact r1
  by_cases h0 : 0 < cs.length
  · obtain ⟨ad, ha, hc⟩ := hsrc h0
    exact big ad ha hc
  · have hcs : cs = [] := List.eq_nil_of_length_eq_zero (by omega)
    subst hcs
    cases ao with
    | some ad => exact big ad rfl (fun j v hj => by simp at hj)
    | none =>
      have hm0 : m = 0 := by simpa using hl.symm
      subst hm0
      exact ⟨_, W, run_append_none' W p T ty e i0 1 hu hi0 _ 0 cap _ hown, hown, Below.refl _ _⟩
theorem one_i : (Value.int .i64 0).cells.size = 1 := rfl
theorem one_b : (Value.int .u8 0).cells.size = 1 := rfl
/-- append([]byte{}, x...) -/
theorem run_appendRB (ty : TypeId) (W : World) (p : Nat) (hown : W.ownsRow p 5 1 (.slice (some ⟨p, 0, none⟩) 0 0) 0 []) {hi m cap : Nat} {ao : Option Addr} {f : Nat → Nat} (r : layBytes.rd W hi (m, f) [.slice ao m cap]) (hm : m ≤ 10000000) :
    ∃ v' w', (Builtin.append_ #[23, 23] ty #[.slice (some ⟨p, 0, none⟩) 0 0, .slice ao m cap]).run Try.prog W = .ok v' w' ∧ OwnT layBytes w' p w'.heap.size (m, f) [v'] ∧ Below p W w' := by
  obtain ⟨v, e, r1, kf⟩ := r
  cases e
  obtain ⟨v', w', hr, h2, h3⟩ := run_appendR Try.underlying23 info_u8 one_b (by decide) ty W p hown ao m cap (cellsOf m f) (cellsOf_length m f) (fun hp => copy_src r1 hp) (cellsOf_one m f) hm
  exact ⟨v', w', hr, ownB_T ⟨h2, fun k hk => (h2.lt k hk).2⟩ (Nat.le_refl _) kf, h3⟩
theorem wp_run2 {ops : Array Oper} {rest : List Oper} {o : Oper} {a : Act} {W w' : World} {Q : Exit → Act → World → Prop} {T : TypeId} {v' x1 x2 : Value} (hg : o.guard = none) (s y : Operand) (hop : o.op = Op.call { callee := Callee.builtin Builtin.append, args := #[s, y], argTypes := #[T, T] })
    (h1 : a.eval s = x1) (h2 : a.eval y = x2) (hrun : (Builtin.append_ #[T, T] o.type #[x1, x2]).run Try.prog W = .ok v' w') (hK : wpList Try.prog ops Q rest (a.put o.dst v') w') : wpList Try.prog ops Q (o :: rest) a W := by
  refine wpList_plain hg fun K hK' => ?_
  unfold Oper.wp
  simp [execOp, hop, resolve, invoke, builtin, h1, h2, hrun, Result.andThen]
  exact hK' _ _ hK
theorem step_run2 {ops : Array Oper} {o : Oper} {a : Act} {W w' : World} {K : Act → World → Prop} {Q : Exit → Act → World → Prop} {F : Prop} {T : TypeId} {v' x1 x2 : Value} (hg : o.guard = none) (s y : Operand) (hop : o.op = Op.call { callee := Callee.builtin Builtin.append, args := #[s, y], argTypes := #[T, T] })
    (h1 : a.eval s = x1) (h2 : a.eval y = x2) (hrun : (Builtin.append_ #[T, T] o.type #[x1, x2]).run Try.prog W = .ok v' w') (hK : K (a.put o.dst v') w') : if Region.wanted o (yielded ops a.tmps) = true then Oper.wp Try.prog o a W K Q else F := by
  have hw : Region.wanted o (yielded ops a.tmps) = true := by simp [Region.wanted, hg]
  rw [if_pos hw]
  unfold Oper.wp
  simp [execOp, hop, resolve, invoke, builtin, h1, h2, hrun, Result.andThen]
  exact hK
end Go.Proofs.Ytapnjoophlckoaa

namespace Go.Proofs.Ytapnjoophlckoaa
open Go.RowKit F256
set_option linter.unusedVariables false
set_option linter.unusedSimpArgs false
def SameI (n m : Nat) (f g : Nat → Int) : Prop := n = m ∧ ∀ i, i < n → f i = g i
set_option maxHeartbeats 1000000 in
theorem equalB_any (v1 v2 : Value) (n m : Nat) (f g : Nat → Nat) (h1 h2 : Nat) (w : World) (r1 : Rd w h1 v1 n f) (r2 : Rd w h2 v2 m g) :
    Calls Try.prog 37 #[v1, v2] w (BoolP (SameP n m f g) w) := by
  obtain ⟨ao, cap, rfl, hm, hc⟩ := r1
  obtain ⟨ao2, cap2, rfl, hm2, hc2⟩ := r2
  unfold maxLen at hm hm2
  by_cases hnm : n = m
  · subst hnm
    go_enter Try.func37, Try.ntmps37
    go_wp2
    go_loopw [13] (fun i wr => ∃ k : Nat, k ≤ n ∧ i = .int .i64 k ∧ (∀ i, i < k → f i = g i) ∧ ∃ m, wr = w.drewN m) (fun i _ => n - (intOf i).toNat)
    case atStart => exact ⟨0, Nat.zero_le _, rfl, fun i hi => by omega, 0, rfl⟩
    case round =>
      obtain ⟨k, hk, rfl, hall, q, rfl⟩ := hrel
      have HALL : Hid (∀ i, i < k → f i = g i) := hall
      clear hall
      by_cases hlt : k < n
      · obtain ⟨b, off, rfl, hblt, hcell⟩ := hc (by omega)
        obtain ⟨b2, off2, rfl, hblt2, hcell2⟩ := hc2 (by omega)
        have hck : w.cell? ⟨b, off + k, none⟩ = some (.int .u8 (f k)) := hcell k hlt
        have hck2 : w.cell? ⟨b2, off2 + k, none⟩ = some (.int .u8 (g k)) := hcell2 k hlt
        obtain ⟨x, hx⟩ : ∃ x, x = f k := ⟨_, rfl⟩
        obtain ⟨y, hy⟩ : ∃ y, y = g k := ⟨_, rfl⟩
        have HX : Hid (x = f k) := hx
        have HY : Hid (y = g k) := hy
        rw [← hx] at hck
        rw [← hy] at hck2
        clear hc hc2 hcell hcell2 hx hy
        by_cases heq : x = y
        · subst heq
          go_wp2
          go_quiet (fail)
          go_wp2
          go_roundw
          case rel => exact ⟨k + 1, by omega, by go_num, fun i hi => by
                        by_cases c : i = k
                        · rw [c, ← HX.out, ← HY.out]
                        · exact HALL.out i (by omega), _, rfl⟩
          case measure => simp [intOf]; omega
        · have tn : ((x : Int) != (y : Int)) = true := by simp; omega
          go_wp2
          go_quiet (fail)
          go_wp2
          go_ret
          exact boolNo rfl (fun h => absurd (h.2 k hlt) (by rw [← HX.out, ← HY.out]; exact heq)) (below_drewN (below_drewN (Below.refl _ _) _) _)
      · have hkn : k = n := by omega
        subst hkn
        go_wp2
        go_ret
        exact boolYes rfl ⟨rfl, HALL.out⟩ (below_drewN (Below.refl _ _) _)
  · have tn : ((n : Int) != (m : Int)) = true := by simp; omega
    clear hc hc2
    go_enter Try.func37, Try.ntmps37
    go_wp2
    go_ret
    exact boolNo rfl (fun h => hnm h.1) (Below.refl _ _)

end Go.Proofs.Ytapnjoophlckoaa

namespace Go.Proofs.Ytapnjoophlckoaa
open Go.RowKit F256
set_option linter.unusedVariables false
set_option linter.unusedSimpArgs false
theorem toList_inj {a b : ByteArray} : a.toList = b.toList ↔ a = b := by
  constructor
  · intro h
    rw [ByteArray.toList_eq, ByteArray.toList_eq] at h
    cases a
    cases b
    congr
    exact Array.toList_inj.1 h
  · intro h; rw [h]
/-- all fields alike -/
structure SameR (a b : RecD) : Prop where
  kind : a.kind = b.kind
  seq : a.seq = b.seq
  name : a.name = b.name
  length : a.length = b.length
  group : a.group = b.group
  row : a.row = b.row
  rows : SameI a.rows.1 b.rows.1 a.rows.2 b.rows.2
  data : SameP a.data.1 b.data.1 a.data.2 b.data.2
  delta : SameP a.delta.1 b.delta.1 a.delta.2 b.delta.2
end Go.Proofs.Ytapnjoophlckoaa

namespace Go.Proofs.Ytapnjoophlckoaa
open Go.RowKit F256
set_option linter.unusedVariables false

/-- what is read lies in cells of its own -/
def RdOne {α : Type} (E : Lay α) : Prop := ∀ (w : World) (hi : Nat) (a : α) (cs : List Value), E.rd w hi a cs → ∀ u, u ∈ cs → u.oneCell' = true
theorem rdOne_plain {α : Type} (enc : α → Value) (ok : α → Prop) (one : ∀ a, (enc a).oneCell' = true) : RdOne (Lay.plain enc ok one) := fun w hi a cs h u hu => by
  obtain ⟨rfl, _⟩ := h
  simp at hu
  subst hu
  exact one a
theorem rdOne_two {α β : Type} {A : Lay α} {B : Lay β} (ha : RdOne A) (hb : RdOne B) : RdOne (A.two B) := fun w hi p cs h u hu => by
  obtain ⟨c, d, rfl, h1, h2⟩ := h
  rcases List.mem_append.1 hu with h | h
  · exact ha _ _ _ _ h1 u h
  · exact hb _ _ _ _ h2 u h
theorem rdOne_as {α β : Type} {A : Lay α} (ha : RdOne A) (f : β → α) : RdOne (A.as f) := fun w hi p cs h u hu => ha w hi (f p) cs h u hu
theorem rdOne_bytes : RdOne layBytes := fun w hi p cs h u hu => by
  obtain ⟨v, rfl, ⟨ao, cap, rfl, _⟩, _⟩ := h
  simp at hu
  subst hu
  rfl
theorem rdOne_ints : RdOne layInts := fun w hi p cs h u hu => by
  obtain ⟨v, rfl, ⟨⟨ao, cap, rfl, _⟩, _⟩, _⟩ := h
  simp at hu
  subst hu
  rfl
theorem rdOne_slice {α : Type} (E : Lay α) (t : TypeId) : RdOne (E.slice t) := fun w hi p cs h u hu => by
  obtain ⟨ao, cap, rfl, _⟩ := h
  simp at hu
  subst hu
  rfl
theorem rdOne_rec : RdOne layRec := rdOne_as (rdOne_two (rdOne_plain _ _ _) (rdOne_two (rdOne_plain _ _ _) (rdOne_two (rdOne_plain _ _ _) (rdOne_two (rdOne_plain _ _ _) (rdOne_two (rdOne_plain _ _ _) (rdOne_two (rdOne_plain _ _ _) (rdOne_two rdOne_ints (rdOne_two rdOne_bytes rdOne_bytes)))))))) _
def cat2 {β : Type} (x : Nat → β) (n : Nat) (y : Nat → β) : Nat → β := fun i => if i < n then x i else y (i - n)
theorem cat2_lt {β : Type} (x : Nat → β) {n i : Nat} (y : Nat → β) (h : i < n) : cat2 x n y i = x i := if_pos h
theorem cat2_ge {β : Type} (x : Nat → β) (n : Nat) (y : Nat → β) (i : Nat) : cat2 x n y (n + i) = y i := by
  unfold cat2
  rw [if_neg (by omega)]
  congr 1
  omega
theorem catN_cat2 {β : Type} (x : Nat → List β) (n : Nat) (y : Nat → List β) : ∀ m, catN (n + m) (cat2 x n y) = catN n x ++ catN m y
  | 0 => by rw [catN_zero, List.append_nil]; exact catN_congr (fun i hi => cat2_lt x y hi)
  | m + 1 => by rw [← Nat.add_assoc, catN_succ, catN_cat2 x n y m, catN_succ, cat2_ge, List.append_assoc]
/-- a row of its own, in a block from lo on: n elements that read as x below hi, ce their cells -/
structure View {α : Type} (E : Lay α) (t : TypeId) (w : World) (lo hi : Nat) (v : Value) (n : Nat) (x : Nat → α) (ce : Nat → List Value) : Prop where
  row : w.ownsRow lo t E.sz v n (catN n ce)
  each : ∀ i, i < n → E.rd w hi (x i) (ce i)
section
variable {α : Type} {E : Lay α} {t : TypeId} {w w' : World} {lo hi n : Nat} {v : Value} {x : Nat → α} {ce : Nat → List Value}
theorem View.nil (x : Nat → α) (ce : Nat → List Value) (w : World) (lo hi : Nat) : View E t w lo hi (.slice none 0 0) 0 x ce := ⟨World.ownsRow_nil w lo t E.sz, fun i hi => by omega⟩
theorem View.lit0 (x : Nat → α) (ce : Nat → List Value) (w : World) (hi : Nat) : View E t (w.alloc (.cells #[] t)) w.heap.size hi (.slice (some ⟨w.heap.size, 0, none⟩) 0 0) 0 x ce := by
  have h := World.ownsRow_lit (base := w.heap.size) (e := t) (size := E.sz) w #[] 0 (Nat.le_refl _) (Nat.zero_le _) (by simp)
  exact ⟨by simpa [catN_zero] using h, fun i hi => by omega⟩
theorem View.form (h : View E t w lo hi v n x ce) : ∃ ao cap, v = .slice ao n cap := by
  rcases h.row.2 with ⟨hv, hn⟩ | ⟨g, cap, cur, rfl, _⟩
  · exact ⟨none, 0, by rw [hv, hn]⟩
  · exact ⟨_, _, rfl⟩
theorem View.form0 (h : View E t w lo hi v n x ce) (h0 : n ≠ 0) : ∃ g cap, v = .slice (some ⟨g, 0, none⟩) n cap := by
  rcases h.row.2 with ⟨hv, hn⟩ | ⟨g, cap, cur, rfl, _⟩
  · exact absurd hn h0
  · exact ⟨_, _, rfl⟩
theorem View.len (h : View E t w lo hi v n x ce) : n ≤ maxLen := by
  rcases h.row.2 with ⟨hv, hn⟩ | ⟨g, cap, cur, rfl, hbg, hgg, hnc, hcm, rest⟩
  · omega
  · omega
theorem View.kept (h : View E t w lo hi v n x ce) (hk : ∀ b, v.ownBlock = some b → w'.heap[b]? = w.heap[b]?) (hb : Below hi w w') : View E t w' lo hi v n x ce := by
  refine ⟨⟨h.row.1, ?_⟩, fun i hi => E.rd_below (h.each i hi) hb (Nat.le_refl _)⟩
  rcases h.row.2 with hn | ⟨g, cap, cur, rfl, hbg, hgg, rest⟩
  · exact .inl hn
  · exact .inr ⟨g, cap, cur, rfl, hbg, (hk g (by simp [Value.ownBlock])).trans hgg, rest⟩
theorem View.below (h : View E t w lo hi v n x ce) (hb : Below w.heap.size w w') (hh : hi ≤ w.heap.size) : View E t w' lo hi v n x ce :=
  h.kept (fun b hv => hb.block b (h.row.lt b hv).2) (hb.mono hh)
theorem View.congr {y : Nat → α} (h : View E t w lo hi v n x ce) (hy : ∀ i, i < n → x i = y i) : View E t w lo hi v n y ce := ⟨h.row, fun i hi => by rw [← hy i hi]; exact h.each i hi⟩
theorem View.lens (h : View E t w lo hi v n x ce) : ∀ i, i < n → (ce i).length = E.sz := fun i hi => E.rd_len (h.each i hi)
theorem View.cell {g cap : Nat} (h : View E t w lo hi (.slice (some ⟨g, 0, none⟩) n cap) n x ce) {i j : Nat} (hi : i < n) (hj : j < E.sz) : w.cell? ⟨g, i * E.sz + j, none⟩ = (ce i)[j]? := by
  rw [h.row.cellAt _ (mul_lt hi hj), catN_get h.lens hi hj]
theorem View.rd (h : View E t w lo hi v n x ce) (hh : hi ≤ w.heap.size) : (E.slice t).rd w w.heap.size (n, x) [v] := by
  have hlt := fun b hb => (h.row.lt b hb).2
  obtain ⟨ao, cap, rfl⟩ := h.form
  refine ⟨ao, cap, rfl, h.len, fun h0 => ?_⟩
  obtain ⟨g, cap', e⟩ := h.form0 h0
  cases e
  refine ⟨g, 0, rfl, hlt g (by simp [Value.ownBlock]), fun i hi => ⟨ce i, E.rd_mono (h.each i hi) hh, fun j hj => ?_⟩⟩
  rw [Nat.zero_add]
  exact h.cell hi hj
theorem View.store1 {g cap : Nat} (h : View E t w lo hi (.slice (some ⟨g, 0, none⟩) n cap) n x ce) (h1 : E.sz = 1) (hlo : hi ≤ lo) {i : Nat} (hi' : i < n) {u : Value} {a : α} (ha : E.rd w hi a [u]) :
    View E t (w.setCell ⟨g, i, none⟩ u) lo hi (.slice (some ⟨g, 0, none⟩) n cap) n (upd x i a) (upd ce i [u]) ∧ Below lo w (w.setCell ⟨g, i, none⟩ u) := by
  have hg := h.row.lt g rfl
  have hb : Below lo w (w.setCell ⟨g, i, none⟩ u) := (Below.refl _ _).setCell hg.1 _
  refine ⟨⟨?_, fun m hm => ?_⟩, hb⟩
  · have := (h.row.stored (i * E.sz + 0) u).1
    rw [catN_set h.lens hi' (by omega)] at this
    rw [show i * E.sz + 0 = i by rw [h1]; omega] at this
    have hl := h.lens i hi'
    rw [h1] at hl
    obtain ⟨c, hc⟩ := List.length_eq_one_iff.1 hl
    rw [hc] at this
    exact this
  · by_cases c : m = i
    · subst c
      rw [upd_at, upd_at]
      exact E.rd_below ha hb hlo
    · rw [upd_ne x a c, upd_ne ce _ c]
      exact E.rd_below (h.each m hm) hb hlo
/-- the elements of a part of a row -/
def Src (E : Lay α) (w : World) (hi : Nat) (ao : Option Addr) (m : Nat) (y : Nat → α) (cy : Nat → List Value) : Prop :=
  (m ≠ 0 → ∃ b off, ao = some ⟨b, off, none⟩ ∧ ∀ j, j < m → ∀ k, k < E.sz → w.cell? ⟨b, off + (j * E.sz + k), none⟩ = (cy j)[k]?) ∧ ∀ j, j < m → E.rd w hi (y j) (cy j)
theorem src_one {b : Nat} {y : α} {cs : List Value} (hc : ∀ k, k < E.sz → w.cell? ⟨b, k, none⟩ = cs[k]?) (hy : E.rd w hi y cs) : Src E w hi (some ⟨b, 0, none⟩) 1 (fun _ => y) (fun _ => cs) :=
  ⟨fun _ => ⟨b, 0, rfl, fun j hj k hk => by
    obtain rfl : j = 0 := by omega
    rw [← hc k hk]
    congr 2
    omega⟩, fun _ _ => hy⟩
theorem add_oo (b o j : Nat) : (⟨b, o, none⟩ : Addr).add j = ⟨b, o + j, none⟩ := by unfold Addr.add; split <;> simp_all
end
/-- append(v, y...) onto a row of its own -/
theorem run_appendV {α : Type} {E : Lay α} {T e : TypeId} {by_ : Nat} {zs : List Value} (I : ElInfo E T e by_ zs) (R1 : RdOne E) (ty : TypeId) {W : World} {lo hi n : Nat} {v : Value} {x : Nat → α} {ce : Nat → List Value} (h : View E e W lo hi v n x ce)
    {ao : Option Addr} {m : Nat} (c : Nat) {y : Nat → α} {cy : Nat → List Value} (hs : Src E W hi ao m y cy) (hlo : lo ≤ W.heap.size) (hhi : hi ≤ lo) (hn : n + m ≤ 10000000) (hc0 : ao = none → c = 0 ∨ m = 0) :
    ∃ v' w', (Builtin.append_ #[T, T] ty #[v, .slice ao m c]).run Try.prog W = .ok v' w' ∧ View E e w' lo hi v' (n + m) (cat2 x n y) (cat2 ce n cy) ∧ W.grownBy w' v.ownBlock ∧ Below lo W w' := by
  obtain ⟨hz, hzs, hu, hinf, few⟩ := I
  obtain ⟨i0, hi0⟩ : ∃ i0, Try.prog.info? e = some i0 := by
    cases h : Try.prog.info? e with
    | none => rw [h] at hinf; cases hinf
    | some i0 => exact ⟨i0, rfl⟩
  rw [hi0] at hinf
  simp only [Option.map_some, Option.some.injEq, Prod.mk.injEq] at hinf
  obtain ⟨h1, h2, h3⟩ := hinf
  obtain ⟨z, hz0, hzc⟩ : ∃ z, i0.zero = some z ∧ z.cells = zs.toArray := by
    cases h : i0.zero with
    | none => rw [h] at h1; cases h1
    | some z => rw [h] at h1; exact ⟨z, rfl, by simpa using h1⟩
  obtain ⟨hcell, hrd⟩ := hs
  have hlen : (catN m cy).length = m * E.sz := catN_len (fun j hj => E.rd_len (hrd j hj))
  have big : ∀ ad, ao = some ad → (∀ j u, (catN m cy)[j]? = some u → W.cell? (ad.add j) = some u) → ∃ v' w', (Builtin.append_ #[T, T] ty #[v, .slice ao m c]).run Try.prog W = .ok v' w' ∧ View E e w' lo hi v' (n + m) (cat2 x n y) (cat2 ce n cy) ∧ W.grownBy w' v.ownBlock ∧ Below lo W w' := fun ad ha hc => by
    subst ha
    obtain ⟨v', w', hr, r1, r2, r3, r4⟩ := run_append_own_at (P := Try.prog) W lo T ty e i0 z E.sz by_ hu hi0 hz0 h2 h3 (by rw [hzc]; simpa using hzs) hz v n (catN n ce) h.row ad m c (catN m cy) hlen hc
      (fun u hu => by
        obtain ⟨i, hi, hm⟩ := mem_catN.1 hu
        exact R1 _ _ _ _ (hrd i hi) u hm) (by unfold maxLen; omega) (by
        have : (n + m) * by_ ≤ 10000000 * 1000 := Nat.mul_le_mul hn few
        omega) hlo
    have hb : Below lo W w' := (Below.refl _ _).grown r2 hlo (fun k hk => (h.row.lt k hk).1)
    refine ⟨v', w', hr, ⟨by rw [catN_cat2]; exact r1, fun i hi => ?_⟩, r2, hb⟩
    by_cases c1 : i < n
    · rw [cat2_lt x y c1, cat2_lt ce cy c1]
      exact E.rd_below (h.each i c1) hb hhi
    · obtain ⟨k, rfl⟩ : ∃ k, i = n + k := ⟨i - n, by omega⟩
      rw [cat2_ge, cat2_ge]
      exact E.rd_below (hrd k (by omega)) hb hhi
  by_cases hm : m = 0
  · subst hm
    cases ao with
    | some ad => exact big ad rfl (fun j u hj => by rw [catN_zero] at hj; simp at hj)
    | none =>
      refine ⟨v, W, run_append_none' W lo T ty e i0 E.sz hu hi0 v n c _ h.row, ⟨by rw [catN_cat2, catN_zero, List.append_nil]; exact h.row, fun i hi => ?_⟩, ⟨rfl, rfl, rfl, Nat.le_refl _, fun _ _ _ => rfl⟩, Below.refl _ _⟩
      have hi' : i < n := by omega
      rw [cat2_lt x y hi', cat2_lt ce cy hi']
      exact h.each i hi'
  · obtain ⟨b, off, rfl, hcc⟩ := hcell hm
    refine big _ rfl (fun j u hj => ?_)
    have hj' : j < m * E.sz := by rw [← hlen]; exact (List.getElem?_eq_some_iff.1 hj).1
    have e1 : j / E.sz < m := Nat.div_lt_of_lt_mul (by rw [Nat.mul_comm]; exact hj')
    have e2 : j % E.sz < E.sz := Nat.mod_lt _ hz
    have e3 : j / E.sz * E.sz + j % E.sz = j := by rw [Nat.mul_comm]; exact Nat.div_add_mod j E.sz
    rw [add_oo, ← e3, hcc _ e1 _ e2, ← catN_get (fun j hj => E.rd_len (hrd j hj)) e1 e2, e3]
    exact hj
end Go.Proofs.Ytapnjoophlckoaa

namespace Go.Proofs.Ytapnjoophlckoaa
open Go.RowKit F256
set_option linter.unusedVariables false

def spl (xs : List Value) : Nat → List Value → List Value
  | _, [] => xs
  | o, v :: r => spl (xs.set o v) (o + 1) r
theorem spl_get (cs : List Value) : ∀ (xs : List Value) (o j : Nat), o + cs.length ≤ xs.length → (spl xs o cs)[j]? = if o ≤ j ∧ j < o + cs.length then cs[j - o]? else xs[j]? := by
  induction cs with
  | nil => intro xs o j h; rw [if_neg (by simp)]; rfl
  | cons v r ih =>
    intro xs o j h
    simp only [List.length_cons] at h
    show (spl (xs.set o v) (o + 1) r)[j]? = _
    rw [ih (xs.set o v) (o + 1) j (by rw [List.length_set]; omega)]
    by_cases c1 : o = j
    · subst c1
      rw [if_neg (by omega), if_pos (by simp), List.getElem?_set]
      simp
      omega
    · by_cases c2 : o + 1 ≤ j ∧ j < o + 1 + r.length
      · rw [if_pos c2, if_pos (by simp; omega)]
        obtain ⟨i, rfl⟩ : ∃ i, j = o + 1 + i := ⟨j - (o + 1), by omega⟩
        rw [show o + 1 + i - (o + 1) = i by omega, show o + 1 + i - o = i + 1 by omega]
        simp
      · rw [if_neg c2, if_neg (by simp; omega), List.getElem?_set, if_neg c1]
theorem catN_upd {n s i : Nat} {ce : Nat → List Value} {cs : List Value} (hs : 0 < s) (hl : ∀ k, k < n → (ce k).length = s) (hc : cs.length = s) (hi : i < n) : spl (catN n ce) (i * s) cs = catN n (upd ce i cs) := by
  have hl' : ∀ k, k < n → (upd ce i cs k).length = s := fun k hk => by
    by_cases c : k = i
    · subst c; rw [upd_at]; exact hc
    · rw [upd_ne ce cs c]; exact hl k hk
  have hb : i * s + s ≤ n * s := by
    have := Nat.mul_le_mul_right s (show i + 1 ≤ n from hi)
    rw [Nat.succ_mul] at this
    exact this
  apply List.ext_getElem?
  intro j
  rw [spl_get _ _ _ _ (by rw [catN_len hl, hc]; exact hb)]
  by_cases hj : j < n * s
  · have e3 : j / s * s + j % s = j := by rw [Nat.mul_comm]; exact Nat.div_add_mod j s
    have e1 : j / s < n := Nat.div_lt_of_lt_mul (by rw [Nat.mul_comm]; exact hj)
    have e2 : j % s < s := Nat.mod_lt _ hs
    have g1 := catN_get hl e1 e2
    have g2 := catN_get hl' e1 e2
    rw [e3] at g1 g2
    rw [g1, g2]
    by_cases c : j / s = i
    · have h5 : i * s ≤ j ∧ j < i * s + cs.length := by rw [← c, hc]; omega
      rw [if_pos h5, c, upd_at]
      congr 1
      rw [← c]; omega
    · rw [upd_ne ce cs c, if_neg]
      rw [hc]
      intro hh
      apply c
      have := Nat.div_eq_of_lt_le (m := j) (n := s) (k := i) (by rw [Nat.mul_comm] at *; omega) (by rw [Nat.succ_mul]; omega)
      exact this
  · rw [if_neg (by rw [hc]; omega), List.getElem?_eq_none (l := catN n ce) (by rw [catN_len hl]; omega), List.getElem?_eq_none (l := catN n (upd ce i cs)) (by rw [catN_len hl']; omega)]
theorem row_setCells {lo : Nat} {t : TypeId} {s g cap n : Nat} (cs : List Value) : ∀ (w : World) (xs : List Value) (o : Nat), w.ownsRow lo t s (.slice (some ⟨g, 0, none⟩) n cap) n xs → (w.setCells g o cs).ownsRow lo t s (.slice (some ⟨g, 0, none⟩) n cap) n (spl xs o cs) := by
  induction cs with
  | nil => intro w xs o h; exact h
  | cons v r ih => intro w xs o h; exact ih _ _ _ (h.stored o v).1
theorem chgL_setCells (g : Nat) (cs : List Value) : ∀ (w : World) (o : Nat), ChgL [g] w (w.setCells g o cs) := by
  induction cs with
  | nil => intro w o; exact ChgL.refl _ _
  | cons v r ih => intro w o; exact (ChgL.store [g] w g o v (by simp)).trans (ih _ _)
section
variable {α : Type} {E : Lay α} {t : TypeId} {w : World} {lo hi n g cap : Nat} {x : Nat → α} {ce : Nat → List Value}
theorem View.drew {v : Value} (h : View E t w lo hi v n x ce) : View E t w.drew lo hi v n x ce := h.kept (fun _ _ => rfl) ⟨rfl, rfl, rfl, Nat.le_refl _, fun _ _ => rfl⟩
theorem View.congr2 {v : Value} {y : Nat → α} {cy : Nat → List Value} (h : View E t w lo hi v n x ce) (hy : ∀ i, i < n → x i = y i) (hc : ∀ i, i < n → ce i = cy i) : View E t w lo hi v n y cy := ⟨by rw [← catN_congr hc]; exact h.row, fun i hi => by rw [← hy i hi, ← hc i hi]; exact h.each i hi⟩
theorem View.chg {v : Value} {w' : World} {K : List Nat} (h : View E t w lo hi v n x ce) (hc : ChgL K w w') (hK : ∀ b, b ∈ K → hi ≤ b ∧ v.ownBlock ≠ some b) (hh : hi ≤ w.heap.size) : View E t w' lo hi v n x ce :=
  h.kept (fun b hv => hc.block b (h.row.lt b hv).2 (fun hm => (hK b hm).2 hv)) (hc.bel (fun b hb => (hK b hb).1) hh)
/-- an element's cells -/
theorem View.range (h : View E t w lo hi (.slice (some ⟨g, 0, none⟩) n cap) n x ce) {i : Nat} (hi' : i < n) : w.rangeAt g (i * E.sz) (ce i) := fun j v hv => by
  have hj : j < E.sz := by rw [← h.lens i hi']; exact (List.getElem?_eq_some_iff.1 hv).1
  rw [h.cell hi' hj]
  exact hv
theorem View.there (h : View E t w lo hi (.slice (some ⟨g, 0, none⟩) n cap) n x ce) {i : Nat} (hi' : i < n) : w.there g (i * E.sz) E.sz := fun j hj => by
  refine ⟨?_, h.row.frozenAt _⟩
  rw [h.cell hi' hj, List.getElem?_eq_getElem (by rw [h.lens i hi']; exact hj)]
  rfl
/-- an element laid anew -/
theorem View.put (h : View E t w lo hi (.slice (some ⟨g, 0, none⟩) n cap) n x ce) (hs : 0 < E.sz) (hlo : hi ≤ lo) {i : Nat} (hi' : i < n) {a : α} {cs : List Value} (ha : E.rd w hi a cs) :
    View E t (w.setCells g (i * E.sz) cs) lo hi (.slice (some ⟨g, 0, none⟩) n cap) n (upd x i a) (upd ce i cs) := by
  have hg := h.row.lt g rfl
  have hb : Below lo w (w.setCells g (i * E.sz) cs) := (chgL_setCells g cs w _).bel (fun b hb => by simp at hb; omega) (by omega)
  refine ⟨?_, fun m hm => ?_⟩
  · have := row_setCells cs w _ (i * E.sz) h.row
    rw [catN_upd hs h.lens (E.rd_len ha) hi'] at this
    exact this
  · by_cases c : m = i
    · subst c
      rw [upd_at, upd_at]
      exact E.rd_below ha hb hlo
    · rw [upd_ne x a c, upd_ne ce _ c]
      exact E.rd_below (h.each m hm) hb hlo
end
end Go.Proofs.Ytapnjoophlckoaa

namespace Go.Proofs.Ytapnjoophlckoaa
open Go.RowKit F256
set_option linter.unusedVariables false
theorem OwnT.one {α : Type} {A : Lay α} {w : World} {lo hi : Nat} {a : α} {cs : List Value} (h : OwnT A w lo hi a cs) : ∀ v, v ∈ cs → v.oneCell' = true := by
  obtain ⟨L, h1, _⟩ := h
  exact fun v hv => A.own_one h1 v hv
theorem wp_allocStore {ops : Array Oper} {rest : List Oper} {o1 o2 : Oper} {a : Act} {w : World} {Q : Exit → Act → World → Prop} (T : TypeId) (k : Nat) (x : Operand) (cs : List Value) (zs : Array Value) (n : Nat)
    (hop1 : o1.op = Op.alloc T) (hop2 : o2.op = Op.store T (.tmp k) x) (hg1 : o1.guard = none) (hg2 : o2.guard = none) (hd1 : o1.dst = some k) (hd2 : o2.dst = none)
    (hp : (a.put (some k) (.pointer (some ⟨w.heap.size, 0, none⟩))).eval (.tmp k) = .pointer (some ⟨w.heap.size, 0, none⟩)) (hx : (a.put (some k) (.pointer (some ⟨w.heap.size, 0, none⟩))).eval x = .agg cs.toArray)
    (hi : (Try.prog.info? T).map (fun i => (i.zero.map (·.cells), i.size)) = some (some zs, n)) (hz : zs.size = n) (hl : cs.length = n) (h1 : ∀ v, v ∈ cs → v.oneCell' = true)
    (h : wpList Try.prog ops Q rest (a.put (some k) (.pointer (some ⟨w.heap.size, 0, none⟩))) (w.alloc (.cells cs.toArray T))) : wpList Try.prog ops Q (o1 :: o2 :: rest) a w := by
  obtain ⟨i0, hi0⟩ : ∃ i0, Try.prog.info? T = some i0 := by
    cases h : Try.prog.info? T with
    | none => rw [h] at hi; cases hi
    | some i0 => exact ⟨i0, rfl⟩
  rw [hi0] at hi
  simp only [Option.map_some, Option.some.injEq, Prod.mk.injEq] at hi
  obtain ⟨h2, h3⟩ := hi
  obtain ⟨z, hzz, hzc⟩ : ∃ z, i0.zero = some z ∧ z.cells = zs := by
    cases h : i0.zero with
    | none => rw [h] at h2; cases h2
    | some z => rw [h] at h2; exact ⟨z, rfl, by simpa using h2⟩
  have hr : (Instr.alloc T true (.tuple #[])).run Try.prog w = .ok (.pointer (some ⟨w.heap.size, 0, none⟩)) (w.alloc (.cells zs T)) := by
    simp [Instr.alloc, zeroValue, typeInfo, hi0, hzz, hzc, newVar, newRow]
  have hw : (w.alloc (.cells zs T)).setRow w.heap.size cs.toArray = w.alloc (.cells cs.toArray T) := by
    have hh : ((w.alloc (.cells zs T)).setRow w.heap.size cs.toArray).heap = w.heap.push (.cells cs.toArray T) := by
      apply Array.ext_getElem?
      intro i
      by_cases c : i = w.heap.size
      · subst c
        rw [setRow_heap (w.alloc (.cells zs T)) w.heap.size zs cs.toArray T (0, 0) (box_new w zs T), Array.getElem?_push, if_pos rfl]
      · rw [setRow_other _ _ _ _ c, Array.getElem?_push, if_neg c]
        show (w.heap.push _)[i]? = _
        rw [Array.getElem?_push, if_neg c]
    show ({ w with heap := ((w.alloc (.cells zs T)).setRow w.heap.size cs.toArray).heap } : World) = _
    rw [hh]
    rfl
  refine wpList_plain hg1 fun K hK => ?_
  unfold Oper.wp execOp
  simp only [hop1, Sem.run_bind, hr, Result.andThen_ok]
  refine hK _ _ ?_
  rw [hd1]
  refine wpList_store_row hg2 T (.tmp k) x hop2 w.heap.size cs.toArray hp hx T zs (box_new w zs T) (by rw [hi0]; simp [h3, hl]) (by simp [hz, hl]) (by simp; exact h1) ?_
  rw [hw, hd2]
  exact h
/-- a whole struct loaded -/
theorem wp_loadBox {ops : Array Oper} {rest : List Oper} {o : Oper} {a : Act} {w : World} {Q : Exit → Act → World → Prop} (T : TypeId) (x : Operand) (ho : o.op = .load T x) (hgd : o.guard = none) (b : Nat) (hx : a.eval x = .pointer (some ⟨b, 0, none⟩)) {cs : List Value} (hB : Box w b cs.toArray T) {fs : Array Field} (hu : Try.prog.underlying T = some (.struct fs)) {n : Nat} (hi : (Try.prog.info? T).map (·.size) = some n) (hl : cs.length = n)
    (h : wpList Try.prog ops Q rest (a.put o.dst (.agg cs.toArray)) w) : wpList Try.prog ops Q (o :: rest) a w :=
  wpList_load_row hgd T x ho b hx T cs.toArray (0, 0) (.struct fs) hB hu rfl (by rw [hi]; simp [hl]) h
theorem OwnT.len {α : Type} {A : Lay α} {w : World} {lo hi : Nat} {a : α} {cs : List Value} (h : OwnT A w lo hi a cs) : cs.length = A.sz := by
  obtain ⟨L, h1, _⟩ := h
  exact A.own_len h1
end Go.Proofs.Ytapnjoophlckoaa
