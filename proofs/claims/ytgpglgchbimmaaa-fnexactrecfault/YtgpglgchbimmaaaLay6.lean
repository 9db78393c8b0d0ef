/- Contracts of the laws' helpers, over whatever lies in memory. -/
import Derived.Test.YtgpglgchbimmaaaLay4
import Derived.Test.YtgpglgchbimmaaaLay5
import Derived.Test.YtgpglgchbimmaaaWIntsL
import Derived.Test.YtgpglgchbimmaaaWBytes
import Derived.Test.YtgpglgchbimmaaaOwnM
namespace Go.Proofs.Ytgpglgchbimmaaa
open Go.RowKit F256
set_option linter.unusedVariables false

/-- a copy of a value of one cell -/
def ToS {α : Type} (A : Lay α) (sz : α → Nat) (fn : Nat) : Prop := ∀ (v : Value) (d : α) (hi : Nat) (w : World), A.rd w hi d [v] → hi ≤ w.heap.size → sz d ≤ 1048576 →
  Calls Try.prog fn #[v] w fun e w' => ∃ v', e = .returned v' ∧ OwnT A w' w.heap.size w'.heap.size d [v'] ∧ Below w.heap.size w w'
/-- a copy of a struct -/
def ToV {α : Type} (A : Lay α) (sz : α → Nat) (fn : Nat) : Prop := ∀ (cs : List Value) (d : α) (hi : Nat) (w : World), A.rd w hi d cs → hi ≤ w.heap.size → sz d ≤ 1048576 →
  Calls Try.prog fn #[.agg cs.toArray] w fun e w' => ∃ cs', e = .returned (.agg cs'.toArray) ∧ OwnT A w' w.heap.size w'.heap.size d cs' ∧ Below w.heap.size w w'
/-- what is alike is told to be -/
def EqS {α : Type} (A : Lay α) (fn : Nat) : Prop := ∀ (v1 v2 : Value) (d : α) (h1 h2 : Nat) (w : World), A.rd w h1 d [v1] → A.rd w h2 d [v2] → h1 ≤ w.heap.size → h2 ≤ w.heap.size →
  Calls Try.prog fn #[v1, v2] w fun e w' => e = .returned (.bool true) ∧ Below w.heap.size w w'
def EqV {α : Type} (A : Lay α) (fn : Nat) : Prop := ∀ (c1 c2 : List Value) (d : α) (h1 h2 : Nat) (w : World), A.rd w h1 d c1 → A.rd w h2 d c2 → h1 ≤ w.heap.size → h2 ≤ w.heap.size →
  Calls Try.prog fn #[.agg c1.toArray, .agg c2.toArray] w fun e w' => e = .returned (.bool true) ∧ Below w.heap.size w w'
/-- marks from j on -/
def MkS {α : Type} (A : Lay α) (c : α → Nat) (mk : Nat → α → α) (fn : Nat) : Prop := ∀ (v : Value) (d : α) (L : List Nat) (j : Nat) (w : World), A.own w d [v] L → L.Nodup → j + c d ≤ 100000000 →
  Calls Try.prog fn #[v, .int .i64 j] w fun e w' => e = .returned (.int .i64 ((j + c d : Nat) : Int)) ∧ A.own w' (mk j d) [v] L ∧ ChgL L w w'
def MkV {α : Type} (A : Lay α) (c : α → Nat) (mk : Nat → α → α) (fn : Nat) : Prop := ∀ (cs : List Value) (d : α) (L : List Nat) (j : Nat) (w : World), A.own w d cs L → L.Nodup → j + c d ≤ 100000000 →
  Calls Try.prog fn #[.agg cs.toArray, .int .i64 j] w fun e w' => e = .returned (.int .i64 ((j + c d : Nat) : Int)) ∧ A.own w' (mk j d) cs L ∧ ChgL L w w'
/-- marks that are held -/
def HdS {α : Type} (A : Lay α) (c : α → Nat) (mk : Nat → α → α) (fn : Nat) : Prop := ∀ (v : Value) (d : α) (hi : Nat) (j : Nat) (w : World), A.rd w hi (mk j d) [v] → hi ≤ w.heap.size → j + c d ≤ 100000000 →
  Calls Try.prog fn #[v, .int .i64 j] w fun e w' => e = .returned (.int .i64 ((j + c d : Nat) : Int)) ∧ Below w.heap.size w w'
def HdV {α : Type} (A : Lay α) (c : α → Nat) (mk : Nat → α → α) (fn : Nat) : Prop := ∀ (cs : List Value) (d : α) (hi : Nat) (j : Nat) (w : World), A.rd w hi (mk j d) cs → hi ≤ w.heap.size → j + c d ≤ 100000000 →
  Calls Try.prog fn #[.agg cs.toArray, .int .i64 j] w fun e w' => e = .returned (.int .i64 ((j + c d : Nat) : Int)) ∧ Below w.heap.size w w'
/-- what the measure leaves -/
def SzP (n L : Nat) (x : Int) : Prop := x = -1 ∨ (n ≤ L ∧ x = (L : Int) - (n : Int))
def SzS {α : Type} (A : Lay α) (sz : α → Nat) (fn : Nat) : Prop := ∀ (v : Value) (d : α) (hi L : Nat) (w : World), A.rd w hi d [v] → hi ≤ w.heap.size → L ≤ 1048576 →
  Calls Try.prog fn #[v, .int .i64 L] w fun e w' => ∃ x, e = .returned (.int .i64 x) ∧ SzP (sz d) L x ∧ Below w.heap.size w w'
def SzV {α : Type} (A : Lay α) (sz : α → Nat) (fn : Nat) : Prop := ∀ (cs : List Value) (d : α) (hi L : Nat) (w : World), A.rd w hi d cs → hi ≤ w.heap.size → L ≤ 1048576 →
  Calls Try.prog fn #[.agg cs.toArray, .int .i64 L] w fun e w' => ∃ x, e = .returned (.int .i64 x) ∧ SzP (sz d) L x ∧ Below w.heap.size w w'

/-- of slices -/
def szSl {α : Type} (s : α → Nat) (p : Nat × (Nat → α)) : Nat := p.1 + sumN (fun i => s (p.2 i)) p.1
def cSl {α : Type} (c : α → Nat) (p : Nat × (Nat → α)) : Nat := sumN (fun i => c (p.2 i)) p.1
def mkSl {α : Type} (c : α → Nat) (mk : Nat → α → α) (j : Nat) (p : Nat × (Nat → α)) : Nat × (Nat → α) := (p.1, fun i => mk (j + sumN (fun i => c (p.2 i)) i) (p.2 i))
def lenD {α : Type} (p : Nat × (Nat → α)) : Nat := p.1
def mkBytes (j : Nat) (p : Nat × (Nat → Nat)) : Nat × (Nat → Nat) := (p.1, marks j)
def mkInts (j : Nat) (p : Nat × (Nat → Int)) : Nat × (Nat → Int) := (p.1, fun i => if i < p.1 then marksI j i else 0)

theorem sumN_succ (f : Nat → Nat) (k : Nat) : sumN f (k + 1) = sumN f k + f k := rfl
theorem sumN_le (f : Nat → Nat) {i n : Nat} (h : i < n) : f i ≤ sumN f n := by
  have := sumN_mono f (show i + 1 ≤ n from h)
  rw [sumN_succ] at this
  omega
theorem szSl_n {α : Type} {s : α → Nat} {p : Nat × (Nat → α)} {B : Nat} (h : szSl s p ≤ B) : p.1 ≤ B := by unfold szSl at h; omega
theorem szSl_at {α : Type} {s : α → Nat} {p : Nat × (Nat → α)} {B : Nat} (h : szSl s p ≤ B) {i : Nat} (hi : i < p.1) : s (p.2 i) ≤ B := by
  unfold szSl at h
  have := sumN_le (fun i => s (p.2 i)) hi
  omega

/-- bytes and numbers -/
theorem toBytes_is : ToS layBytes lenD 46 := fun v d hi w h hhi hn => by
  obtain ⟨v', e1, h1, h2⟩ := h
  cases e1
  refine (toByteS_any v d.1 d.2 hi w h1 hhi (by unfold lenD at hn; omega)).mono ?_
  rintro e w' ⟨v', rfl, o, b⟩
  refine ⟨v', rfl, ⟨v'.ownBlock.toList, ⟨v', rfl, rfl, o.weaken (Nat.zero_le _) (Nat.le_refl _), h2⟩, by cases v'.ownBlock <;> simp, fun b hb => o.1.lt b (by simpa using hb)⟩, b⟩
theorem eqBytes_is : EqS layBytes 51 := fun v1 v2 d h1 h2 w r1 r2 _ _ => by
  obtain ⟨_, e1, k1, _⟩ := r1
  obtain ⟨_, e2, k2, _⟩ := r2
  cases e1
  cases e2
  exact eqByteS_same v1 v2 d.1 d.2 h1 h2 w k1 k2
theorem toInts_is : ToS layInts lenD 25 := fun v d hi w h hhi hn => by
  obtain ⟨v', e1, h1, h2⟩ := h
  cases e1
  refine (toInt64S_any v d.1 d.2 hi w h1.1 hhi (by unfold lenD at hn; omega)).mono ?_
  rintro e w' ⟨v', rfl, o, b⟩
  refine ⟨v', rfl, ⟨v'.ownBlock.toList, ⟨v', rfl, rfl, o.weaken (Nat.zero_le _) (Nat.le_refl _), h2⟩, by cases v'.ownBlock <;> simp, fun b hb => o.1.lt b (by simpa using hb)⟩, b⟩
theorem eqInts_is : EqS layInts 37 := fun v1 v2 d h1 h2 w r1 r2 _ _ => by
  obtain ⟨_, e1, k1, _⟩ := r1
  obtain ⟨_, e2, k2, _⟩ := r2
  cases e1
  cases e2
  exact eqInt64S_same v1 v2 d.1 d.2 h1 h2 w k1.1 k2.1
/-- the one block of a slice -/
def oneBlk (v : Value) : Nat := v.ownBlock.getD 0
theorem ownBlk {w : World} {lo hi : Nat} {v : Value} {n : Nat} {f : Nat → Nat} (h : Own w lo hi v n f) : Own w (oneBlk v) (oneBlk v + 1) v n f := by
  refine ⟨⟨h.1.1, ?_⟩, fun k hk => by simp [oneBlk, hk]⟩
  rcases h.1.2 with hn | ⟨g, cap, cur, rfl, hbg, rest⟩
  · exact .inl hn
  · exact .inr ⟨g, cap, cur, rfl, by simp [oneBlk, Value.ownBlock], rest⟩
theorem ownBlkI {w : World} {lo hi : Nat} {v : Value} {n : Nat} {f : Nat → Int} (h : OwnI w lo hi v n f) : OwnI w (oneBlk v) (oneBlk v + 1) v n f := by
  refine ⟨⟨h.1.1, ?_⟩, fun k hk => by simp [oneBlk, hk]⟩
  rcases h.1.2 with hn | ⟨g, cap, cur, rfl, hbg, rest⟩
  · exact .inl hn
  · exact .inr ⟨g, cap, cur, rfl, by simp [oneBlk, Value.ownBlock], rest⟩
theorem none_len {w : World} {lo hi : Nat} {v : Value} {n : Nat} {f : Nat → Nat} (h : Own w lo hi v n f) (hv : v.ownBlock = none) : n = 0 := by
  rcases h.1.2 with hn | ⟨g, cap, cur, rfl, _⟩
  · exact hn.2
  · simp [Value.ownBlock] at hv
theorem none_lenI {w : World} {lo hi : Nat} {v : Value} {n : Nat} {f : Nat → Int} (h : OwnI w lo hi v n f) (hv : v.ownBlock = none) : n = 0 := by
  rcases h.1.2 with hn | ⟨g, cap, cur, rfl, _⟩
  · exact hn.2
  · simp [Value.ownBlock] at hv
theorem ChgL.of_none {K : List Nat} {w w' : World} (h : Out 0 0 w w') : ChgL K w w' := ⟨h.os, h.tape, h.output, Nat.le_of_eq h.size.symm, fun b _ _ => h.block b (.inr (Nat.zero_le _))⟩
theorem marks_lt (j i : Nat) : marks j i < 256 := Nat.mod_lt _ (by decide)
theorem own_tight0 {w : World} {v : Value} {n : Nat} {f : Nat → Nat} {hi : Nat} (h : Own w 0 hi v n f) (hb : v.ownBlock = none) : Own w 0 0 v n f := ⟨h.1, fun k hk => by rw [hb] at hk; cases hk⟩
theorem own_tight0I {w : World} {v : Value} {n : Nat} {f : Nat → Int} {hi : Nat} (h : OwnI w 0 hi v n f) (hb : v.ownBlock = none) : OwnI w 0 0 v n f := ⟨h.1, fun k hk => by rw [hb] at hk; cases hk⟩
theorem marksI_bd {j n : Nat} (h : j + n ≤ 100000000) (i : Nat) : -9223372036854775808 ≤ (if i < n then marksI j i else 0) ∧ (if i < n then marksI j i else 0) ≤ 9223372036854775807 := by
  by_cases c : i < n
  · rw [if_pos c, marksI_val]; omega
  · rw [if_neg c]; omega
theorem szBytes_is : SzS layBytes lenD 39 := fun v d hi L w h hhi hL => by
  obtain ⟨v', e1, o, k⟩ := h
  cases e1
  unfold lenD
  obtain ⟨n, f⟩ := d
  obtain ⟨ao, cap, rfl, hm, hc⟩ := o
  simp only at hm hc ⊢
  unfold maxLen at hm
  clear hc k hhi
  by_cases c : n ≤ L
  · have c' : ¬ (L : Int) - (n : Int) < 0 := by omega
    go_enter Try.func39, Try.ntmps39
    go_wp2
    go_ret
    exact ⟨_, rfl, .inr ⟨c, rfl⟩, Below.refl _ _⟩
  · have c' : (L : Int) - (n : Int) < 0 := by omega
    go_enter Try.func39, Try.ntmps39
    go_wp2
    go_ret
    exact ⟨_, rfl, .inl rfl, Below.refl _ _⟩
theorem szInts_is : SzS layInts lenD 17 := fun v d hi L w h hhi hL => by
  obtain ⟨v', e1, o, k⟩ := h
  cases e1
  unfold lenD
  obtain ⟨n, f⟩ := d
  obtain ⟨ao, cap, rfl, hm, hc⟩ := o.1
  simp only at hm hc ⊢
  unfold maxLen at hm
  clear hc k hhi
  by_cases c : n ≤ L
  · have c' : ¬ (L : Int) - (n : Int) < 0 := by omega
    go_enter Try.func17, Try.ntmps17
    go_wp2
    go_ret
    exact ⟨_, rfl, .inr ⟨c, rfl⟩, Below.refl _ _⟩
  · have c' : (L : Int) - (n : Int) < 0 := by omega
    go_enter Try.func17, Try.ntmps17
    go_wp2
    go_ret
    exact ⟨_, rfl, .inl rfl, Below.refl _ _⟩
end Go.Proofs.Ytgpglgchbimmaaa
