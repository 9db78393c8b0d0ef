/- Slices of bytes of the call's own, or nil. -/
import Derived.Test.YtdnankopblkblabOwnM2
namespace Go.Proofs.Ytdnankopblkblab
open Go.RowKit F256
set_option linter.unusedVariables false

/-- slices of bytes of the call's own, or nil -/
def OwnB (w : World) (lo hi : Nat) (v : Value) (R : Nat) (n : Nat → Nat) (f : Mat) : Prop := (v = nilS ∧ R = 0) ∨ OwnM w lo hi v R n f
theorem OwnB.none (w : World) (lo hi : Nat) (n : Nat → Nat) (f : Mat) : OwnB w lo hi nilS 0 n f := .inl ⟨rfl, rfl⟩
theorem OwnB.rd {w : World} {lo hi : Nat} {v : Value} {R : Nat} {n : Nat → Nat} {f : Mat} (h : OwnB w lo hi v R n f) : RdM w hi v R n f := by
  rcases h with ⟨rfl, rfl⟩ | h
  · exact ⟨_, _, fun _ => nilS, rfl, by unfold maxLen; omega, fun h => absurd rfl h, fun i hi => by omega⟩
  · exact h.rd
theorem OwnB.below {w w' : World} {lo hi B : Nat} {v : Value} {R : Nat} {n : Nat → Nat} {f : Mat} (h : OwnB w lo hi v R n f) (hb : Below B w w') (hB : hi ≤ B) : OwnB w' lo hi v R n f := by
  rcases h with h | h
  · exact .inl h
  · exact .inr (h.below hb hB)
theorem OwnB.chg {w w' : World} {lo hi lo' hi' : Nat} {v : Value} {R : Nat} {n : Nat → Nat} {f : Mat} (h : OwnB w lo hi v R n f) (hb : Chg lo' hi' w w') (hB : hi ≤ lo' ∨ hi' ≤ lo) : OwnB w' lo hi v R n f := by
  rcases h with h | h
  · exact .inl h
  · exact .inr (h.chg hb hB)
theorem OwnB.weaken {w : World} {lo hi lo' hi' : Nat} {v : Value} {R : Nat} {n : Nat → Nat} {f : Mat} (h : OwnB w lo hi v R n f) (h1 : lo' ≤ lo) (h2 : hi ≤ hi') : OwnB w lo' hi' v R n f := by
  rcases h with h | h
  · exact .inl h
  · exact .inr (h.weaken h1 h2)
theorem OwnB.alloc {w : World} {lo hi : Nat} {v : Value} {R : Nat} {n : Nat → Nat} {f : Mat} (h : OwnB w lo hi v R n f) (o : Obj) : OwnB (w.alloc o) lo hi v R n f := by
  rcases h with h | h
  · exact .inl h
  · exact .inr (h.alloc o)
theorem OwnB.slice {w : World} {lo hi : Nat} {v : Value} {R : Nat} {n : Nat → Nat} {f : Mat} (h : OwnB w lo hi v R n f) : ∃ ao cap, v = .slice ao R cap := by
  rcases h with ⟨rfl, rfl⟩ | ⟨g, cap, e, h⟩
  · exact ⟨_, _, rfl⟩
  · exact ⟨_, _, h.val⟩
theorem OwnM.out {w w' : World} {lo hi lo' hi' : Nat} {v : Value} {R : Nat} {n : Nat → Nat} {f : Mat} (h : OwnM w lo hi v R n f) (ho : Out lo' hi' w w') (hB : hi ≤ lo' ∨ hi' ≤ lo) : OwnM w' lo hi v R n f := h.chg ho.chg hB

end Go.Proofs.Ytdnankopblkblab
