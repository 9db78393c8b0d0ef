/- The answers to blocks some of which are there. No Go in sight but the shape of a row. -/
import Derived.Test.YtoadjpacchhleaiWRowA
import Derived.Test.YtoadjpacchhleaiNth
namespace Go.Proofs.Ytoadjpacchhleai
set_option linter.unusedVariables false

/-- the code of blocks, some of which are there -/
def AskP (d s : Int) (R : Nat) (n : Nat → Nat) (x : Int) : Prop := (x = 3 ∧ ¬ Shp d s) ∨ (x = 1 ∧ Shp d s ∧ ((R : Int) ≠ d + s ∨ ∃ i, i < R ∧ n i ≠ 0 ∧ n i ≠ 4)) ∨ (x = 0 ∧ Shp d s ∧ (R : Int) = d + s ∧ ∀ i, i < R → n i = 0 ∨ n i = 4)
theorem AskP.one {d s : Int} {R : Nat} {n : Nat → Nat} {x y : Int} (h : AskP d s R n x) (k : AskP d s R n y) : x = y := by
  rcases h with ⟨rfl, h⟩ | ⟨rfl, h, h2⟩ | ⟨rfl, h, h2, h3⟩ <;> rcases k with ⟨rfl, k⟩ | ⟨rfl, k, k2⟩ | ⟨rfl, k, k2, k3⟩
  · rfl
  · exact absurd k h
  · exact absurd k h
  · exact absurd h k
  · rfl
  · rcases h2 with h2 | ⟨i, hi, h4, h5⟩
    · exact absurd k2 h2
    · rcases k3 i hi with e | e
      · exact absurd e h4
      · exact absurd e h5
  · exact absurd h k
  · rcases k2 with k2 | ⟨i, hi, h4, h5⟩
    · exact absurd h2 k2
    · rcases h3 i hi with e | e
      · exact absurd e h4
      · exact absurd e h5
  · rfl
theorem ask_ans (d s : Int) (R : Nat) (n : Nat → Nat) : ∃ x, AskP d s R n x := by
  by_cases h : Shp d s
  · by_cases h2 : (R : Int) = d + s
    · by_cases h3 : ∃ i, i < R ∧ n i ≠ 0 ∧ n i ≠ 4
      · exact ⟨1, .inr (.inl ⟨rfl, h, .inr h3⟩)⟩
      · refine ⟨0, .inr (.inr ⟨rfl, h, h2, fun i hi => ?_⟩)⟩
        exact Classical.byContradiction fun hn => h3 ⟨i, hi, fun e => hn (.inl e), fun e => hn (.inr e)⟩
    · exact ⟨1, .inr (.inl ⟨rfl, h, .inl h2⟩)⟩
  · exact ⟨3, .inl ⟨rfl, h⟩⟩

/-- the answers of DecodeRow -/
def DecAns (d s : Int) (R : Nat) (n : Nat → Nat) (x : Int) : Prop := (AskP d s R n x ∧ x ≠ 0) ∨ (AskP d s R n 0 ∧ ¬ d.toNat ≤ cntN n R ∧ x = 10) ∨ (AskP d s R n 0 ∧ d.toNat ≤ cntN n R ∧ x = 0)
theorem DecAns.one {d s : Int} {R : Nat} {n : Nat → Nat} {x y : Int} (h : DecAns d s R n x) (k : DecAns d s R n y) : x = y := by
  rcases h with ⟨h, h2⟩ | ⟨h, h2, rfl⟩ | ⟨h, h2, rfl⟩ <;> rcases k with ⟨k, k2⟩ | ⟨k, k2, rfl⟩ | ⟨k, k2, rfl⟩
  · exact h.one k
  · exact absurd (h.one k) h2
  · exact absurd (h.one k) h2
  · exact absurd (k.one h) k2
  · rfl
  · exact absurd k2 h2
  · exact absurd (k.one h) k2
  · exact absurd h2 k2
  · rfl
theorem dec_ans (d s : Int) (R : Nat) (n : Nat → Nat) : ∃ x, DecAns d s R n x := by
  obtain ⟨x, hx⟩ := ask_ans d s R n
  by_cases h : x = 0
  · subst h
    by_cases h2 : d.toNat ≤ cntN n R
    · exact ⟨0, .inr (.inr ⟨hx, h2, rfl⟩)⟩
    · exact ⟨10, .inr (.inl ⟨hx, h2, rfl⟩)⟩
  · exact ⟨x, .inl ⟨hx, h⟩⟩
theorem AskP.ok {d s : Int} {R : Nat} {n : Nat → Nat} (h : AskP d s R n 0) : Shp d s ∧ (R : Int) = d + s ∧ ∀ i, i < R → n i = 0 ∨ n i = 4 := by
  rcases h with ⟨h, _⟩ | ⟨h, _⟩ | ⟨_, h⟩
  · omega
  · omega
  · exact h

/-- the answers of BlockOf -/
def BofAns (d s : Int) (R : Nat) (n : Nat → Nat) (want : Int) (x : Int) : Prop := (AskP d s R n x ∧ x ≠ 0) ∨ (AskP d s R n 0 ∧ ¬ (0 ≤ want ∧ want ≤ d + s - 1) ∧ x = 3) ∨ (AskP d s R n 0 ∧ (0 ≤ want ∧ want ≤ d + s - 1) ∧ ¬ d.toNat ≤ cntN n R ∧ x = 10) ∨ (AskP d s R n 0 ∧ (0 ≤ want ∧ want ≤ d + s - 1) ∧ d.toNat ≤ cntN n R ∧ x = 0)
theorem BofAns.one {d s : Int} {R : Nat} {n : Nat → Nat} {want : Int} {x y : Int} (h : BofAns d s R n want x) (k : BofAns d s R n want y) : x = y := by
  rcases h with ⟨h, h2⟩ | ⟨h, h2, rfl⟩ | ⟨h, h2, h3, rfl⟩ | ⟨h, h2, h3, rfl⟩ <;> rcases k with ⟨k, k2⟩ | ⟨k, k2, rfl⟩ | ⟨k, k2, k3, rfl⟩ | ⟨k, k2, k3, rfl⟩ <;> first | rfl | exact h.one k | exact absurd (h.one k) h2 | exact absurd (k.one h) k2 | exact absurd k2 h2 | exact absurd h2 k2 | exact absurd k3 h3 | exact absurd h3 k3
theorem bof_ans (d s : Int) (R : Nat) (n : Nat → Nat) (want : Int) : ∃ x, BofAns d s R n want x := by
  obtain ⟨x, hx⟩ := ask_ans d s R n
  by_cases h : x = 0
  · subst h
    by_cases h1 : 0 ≤ want ∧ want ≤ d + s - 1
    · by_cases h2 : d.toNat ≤ cntN n R
      · exact ⟨0, .inr (.inr (.inr ⟨hx, h1, h2, rfl⟩))⟩
      · exact ⟨10, .inr (.inr (.inl ⟨hx, h1, h2, rfl⟩))⟩
    · exact ⟨3, .inr (.inl ⟨hx, h1, rfl⟩)⟩
  · exact ⟨x, .inl ⟨hx, h⟩⟩

end Go.Proofs.Ytoadjpacchhleai
