/- What is right of a record and of a world, in plain words. -/
import Derived.Test.YthncbkgklhbcjaaCells
import Derived.Test.YthncbkgklhbcjaaWName
import Derived.Test.YthncbkgklhbcjaaWRowF
import Derived.Test.YthncbkgklhbcjaaWShape
namespace Go.Proofs.Ythncbkgklhbcjaa
open Go.RowKit F256
set_option linter.unusedVariables false

def InP (x a b : Int) : Prop := a ≤ x ∧ x ≤ b
/-- numbers from 0 to most, no two alike -/
def ApartP (n : Nat) (g : Nat → Int) (most : Int) : Prop := ∀ i, i < n → InP (g i) 0 most ∧ ∀ t, t < i → g t ≠ g i
def ItemP (s : Nat → Int) (r : RecD) : Prop :=
  (r.length = -1 ∧ r.data.1 = 0 ∧ r.rows.1 = 0) ∨
  (r.length ≠ -1 ∧ 1 ≤ r.length ∧ r.length ≤ 3 * (s 2 * 4) ∧
    ((0 < r.data.1 ∧ (r.data.1 : Int) = r.length ∧ r.rows.1 = 0) ∨
     (r.data.1 = 0 ∧ (r.rows.1 : Int) = (r.length + s 2 * 4 - 1) / (s 2 * 4) ∧ ApartP r.rows.1 r.rows.2 (s 4 - 1))))
def MoveP (s : Nat → Int) (r : RecD) : Prop := InP r.group 0 (s 0 - 1) ∧ InP r.row 0 (s 4 - 1) ∧ (r.data.1 : Int) = s 2 * 4 ∧ (r.delta.1 : Int) = s 2 * 4
def DoneP (s : Nat → Int) (r : RecD) : Prop := InP r.group 0 (s 0 + s 1 - 1)
def WeightsP (s : Nat → Int) (r : RecD) : Prop := (r.delta.1 : Int) = s 0 + s 1 ∧ r.delta.2 r.group.toNat = 0 ∧ ∀ i, i < r.rows.1 → r.delta.2 (r.rows.2 i).toNat ≠ 0
def ShareP (s : Nat → Int) (r : RecD) : Prop := InP r.group 0 (s 0 + s 1 - 1) ∧ InP r.row 0 (s 4 - 1) ∧ RiseP r.rows.1 r.rows.2 (s 0 + s 1 - 1) ∧ (r.data.1 : Int) = s 2 * 4 ∧ WeightsP s r
def KindP (s : Nat → Int) (r : RecD) : Prop := (r.kind = 1 ∧ ItemP s r) ∨ (r.kind = 2 ∧ MoveP s r) ∨ (r.kind = 3 ∧ DoneP s r) ∨ (r.kind = 4 ∧ ShareP s r)
def noName (r : RecD) : Prop := r.name = ByteArray.empty ∧ r.length = 0
def BlankP (r : RecD) : Prop :=
  (r.kind = 1 ∧ r.group = 0 ∧ r.row = 0 ∧ r.delta.1 = 0) ∨ (r.kind = 2 ∧ noName r ∧ r.rows.1 = 0) ∨
  (r.kind = 3 ∧ noName r ∧ r.row = 0 ∧ r.rows.1 = 0 ∧ r.data.1 = 0 ∧ r.delta.1 = 0) ∨ (r.kind = 4 ∧ noName r)
def NamedP (r : RecD) : Prop := r.kind = 1 → OkName r.name
/-- codes asked one behind the other: the first that falls is told; behind them all K -/
def Stair : List (Prop × Int) → (Int → Prop) → Int → Prop
  | [], K, x => K x
  | (p, c) :: l, K, x => (¬ p ∧ x = c) ∨ (p ∧ Stair l K x)
theorem Stair.fall {p : Prop} {c : Int} {l : List (Prop × Int)} {K : Int → Prop} (h : ¬ p) : Stair ((p, c) :: l) K c := .inl ⟨h, rfl⟩
theorem Stair.pass {p : Prop} {c : Int} {l : List (Prop × Int)} {K : Int → Prop} {x : Int} (h : p) (k : Stair l K x) : Stair ((p, c) :: l) K x := .inr ⟨h, k⟩
theorem Stair.last {K : Int → Prop} {x : Int} (h : K x) : Stair [] K x := h
theorem Stair.one {K : Int → Prop} (hK : ∀ x y, K x → K y → x = y) : ∀ (l : List (Prop × Int)) {x y : Int}, Stair l K x → Stair l K y → x = y
  | [], x, y, h, k => hK x y h k
  | (p, c) :: l, x, y, h, k => by
    rcases h with ⟨h1, h2⟩ | ⟨h1, h2⟩ <;> rcases k with ⟨k1, k2⟩ | ⟨k1, k2⟩
    · rw [h2, k2]
    · exact absurd k1 h1
    · exact absurd h1 k1
    · exact Stair.one hK l h2 k2
def isZ (x : Int) : Prop := x = 0
theorem isZ_one (x y : Int) (h : isZ x) (k : isZ y) : x = y := by rw [show x = 0 from h, show y = 0 from k]
/-- what RecFault tells -/
def RecAns (s : Nat → Int) (r : RecD) (x : Int) : Prop :=
  Stair [(OkShape s, 3), (InP r.kind 1 4, 5), (InP r.seq 1 1000000000, 3), (NamedP r, 5), (KindP s r, 3), (BlankP r, 1)] isZ x
theorem RecAns.one {s : Nat → Int} {r : RecD} {x y : Int} (h : RecAns s r x) (k : RecAns s r y) : x = y := Stair.one isZ_one _ h k

/-- groups, drives and blocks as the shape has them -/
def BlockP (b : BlockD) : Prop := InP b.stamp 0 1000000000 ∧ b.bytes.1 = 4
def BlocksP (s : Nat → Int) (p : Nat × (Nat → BlockD)) : Prop := (p.1 : Int) = s 4 ∧ ∀ i, i < p.1 → BlockP (p.2 i)
def DrivesP (s : Nat → Int) (p : Nat × (Nat → DriveD)) : Prop := (p.1 : Int) = s 2 + s 3 ∧ ∀ i, i < p.1 → BlocksP s (p.2 i).blocks
def BuiltP (d : WorldD) : Prop := (d.groups.1 : Int) = d.shape 0 + d.shape 1 ∧ ∀ i, i < d.groups.1 → DrivesP d.shape (d.groups.2 i)
def OnP (d : WorldD) : Prop := ApartP d.on.1 d.on.2 (d.shape 0 + d.shape 1 - 1) ∧ (d.on.1 : Int) ≤ d.shape 5 ∧ (d.down = true → d.on.1 = 0)
def FormP (d : WorldD) : Prop := BuiltP d ∧ OnP d ∧ d.tapes.1 = 2
def FewP (d : WorldD) : Prop := ∀ t, t < d.tapes.1 → (d.tapes.2 t).recs.1 ≤ 200
/-- the first record that has a fault -/
def RecsAns (s : Nat → Int) (n : Nat) (x : Nat → TapeD) (c : Int) : Prop :=
  (c = 0 ∧ ∀ t, t < n → ∀ i, i < (x t).recs.1 → RecAns s ((x t).recs.2 i) 0) ∨
  (c ≠ 0 ∧ ∃ t i, t < n ∧ i < (x t).recs.1 ∧ RecAns s ((x t).recs.2 i) c ∧ (∀ k, k < i → RecAns s ((x t).recs.2 k) 0) ∧ ∀ u, u < t → ∀ k, k < (x u).recs.1 → RecAns s ((x u).recs.2 k) 0)
theorem RecsAns.one {s : Nat → Int} {n : Nat} {x : Nat → TapeD} {c e : Int} (h : RecsAns s n x c) (k : RecsAns s n x e) : c = e := by
  rcases h with ⟨rfl, h⟩ | ⟨hc, t, i, ht, hi, hr, hb, hu⟩ <;> rcases k with ⟨rfl, k⟩ | ⟨kc, t', i', kt, ki, kr, kb, ku⟩
  · rfl
  · exact absurd (kr.one (h t' kt i' ki)) kc
  · exact absurd (hr.one (k t ht i hi)) hc
  · rcases Nat.lt_trichotomy t t' with c1 | c1 | c1
    · exact absurd (hr.one (ku t c1 i hi)) hc
    · subst c1
      rcases Nat.lt_trichotomy i i' with c2 | c2 | c2
      · exact absurd (hr.one (kb i c2)) hc
      · subst c2; exact hr.one kr
      · exact absurd (kr.one (hb i' c2)) kc
    · exact absurd (kr.one (hu t' c1 i' ki)) kc
def CleanP (d : WorldD) : Prop := ∀ t, t < d.tapes.1 → (d.tapes.2 t).wiped = true → (d.tapes.2 t).recs.1 = 0
def CountP (d : WorldD) : Prop := InP d.writes 0 1000000000 ∧ InP d.stop (-1) 1000000000
/-- what WorldFault tells -/
def WldAns (d : WorldD) (x : Int) : Prop :=
  Stair [(OkShape d.shape, 3), (FormP d, 1), (FewP d, 2)] (fun x => (x ≠ 0 ∧ RecsAns d.shape d.tapes.1 d.tapes.2 x) ∨ (RecsAns d.shape d.tapes.1 d.tapes.2 0 ∧ Stair [(CleanP d, 1), (CountP d, 3)] isZ x)) x
theorem WldAns.one {d : WorldD} {x y : Int} (h : WldAns d x) (k : WldAns d y) : x = y := by
  refine Stair.one (fun x y h k => ?_) _ h k
  rcases h with ⟨h1, h2⟩ | ⟨h1, h2⟩ <;> rcases k with ⟨k1, k2⟩ | ⟨k1, k2⟩
  · exact h2.one k2
  · exact absurd (h2.one k1) h1
  · exact absurd (k2.one h1) k1
  · exact Stair.one isZ_one _ h2 k2
/-- a world without a fault -/
structure OkWorld (d : WorldD) : Prop where
  shape : OkShape d.shape
  form : FormP d
  few : FewP d
  recs : ∀ t, t < d.tapes.1 → ∀ i, i < (d.tapes.2 t).recs.1 → RecAns d.shape ((d.tapes.2 t).recs.2 i) 0
  clean : CleanP d
  count : CountP d
theorem WldAns.ok {d : WorldD} (h : WldAns d 0) : OkWorld d := by
  rcases h with ⟨_, h⟩ | ⟨h1, h⟩
  · omega
  rcases h with ⟨_, h⟩ | ⟨h2, h⟩
  · omega
  rcases h with ⟨_, h⟩ | ⟨h3, h⟩
  · omega
  rcases h with ⟨h, _⟩ | ⟨h4, h⟩
  · exact absurd rfl h
  rcases h with ⟨_, h⟩ | ⟨h5, h⟩
  · omega
  rcases h with ⟨_, h⟩ | ⟨h6, h⟩
  · omega
  rcases h4 with ⟨_, h4⟩ | ⟨h4, _⟩
  · exact ⟨h1, h2, h3, h4, h5, h6⟩
  · exact absurd rfl h4
theorem exB (P : Prop) : ∃ b : Bool, b = true ↔ P := by
  by_cases h : P
  · exact ⟨true, by simp [h]⟩
  · exact ⟨false, by simp [h]⟩
end Go.Proofs.Ythncbkgklhbcjaa
