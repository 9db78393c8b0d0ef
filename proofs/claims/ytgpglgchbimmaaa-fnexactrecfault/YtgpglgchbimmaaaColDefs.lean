/- Columns, shares and the answers of chapter 3, as plain definitions. No Go in sight. -/
import Derived.Test.YtgpglgchbimmaaaWMix
import Derived.Test.YtgpglgchbimmaaaGaussW
import Derived.Test.YtgpglgchbimmaaaNth
import Derived.Test.YtgpglgchbimmaaaWRowF
namespace Go.Proofs.Ytgpglgchbimmaaa
open F256
set_option linter.unusedVariables false

/-- a shape across groups: 1 to 4 of data, 0 to 2 of parity -/
def Shp3 (d s : Int) : Prop := 1 ≤ d ∧ d ≤ 4 ∧ 0 ≤ s ∧ s ≤ 2
/-- all equally long -/
def EvenP (R : Nat) (n : Nat → Nat) : Prop := ∀ i, i < R → n i = n 0
/-- the parity lists -/
def parN (R : Nat) (f : Mat) : Mat := fun j => mixN f (genN R (R + j) 8) R
theorem parN_byt (R : Nat) (f : Mat) : Byt (parN R f) := fun j t => mixN_lt _ _ (genN_lt R (R + j) 8) _ _
/-- the answers of EncodeColumn -/
def CeAns (R : Nat) (n : Nat → Nat) (c : Int) (x : Int) : Prop := (x = 3 ∧ ¬ Shp3 R c) ∨ (x = 1 ∧ Shp3 R c ∧ ¬ EvenP R n) ∨ (x = 2 ∧ Shp3 R c ∧ EvenP R n ∧ 4000 < n 0) ∨ (x = 0 ∧ Shp3 R c ∧ EvenP R n ∧ n 0 ≤ 4000)
theorem CeAns.one {R : Nat} {n : Nat → Nat} {c : Int} {x y : Int} (h : CeAns R n c x) (k : CeAns R n c y) : x = y := by
  rcases h with ⟨rfl, h⟩ | ⟨rfl, h, h2⟩ | ⟨rfl, h, h2, h3⟩ | ⟨rfl, h, h2, h3⟩ <;> rcases k with ⟨rfl, k⟩ | ⟨rfl, k, k2⟩ | ⟨rfl, k, k2, k3⟩ | ⟨rfl, k, k2, k3⟩ <;> first | rfl | exact absurd h k | exact absurd k h | exact absurd h2 k2 | exact absurd k2 h2 | omega
theorem ce_ans (R : Nat) (n : Nat → Nat) (c : Int) : ∃ x, CeAns R n c x := by
  by_cases h : Shp3 R c
  · by_cases h2 : EvenP R n
    · by_cases h3 : n 0 ≤ 4000
      · exact ⟨0, .inr (.inr (.inr ⟨rfl, h, h2, h3⟩))⟩
      · exact ⟨2, .inr (.inr (.inl ⟨rfl, h, h2, by omega⟩))⟩
    · exact ⟨1, .inr (.inl ⟨rfl, h, h2⟩)⟩
  · exact ⟨3, .inl ⟨rfl, h⟩⟩
/-- the lists of a column fit -/
def CfP (R : Nat) (n : Nat → Nat) (f : Mat) (c : Int) : Prop := (0 ≤ c ∧ c ≤ 2) ∧ Shp3 ((R : Int) - c) c ∧ EvenP R n ∧ ∀ j, j < c.toNat → ∀ t, t < n 0 → f (R - c.toNat + j) t = parN (R - c.toNat) f j t
/-- a factor is asked rightly -/
def FacP (g c gr p : Int) : Prop := Shp3 g c ∧ (0 ≤ gr ∧ gr ≤ g - 1) ∧ (0 ≤ p ∧ p ≤ c - 1)
/-- the answers of FactorOf -/
def FacAns (g c gr p : Int) (x v : Int) : Prop := (x = 3 ∧ v = 0 ∧ ¬ FacP g c gr p) ∨ (x = 0 ∧ FacP g c gr p ∧ v = ((powN ((128 + (8 + p.toNat)) ^^^ gr.toNat) 254 : Nat) : Int))
theorem FacAns.one {g c gr p : Int} {x v y u : Int} (h : FacAns g c gr p x v) (k : FacAns g c gr p y u) : x = y ∧ v = u := by
  rcases h with ⟨rfl, rfl, h⟩ | ⟨rfl, h, rfl⟩ <;> rcases k with ⟨rfl, rfl, k⟩ | ⟨rfl, k, rfl⟩
  · exact ⟨rfl, rfl⟩
  · exact absurd k h
  · exact absurd h k
  · exact ⟨rfl, rfl⟩
theorem fac_ans (g c gr p : Int) : ∃ x v, FacAns g c gr p x v := by
  by_cases h : FacP g c gr p
  · exact ⟨0, _, .inr ⟨rfl, h, rfl⟩⟩
  · exact ⟨3, 0, .inl ⟨rfl, rfl, h⟩⟩
/-- the number is among them -/
def HasP (n : Nat) (g : Nat → Int) (x : Int) : Prop := ∃ i, i < n ∧ g i = x
/-- the weights of those that are there: those behind the first n weigh 0 -/
def shareN (n : Nat) (hv : Nat → Nat) (want : Nat) : Nat → Nat := fun i => if i < n then weightsN n 8 hv want i else 0
/-- the answers of ShareOf -/
def ShAns (g c : Int) (m : Nat) (h : Nat → Int) (want : Int) (x : Int) : Prop :=
  (x = 3 ∧ ¬ Shp3 g c) ∨ (x = 1 ∧ Shp3 g c ∧ ¬ RiseP m h (g + c - 1)) ∨ (x = 3 ∧ Shp3 g c ∧ RiseP m h (g + c - 1) ∧ ¬ (0 ≤ want ∧ want ≤ g + c - 1)) ∨
    (x = 7 ∧ Shp3 g c ∧ RiseP m h (g + c - 1) ∧ (0 ≤ want ∧ want ≤ g + c - 1) ∧ HasP m h want) ∨ (x = 10 ∧ Shp3 g c ∧ RiseP m h (g + c - 1) ∧ (0 ≤ want ∧ want ≤ g + c - 1) ∧ ¬ HasP m h want ∧ (m : Int) < g) ∨
    (x = 0 ∧ Shp3 g c ∧ RiseP m h (g + c - 1) ∧ (0 ≤ want ∧ want ≤ g + c - 1) ∧ ¬ HasP m h want ∧ g ≤ (m : Int))
theorem ShAns.one {g c : Int} {m : Nat} {h : Nat → Int} {want : Int} {x y : Int} (a : ShAns g c m h want x) (b : ShAns g c m h want y) : x = y := by
  rcases a with ⟨rfl, a⟩ | ⟨rfl, a, a2⟩ | ⟨rfl, a, a2, a3⟩ | ⟨rfl, a, a2, a3, a4⟩ | ⟨rfl, a, a2, a3, a4, a5⟩ | ⟨rfl, a, a2, a3, a4, a5⟩ <;> rcases b with ⟨rfl, b⟩ | ⟨rfl, b, b2⟩ | ⟨rfl, b, b2, b3⟩ | ⟨rfl, b, b2, b3, b4⟩ | ⟨rfl, b, b2, b3, b4, b5⟩ | ⟨rfl, b, b2, b3, b4, b5⟩ <;> first | rfl | exact absurd a b | exact absurd b a | exact absurd a2 b2 | exact absurd b2 a2 | exact absurd a3 b3 | exact absurd b3 a3 | exact absurd a4 b4 | exact absurd b4 a4 | omega
theorem sh_ans (g c : Int) (m : Nat) (h : Nat → Int) (want : Int) : ∃ x, ShAns g c m h want x := by
  by_cases h1 : Shp3 g c
  · by_cases h2 : RiseP m h (g + c - 1)
    · by_cases h3 : 0 ≤ want ∧ want ≤ g + c - 1
      · by_cases h4 : HasP m h want
        · exact ⟨7, .inr (.inr (.inr (.inl ⟨rfl, h1, h2, h3, h4⟩)))⟩
        · by_cases h5 : (m : Int) < g
          · exact ⟨10, .inr (.inr (.inr (.inr (.inl ⟨rfl, h1, h2, h3, h4, h5⟩))))⟩
          · exact ⟨0, .inr (.inr (.inr (.inr (.inr ⟨rfl, h1, h2, h3, h4, by omega⟩))))⟩
      · exact ⟨3, .inr (.inr (.inl ⟨rfl, h1, h2, h3⟩))⟩
    · exact ⟨1, .inr (.inl ⟨rfl, h1, h2⟩)⟩
  · exact ⟨3, .inl ⟨rfl, h1⟩⟩
theorem rise_nat' {n m : Nat} {g : Nat → Int} {most : Int} (h : RiseP m g most) (hn : n ≤ m) : (∀ k, k < n → g k = ((g k).toNat : Int)) ∧ (∀ k, k < n → ((g k).toNat : Int) ≤ most) ∧ ∀ k, k + 1 < n → (g k).toNat < (g (k + 1)).toNat := by
  refine ⟨fun k hk => ?_, fun k hk => ?_, fun k hk => ?_⟩
  · have := (h k (by omega)).1; omega
  · have h1 := (h k (by omega)).1
    have h2 := (h k (by omega)).2.1
    omega
  · have h1 := (h k (by omega)).1
    have h2 := (h (k + 1) (by omega)).2.2 (by omega)
    rw [show k + 1 - 1 = k by omega] at h2
    omega
/-- the lists of the column that has the first D of those that are there -/
def colN (D : Nat) (n : Nat → Nat) (R : Nat) (f : Mat) : Mat := fun p => mixN (fun k => f (nthN n R k)) (weightsN D 8 (nthN n R) p) D
/-- those that are there are equally long -/
def EvenM (R : Nat) (n : Nat → Nat) : Prop := EvenP (cntN n R) fun t => n (nthN n R t)
/-- the answers of DecodeColumn -/
def DcAns (g c : Int) (R : Nat) (n : Nat → Nat) (x : Int) : Prop :=
  (x = 3 ∧ ¬ Shp3 g c) ∨ (x = 1 ∧ Shp3 g c ∧ (R : Int) ≠ g + c) ∨ (x = 1 ∧ Shp3 g c ∧ (R : Int) = g + c ∧ ¬ EvenM R n) ∨
    (x = 2 ∧ Shp3 g c ∧ (R : Int) = g + c ∧ EvenM R n ∧ (0 < cntN n R ∧ 4000 < n (nthN n R 0))) ∨ (x = 10 ∧ Shp3 g c ∧ (R : Int) = g + c ∧ EvenM R n ∧ ¬ (0 < cntN n R ∧ 4000 < n (nthN n R 0)) ∧ (cntN n R : Int) < g) ∨
    (x = 0 ∧ Shp3 g c ∧ (R : Int) = g + c ∧ EvenM R n ∧ ¬ (0 < cntN n R ∧ 4000 < n (nthN n R 0)) ∧ g ≤ (cntN n R : Int))
theorem DcAns.one {g c : Int} {R : Nat} {n : Nat → Nat} {x y : Int} (a : DcAns g c R n x) (b : DcAns g c R n y) : x = y := by
  rcases a with ⟨rfl, a⟩ | ⟨rfl, a, a2⟩ | ⟨rfl, a, a2, a3⟩ | ⟨rfl, a, a2, a3, a4⟩ | ⟨rfl, a, a2, a3, a4, a5⟩ | ⟨rfl, a, a2, a3, a4, a5⟩ <;> rcases b with ⟨rfl, b⟩ | ⟨rfl, b, b2⟩ | ⟨rfl, b, b2, b3⟩ | ⟨rfl, b, b2, b3, b4⟩ | ⟨rfl, b, b2, b3, b4, b5⟩ | ⟨rfl, b, b2, b3, b4, b5⟩ <;> first | rfl | exact absurd a b | exact absurd b a | exact absurd a2 b2 | exact absurd b2 a2 | exact absurd a3 b3 | exact absurd b3 a3 | exact absurd a4 b4 | exact absurd b4 a4 | omega
theorem dc_ans (g c : Int) (R : Nat) (n : Nat → Nat) : ∃ x, DcAns g c R n x := by
  by_cases h1 : Shp3 g c
  · by_cases h2 : (R : Int) = g + c
    · by_cases h3 : EvenM R n
      · by_cases h4 : 0 < cntN n R ∧ 4000 < n (nthN n R 0)
        · exact ⟨2, .inr (.inr (.inr (.inl ⟨rfl, h1, h2, h3, h4⟩)))⟩
        · by_cases h5 : (cntN n R : Int) < g
          · exact ⟨10, .inr (.inr (.inr (.inr (.inl ⟨rfl, h1, h2, h3, h4, h5⟩))))⟩
          · exact ⟨0, .inr (.inr (.inr (.inr (.inr ⟨rfl, h1, h2, h3, h4, by omega⟩))))⟩
      · exact ⟨1, .inr (.inr (.inl ⟨rfl, h1, h2, h3⟩))⟩
    · exact ⟨1, .inr (.inl ⟨rfl, h1, h2⟩)⟩
  · exact ⟨3, .inl ⟨rfl, h1⟩⟩
/-- the answers of AddShare to n and m bytes -/
def AdsAns (n m : Nat) (x : Int) : Prop := (x = 1 ∧ n ≠ m) ∨ (x = 2 ∧ n = m ∧ 4000 < n) ∨ (x = 0 ∧ n = m ∧ n ≤ 4000)
theorem AdsAns.one {n m : Nat} {x y : Int} (h : AdsAns n m x) (k : AdsAns n m y) : x = y := by
  rcases h with ⟨rfl, h⟩ | ⟨rfl, h, h2⟩ | ⟨rfl, h, h2⟩ <;> rcases k with ⟨rfl, k⟩ | ⟨rfl, k, k2⟩ | ⟨rfl, k, k2⟩ <;> first | rfl | omega
theorem ads_ans (n m : Nat) : ∃ x, AdsAns n m x := by
  by_cases h : n = m
  · by_cases h2 : n ≤ 4000
    · exact ⟨0, .inr (.inr ⟨rfl, h, h2⟩)⟩
    · exact ⟨2, .inr (.inl ⟨rfl, h, by omega⟩)⟩
  · exact ⟨1, .inl ⟨rfl, h⟩⟩
/-- the sum with a share -/
def adsN (f g : Nat → Nat) (c : Nat) : Nat → Nat := fun i => f i ^^^ mulN c (g i)
end Go.Proofs.Ytgpglgchbimmaaa
