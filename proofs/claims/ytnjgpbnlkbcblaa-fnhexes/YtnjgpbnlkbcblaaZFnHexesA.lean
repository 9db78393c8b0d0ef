/- At every code the bytes that are drawn are written in base 16 and read back as they were, and a text that is drawn is either refused as the specification refuses it or written back as it was: the law FnHexes returns true at every code, and changes nothing that was there. No condition. -/
import Derived.Test.YtnjgpbnlkbcblaaWMix
import Derived.Test.YtnjgpbnlkbcblaaGaussW
import Derived.Test.YtnjgpbnlkbcblaaNth
import Derived.Test.YtnjgpbnlkbcblaaWRowF
import Derived.Test.YtnjgpbnlkbcblaaWBld
import Derived.Test.YtnjgpbnlkbcblaaWRowA
import Derived.Test.YtnjgpbnlkbcblaaWSz
import Derived.Test.YtnjgpbnlkbcblaaShapeV
import Derived.Test.YtnjgpbnlkbcblaaCells
import Derived.Test.YtnjgpbnlkbcblaaProg
import Derived.Test.YtnjgpbnlkbcblaaBits
import Derived.WalkLawsBesides
import Derived.Test.YtnjgpbnlkbcblaaWInts
import Derived.Lib.QuietBelow
import Derived.Test.YtnjgpbnlkbcblaaWHxA
import Derived.Test.YtnjgpbnlkbcblaaHexR
import Derived.Test.YtnjgpbnlkbcblaaHexB
import Derived.Test.YtnjgpbnlkbcblaaDigI
import Derived.Test.YtnjgpbnlkbcblaaRows
import Derived.Test.YtnjgpbnlkbcblaaFrameB
namespace Go.Proofs.Ytnjgpbnlkbcblaa
open F256
set_option linter.unusedVariables false

/-- a shape across groups: 1 to 4 of data, 0 to 2 of parity -/
def Shp3 (d s : Int) : Prop := 1 ≤ d ∧ d ≤ 4 ∧ 0 ≤ s ∧ s ≤ 2
/-- all equally long -/
def EvenP (R : Nat) (n : Nat → Nat) : Prop := ∀ i, i < R → n i = n 0
/-- the parity lists -/
def parN (R : Nat) (f : Mat) : Mat := fun j => mixN f (genN R (R + j) 8) R
theorem parN_byt (R : Nat) (f : Mat) : Byt (parN R f) := fun j t => mixN_lt _ _ (genN_lt R (R + j) 8) _ _
/-- the answers of EncodeColumn -/
def CeAns (R : Nat) (n : Nat → Nat) (c : Int) (x : Int) : Prop := (x = 3 ∧ ¬ Shp3 R c) ∨ (x = 1 ∧ Shp3 R c ∧ ¬ EvenP R n) ∨ (x = 2 ∧ Shp3 R c ∧ EvenP R n ∧ 4000 < n 0) ∨ (x = 0 ∧ Shp3 R c ∧ EvenP R n ∧ n 0 ≤ 4000)
theorem CeAns.one {R : Nat} {n : Nat → Nat} {c : Int} {x y : Int} (h : CeAns R n c x) (k : CeAns R n c y) : x = y := by
  rcases h with ⟨rfl, h⟩ | ⟨rfl, h, h2⟩ | ⟨rfl, h, h2, h3⟩ | ⟨rfl, h, h2, h3⟩ <;> rcases k with ⟨rfl, k⟩ | ⟨rfl, k, k2⟩ | ⟨rfl, k, k2, k3⟩ | ⟨rfl, k, k2, k3⟩ <;> first | rfl | exact absurd h k | exact absurd k h | exact absurd h2 k2 | exact absurd k2 h2 | omega
theorem ce_ans (R : Nat) (n : Nat → Nat) (c : Int) : ∃ x, CeAns R n c x := by
  by_cases h : Shp3 R c
  · by_cases h2 : EvenP R n
    · by_cases h3 : n 0 ≤ 4000
      · exact ⟨0, .inr (.inr (.inr ⟨rfl, h, h2, h3⟩))⟩
      · exact ⟨2, .inr (.inr (.inl ⟨rfl, h, h2, by omega⟩))⟩
    · exact ⟨1, .inr (.inl ⟨rfl, h, h2⟩)⟩
  · exact ⟨3, .inl ⟨rfl, h⟩⟩
/-- the lists of a column fit -/
def CfP (R : Nat) (n : Nat → Nat) (f : Mat) (c : Int) : Prop := (0 ≤ c ∧ c ≤ 2) ∧ Shp3 ((R : Int) - c) c ∧ EvenP R n ∧ ∀ j, j < c.toNat → ∀ t, t < n 0 → f (R - c.toNat + j) t = parN (R - c.toNat) f j t
/-- a factor is asked rightly -/
def FacP (g c gr p : Int) : Prop := Shp3 g c ∧ (0 ≤ gr ∧ gr ≤ g - 1) ∧ (0 ≤ p ∧ p ≤ c - 1)
/-- the answers of FactorOf -/
def FacAns (g c gr p : Int) (x v : Int) : Prop := (x = 3 ∧ v = 0 ∧ ¬ FacP g c gr p) ∨ (x = 0 ∧ FacP g c gr p ∧ v = ((powN ((128 + (8 + p.toNat)) ^^^ gr.toNat) 254 : Nat) : Int))
theorem FacAns.one {g c gr p : Int} {x v y u : Int} (h : FacAns g c gr p x v) (k : FacAns g c gr p y u) : x = y ∧ v = u := by
  rcases h with ⟨rfl, rfl, h⟩ | ⟨rfl, h, rfl⟩ <;> rcases k with ⟨rfl, rfl, k⟩ | ⟨rfl, k, rfl⟩
  · exact ⟨rfl, rfl⟩
  · exact absurd k h
  · exact absurd h k
  · exact ⟨rfl, rfl⟩
theorem fac_ans (g c gr p : Int) : ∃ x v, FacAns g c gr p x v := by
  by_cases h : FacP g c gr p
  · exact ⟨0, _, .inr ⟨rfl, h, rfl⟩⟩
  · exact ⟨3, 0, .inl ⟨rfl, rfl, h⟩⟩
/-- the number is among them -/
def HasP (n : Nat) (g : Nat → Int) (x : Int) : Prop := ∃ i, i < n ∧ g i = x
/-- the weights of those that are there: those behind the first n weigh 0 -/
def shareN (n : Nat) (hv : Nat → Nat) (want : Nat) : Nat → Nat := fun i => if i < n then weightsN n 8 hv want i else 0
/-- the answers of ShareOf -/
def ShAns (g c : Int) (m : Nat) (h : Nat → Int) (want : Int) (x : Int) : Prop :=
  (x = 3 ∧ ¬ Shp3 g c) ∨ (x = 1 ∧ Shp3 g c ∧ ¬ RiseP m h (g + c - 1)) ∨ (x = 3 ∧ Shp3 g c ∧ RiseP m h (g + c - 1) ∧ ¬ (0 ≤ want ∧ want ≤ g + c - 1)) ∨
    (x = 7 ∧ Shp3 g c ∧ RiseP m h (g + c - 1) ∧ (0 ≤ want ∧ want ≤ g + c - 1) ∧ HasP m h want) ∨ (x = 10 ∧ Shp3 g c ∧ RiseP m h (g + c - 1) ∧ (0 ≤ want ∧ want ≤ g + c - 1) ∧ ¬ HasP m h want ∧ (m : Int) < g) ∨
    (x = 0 ∧ Shp3 g c ∧ RiseP m h (g + c - 1) ∧ (0 ≤ want ∧ want ≤ g + c - 1) ∧ ¬ HasP m h want ∧ g ≤ (m : Int))
theorem ShAns.one {g c : Int} {m : Nat} {h : Nat → Int} {want : Int} {x y : Int} (a : ShAns g c m h want x) (b : ShAns g c m h want y) : x = y := by
  rcases a with ⟨rfl, a⟩ | ⟨rfl, a, a2⟩ | ⟨rfl, a, a2, a3⟩ | ⟨rfl, a, a2, a3, a4⟩ | ⟨rfl, a, a2, a3, a4, a5⟩ | ⟨rfl, a, a2, a3, a4, a5⟩ <;> rcases b with ⟨rfl, b⟩ | ⟨rfl, b, b2⟩ | ⟨rfl, b, b2, b3⟩ | ⟨rfl, b, b2, b3, b4⟩ | ⟨rfl, b, b2, b3, b4, b5⟩ | ⟨rfl, b, b2, b3, b4, b5⟩ <;> first | rfl | exact absurd a b | exact absurd b a | exact absurd a2 b2 | exact absurd b2 a2 | exact absurd a3 b3 | exact absurd b3 a3 | exact absurd a4 b4 | exact absurd b4 a4 | omega
theorem sh_ans (g c : Int) (m : Nat) (h : Nat → Int) (want : Int) : ∃ x, ShAns g c m h want x := by
  by_cases h1 : Shp3 g c
  · by_cases h2 : RiseP m h (g + c - 1)
    · by_cases h3 : 0 ≤ want ∧ want ≤ g + c - 1
      · by_cases h4 : HasP m h want
        · exact ⟨7, .inr (.inr (.inr (.inl ⟨rfl, h1, h2, h3, h4⟩)))⟩
        · by_cases h5 : (m : Int) < g
          · exact ⟨10, .inr (.inr (.inr (.inr (.inl ⟨rfl, h1, h2, h3, h4, h5⟩))))⟩
          · exact ⟨0, .inr (.inr (.inr (.inr (.inr ⟨rfl, h1, h2, h3, h4, by omega⟩))))⟩
      · exact ⟨3, .inr (.inr (.inl ⟨rfl, h1, h2, h3⟩))⟩
    · exact ⟨1, .inr (.inl ⟨rfl, h1, h2⟩)⟩
  · exact ⟨3, .inl ⟨rfl, h1⟩⟩
theorem rise_nat' {n m : Nat} {g : Nat → Int} {most : Int} (h : RiseP m g most) (hn : n ≤ m) : (∀ k, k < n → g k = ((g k).toNat : Int)) ∧ (∀ k, k < n → ((g k).toNat : Int) ≤ most) ∧ ∀ k, k + 1 < n → (g k).toNat < (g (k + 1)).toNat := by
  refine ⟨fun k hk => ?_, fun k hk => ?_, fun k hk => ?_⟩
  · have := (h k (by omega)).1; omega
  · have h1 := (h k (by omega)).1
    have h2 := (h k (by omega)).2.1
    omega
  · have h1 := (h k (by omega)).1
    have h2 := (h (k + 1) (by omega)).2.2 (by omega)
    rw [show k + 1 - 1 = k by omega] at h2
    omega
/-- the lists of the column that has the first D of those that are there -/
def colN (D : Nat) (n : Nat → Nat) (R : Nat) (f : Mat) : Mat := fun p => mixN (fun k => f (nthN n R k)) (weightsN D 8 (nthN n R) p) D
/-- those that are there are equally long -/
def EvenM (R : Nat) (n : Nat → Nat) : Prop := EvenP (cntN n R) fun t => n (nthN n R t)
/-- the answers of DecodeColumn -/
def DcAns (g c : Int) (R : Nat) (n : Nat → Nat) (x : Int) : Prop :=
  (x = 3 ∧ ¬ Shp3 g c) ∨ (x = 1 ∧ Shp3 g c ∧ (R : Int) ≠ g + c) ∨ (x = 1 ∧ Shp3 g c ∧ (R : Int) = g + c ∧ ¬ EvenM R n) ∨
    (x = 2 ∧ Shp3 g c ∧ (R : Int) = g + c ∧ EvenM R n ∧ (0 < cntN n R ∧ 4000 < n (nthN n R 0))) ∨ (x = 10 ∧ Shp3 g c ∧ (R : Int) = g + c ∧ EvenM R n ∧ ¬ (0 < cntN n R ∧ 4000 < n (nthN n R 0)) ∧ (cntN n R : Int) < g) ∨
    (x = 0 ∧ Shp3 g c ∧ (R : Int) = g + c ∧ EvenM R n ∧ ¬ (0 < cntN n R ∧ 4000 < n (nthN n R 0)) ∧ g ≤ (cntN n R : Int))
theorem DcAns.one {g c : Int} {R : Nat} {n : Nat → Nat} {x y : Int} (a : DcAns g c R n x) (b : DcAns g c R n y) : x = y := by
  rcases a with ⟨rfl, a⟩ | ⟨rfl, a, a2⟩ | ⟨rfl, a, a2, a3⟩ | ⟨rfl, a, a2, a3, a4⟩ | ⟨rfl, a, a2, a3, a4, a5⟩ | ⟨rfl, a, a2, a3, a4, a5⟩ <;> rcases b with ⟨rfl, b⟩ | ⟨rfl, b, b2⟩ | ⟨rfl, b, b2, b3⟩ | ⟨rfl, b, b2, b3, b4⟩ | ⟨rfl, b, b2, b3, b4, b5⟩ | ⟨rfl, b, b2, b3, b4, b5⟩ <;> first | rfl | exact absurd a b | exact absurd b a | exact absurd a2 b2 | exact absurd b2 a2 | exact absurd a3 b3 | exact absurd b3 a3 | exact absurd a4 b4 | exact absurd b4 a4 | omega
theorem dc_ans (g c : Int) (R : Nat) (n : Nat → Nat) : ∃ x, DcAns g c R n x := by
  by_cases h1 : Shp3 g c
  · by_cases h2 : (R : Int) = g + c
    · by_cases h3 : EvenM R n
      · by_cases h4 : 0 < cntN n R ∧ 4000 < n (nthN n R 0)
        · exact ⟨2, .inr (.inr (.inr (.inl ⟨rfl, h1, h2, h3, h4⟩)))⟩
        · by_cases h5 : (cntN n R : Int) < g
          · exact ⟨10, .inr (.inr (.inr (.inr (.inl ⟨rfl, h1, h2, h3, h4, h5⟩))))⟩
          · exact ⟨0, .inr (.inr (.inr (.inr (.inr ⟨rfl, h1, h2, h3, h4, by omega⟩))))⟩
      · exact ⟨1, .inr (.inr (.inl ⟨rfl, h1, h2, h3⟩))⟩
    · exact ⟨1, .inr (.inl ⟨rfl, h1, h2⟩)⟩
  · exact ⟨3, .inl ⟨rfl, h1⟩⟩
/-- the answers of AddShare to n and m bytes -/
def AdsAns (n m : Nat) (x : Int) : Prop := (x = 1 ∧ n ≠ m) ∨ (x = 2 ∧ n = m ∧ 4000 < n) ∨ (x = 0 ∧ n = m ∧ n ≤ 4000)
theorem AdsAns.one {n m : Nat} {x y : Int} (h : AdsAns n m x) (k : AdsAns n m y) : x = y := by
  rcases h with ⟨rfl, h⟩ | ⟨rfl, h, h2⟩ | ⟨rfl, h, h2⟩ <;> rcases k with ⟨rfl, k⟩ | ⟨rfl, k, k2⟩ | ⟨rfl, k, k2⟩ <;> first | rfl | omega
theorem ads_ans (n m : Nat) : ∃ x, AdsAns n m x := by
  by_cases h : n = m
  · by_cases h2 : n ≤ 4000
    · exact ⟨0, .inr (.inr ⟨rfl, h, h2⟩)⟩
    · exact ⟨2, .inr (.inl ⟨rfl, h, by omega⟩)⟩
  · exact ⟨1, .inl ⟨rfl, h⟩⟩
/-- the sum with a share -/
def adsN (f g : Nat → Nat) (c : Nat) : Nat → Nat := fun i => f i ^^^ mulN c (g i)
end Go.Proofs.Ytnjgpbnlkbcblaa

namespace Go.Proofs.Ytnjgpbnlkbcblaa
open Go.RowKit F256
set_option linter.unusedVariables false
set_option linter.unusedSimpArgs false

theorem cellsOf_join (k m : Nat) (g f : Nat → Nat) (hg : ∀ i, i < m → g (k + i) = f i) : cellsOf k g ++ cellsOf m f = cellsOf (k + m) g := by
  apply List.ext_getElem?
  intro i
  by_cases h : i < k
  · rw [List.getElem?_append_left (by rw [cellsOf_length]; exact h), cellsOf_get _ _ _ h, cellsOf_get _ _ _ (by omega)]
  · rw [List.getElem?_append_right (by rw [cellsOf_length]; omega), cellsOf_length]
    by_cases h2 : i - k < m
    · rw [cellsOf_get _ _ _ h2, cellsOf_get _ _ _ (by omega), ← hg _ h2, show k + (i - k) = i by omega]
    · rw [List.getElem?_eq_none (by rw [cellsOf_length]; omega), List.getElem?_eq_none (by rw [cellsOf_length]; omega)]
theorem valsOf_join (k m : Nat) (e e2 : Nat → Value) (hg : ∀ i, i < m → e (k + i) = e2 i) : valsOf k e ++ valsOf m e2 = valsOf (k + m) e := by
  apply List.ext_getElem?
  intro i
  by_cases h : i < k
  · rw [List.getElem?_append_left (by rw [valsOf_length]; exact h), valsOf_get _ _ _ h, valsOf_get _ _ _ (by omega)]
  · rw [List.getElem?_append_right (by rw [valsOf_length]; omega), valsOf_length]
    by_cases h2 : i - k < m
    · rw [valsOf_get _ _ _ h2, valsOf_get _ _ _ (by omega), ← hg _ h2, show k + (i - k) = i by omega]
    · rw [List.getElem?_eq_none (by rw [valsOf_length]; omega), List.getElem?_eq_none (by rw [valsOf_length]; omega)]
theorem row_weaken {w : World} {lo lo' : Nat} {t : TypeId} {v : Value} {k : Nat} {xs : List Value} (h : w.ownsRow lo t 1 v k xs) (hl : lo' ≤ lo) : w.ownsRow lo' t 1 v k xs := by
  refine ⟨h.1, ?_⟩
  rcases h.2 with hn | ⟨g, cap, cur, hg, hbg, rest⟩
  · exact .inl hn
  · exact .inr ⟨g, cap, cur, hg, by omega, rest⟩
theorem row_slice {w : World} {lo : Nat} {t : TypeId} {v : Value} {k : Nat} {xs : List Value} (h : w.ownsRow lo t 1 v k xs) : ∃ ao cap, v = .slice ao k cap := by
  rcases h.2 with ⟨h1, h2⟩ | ⟨g, cap, cur, h1, _⟩
  · subst h2
    exact ⟨_, _, h1⟩
  · exact ⟨_, _, h1⟩
theorem grown_refl (w : World) (o : Option Nat) : w.grownBy w o := ⟨rfl, rfl, rfl, Nat.le_refl _, fun _ _ _ => rfl⟩

/-- append(v, x...) of bytes, x not empty -/
theorem run_appendX (w : World) (ty : TypeId) (lo hi : Nat) (v : Value) (k : Nat) (g : Nat → Nat) (hown : Own w lo hi v k g) (h : Nat) (xv : Value) (m : Nat) (f : Nat → Nat) (hx : Rd w h xv m f) (h0 : 0 < m) (hg : ∀ i, i < m → g (k + i) = f i) (hm : k + m ≤ 1000000) (hlo : lo ≤ w.heap.size) :
    ∃ v' w', (Builtin.append_ #[22, 22] ty #[v, xv]).run Try.prog w = .ok v' w' ∧ Own w' lo w'.heap.size v' (k + m) g ∧ w.grownBy w' v.ownBlock := by
  obtain ⟨i0, hi0, hz0, hz1, hz2⟩ := info_parts info_u8
  obtain ⟨ao, cap, rfl, hml, hc⟩ := hx
  obtain ⟨b, off, rfl, hb, hcell⟩ := hc (by omega)
  obtain ⟨v', w', hr, h2, h3, _⟩ := run_append_own (P := Try.prog) w lo 22 ty 5 i0 (.int .u8 0) 1 1 Try.underlying22 hi0 hz0 hz1 hz2 rfl (by decide) v k (cellsOf k g) hown.1 ⟨b, off, none⟩ m cap (cellsOf m f) (by rw [cellsOf_length]; omega)
    (fun j u hj => by
      by_cases hjm : j < m
      · rw [cellsOf_get _ _ _ hjm] at hj
        cases hj
        rw [add_none']
        exact hcell j hjm
      · rw [List.getElem?_eq_none (by rw [cellsOf_length]; omega)] at hj
        cases hj)
    (cellsOf_one m f) (by unfold maxLen; omega) (by omega) hlo
  rw [cellsOf_join k m g f hg] at h2
  exact ⟨v', w', hr, ⟨h2, fun k hk => (h2.lt k hk).2⟩, h3⟩
theorem wp_appendX {ops : Array Oper} {rest : List Oper} {o : Oper} {a : Act} {w : World} {Q : Exit → Act → World → Prop}
    (hg : o.guard = none) (s x : Operand) (hop : o.op = Op.call { callee := Callee.builtin Builtin.append, args := #[s, x], argTypes := #[22, 22] })
    (lo hi : Nat) (v : Value) (k : Nat) (g : Nat → Nat) (hs : a.eval s = v) (hown : Own w lo hi v k g) (h : Nat) (xv : Value) (m : Nat) (f : Nat → Nat) (hx : a.eval x = xv) (hox : Rd w h xv m f) (h0 : 0 < m) (hgf : ∀ i, i < m → g (k + i) = f i)
    (hm : k + m ≤ 1000000) (hlo : lo ≤ w.heap.size)
    (hK : ∀ v' w', Own w' lo w'.heap.size v' (k + m) g → w.grownBy w' v.ownBlock → wpList Try.prog ops Q rest (a.put o.dst v') w') : wpList Try.prog ops Q (o :: rest) a w := by
  refine wpList_plain hg fun K hK' => ?_
  obtain ⟨v', w', hrun, r1, r2⟩ := run_appendX w o.type lo hi v k g hown h xv m f hox h0 hgf hm hlo
  unfold Oper.wp
  simp [execOp, hop, resolve, invoke, builtin, hs, hx, hrun, Result.andThen]
  exact hK' _ _ (hK v' w' r1 r2)
/-- append(v, x...), v empty in the block p, as a step of a region that draws -/
theorem step_appendC {ops : Array Oper} {o : Oper} {a : Act} {w : World} {K : Act → World → Prop} {Q : Exit → Act → World → Prop} {E : Prop}
    (hg : o.guard = none) (s x : Operand) (hop : o.op = Op.call { callee := Callee.builtin Builtin.append, args := #[s, x], argTypes := #[22, 22] })
    (p : Nat) (z : Nat → Nat) (hs : a.eval s = .slice (some ⟨p, 0, none⟩) 0 0) (hown : Own w p (p + 1) (.slice (some ⟨p, 0, none⟩) 0 0) 0 z) (lo2 hi2 : Nat) (xv : Value) (m : Nat) (f : Nat → Nat) (hx : a.eval x = xv) (hox : Own w lo2 hi2 xv m f)
    (hm : m ≤ 1000000)
    (hK : ∀ v' w', Own w' p w'.heap.size v' m f → Chg p (p + 1) w w' → K (a.put o.dst v') w') :
    if Region.wanted o (yielded ops a.tmps) = true then Oper.wp Try.prog o a w K Q else E := by
  have hw : Region.wanted o (yielded ops a.tmps) = true := by simp [Region.wanted, hg]
  rw [if_pos hw]
  obtain ⟨i0, hi0, hz0, hz1, hz2⟩ := info_parts info_u8
  have hlo : p ≤ w.heap.size := Nat.le_of_lt (hown.1.lt p rfl).2
  have key : ∃ v' w', (Builtin.append_ #[22, 22] o.type #[.slice (some ⟨p, 0, none⟩) 0 0, xv]).run Try.prog w = .ok v' w' ∧ Own w' p w'.heap.size v' m f ∧ Chg p (p + 1) w w' := by
    rcases hox.1.2 with ⟨rfl, rfl⟩ | ⟨g, cap, cur, rfl, hbg, hgg, hnc, hcm, hcs, htake⟩
    · have hr := run_append_owned_none (P := Try.prog) w p 22 o.type 5 i0 1 Try.underlying22 hi0 _ 0 _ hown.1
      refine ⟨_, w, hr, ?_, Chg.refl' _ _ _⟩
      have := hown.congr (g := f) (fun i hi => by omega)
      exact ⟨this.1, fun k hk => (this.1.lt k hk).2⟩
    · obtain ⟨v', w', hr, h2, h3, _⟩ := run_append_own (P := Try.prog) w p 22 o.type 5 i0 (.int .u8 0) 1 1 Try.underlying22 hi0 hz0 hz1 hz2 rfl (by decide) (.slice (some ⟨p, 0, none⟩) 0 0) 0 (cellsOf 0 z) hown.1 ⟨g, 0, none⟩ m cap (cellsOf m f) (by rw [cellsOf_length]; omega)
        (fun j u hj => by
          by_cases hjm : j < m
          · rw [add_none', Nat.zero_add, hox.1.cellAt j (by omega)]
            exact hj
          · rw [List.getElem?_eq_none (by rw [cellsOf_length]; omega)] at hj
            cases hj)
        (cellsOf_one m f) (by unfold maxLen; omega) (by omega) hlo
      have h2' : w'.ownsRow p 5 1 v' m (cellsOf m f) := by
        have e0 : cellsOf 0 z ++ cellsOf m f = cellsOf m f := rfl
        rw [Nat.zero_add, e0] at h2
        exact h2
      refine ⟨v', w', hr, ⟨h2', fun k hk => (h2'.lt k hk).2⟩, ⟨h3.os, h3.tape, h3.output, h3.size, fun k hk hne => h3.block k hk ?_⟩⟩
      simp [Value.ownBlock]
      omega
  obtain ⟨v', w', hrun, r1, r2⟩ := key
  unfold Oper.wp
  simp [execOp, hop, resolve, invoke, builtin, hs, hx, hrun, Result.andThen]
  exact hK v' w' r1 r2
/-- rows that are gathered one behind the other, all their blocks in lo..hi; none yet: nil -/
structure BldO (wr : World) (lo hi : Nat) (v : Value) (k : Nat) (n : Nat → Nat) (f : Mat) (e : Nat → Value) : Prop where
  row : wr.ownsRow lo 22 1 v k (valsOf k e)
  low : ∀ b, v.ownBlock = some b → b < hi
  each : ∀ i, i < k → Own wr lo hi (e i) (n i) (f i)
  apart : ∀ i j, i < k → j < k → i ≠ j → ∀ b, (e i).ownBlock = some b → (e j).ownBlock ≠ some b
  le : lo ≤ hi
  le2 : hi ≤ wr.heap.size
theorem BldO.kept {w w2 : World} {lo hi : Nat} {v : Value} {k : Nat} {n : Nat → Nat} {f : Mat} {e : Nat → Value} (h : BldO w lo hi v k n f e) (hk : ∀ b, lo ≤ b → b < hi → w2.heap[b]? = w.heap[b]?) (hs : hi ≤ w2.heap.size) : BldO w2 lo hi v k n f e :=
  ⟨row_kept h.row fun b hb => hk b (h.row.lt b hb).1 (h.low b hb), h.low, fun i hi => (h.each i hi).kept fun b hb => hk b ((h.each i hi).1.lt b hb).1 ((h.each i hi).2 b hb), h.apart, h.le, hs⟩
theorem BldO.next {w2 w4 : World} {lo hi lo2 hi2 : Nat} {v v' x : Value} {k : Nat} {n n' : Nat → Nat} {f f' : Mat} {e : Nat → Value} (h : BldO w2 lo hi v k n f e) (ho : Own w2 lo2 hi2 x (n' k) (f' k)) (hlo : hi ≤ lo2)
    (hn : ∀ i, i < k → n' i = n i) (hf : ∀ i, i < k → f' i = f i)
    (hr : w4.ownsRow lo 22 1 v' (k + 1) (valsOf k e ++ [x])) (hg : (w2.alloc (.cells #[x] 22)).grownBy w4 v.ownBlock) : BldO w4 lo w4.heap.size v' (k + 1) n' f' (fun i => if i = k then x else e i) := by
  have hs4 : w2.heap.size + 1 ≤ w4.heap.size := by have := hg.size; simpa using this
  have hle := h.le
  have hle2 := h.le2
  have hv : valsOf k e ++ [x] = valsOf (k + 1) (fun i => if i = k then x else e i) := by
    rw [← valsOf_snoc]
    simp only [if_pos]
    rw [valsOf_eq (e := e) (g := fun i => if i = k then x else e i) (fun i hi => by simp [show ¬ i = k by omega])]
  rw [hv] at hr
  have kp : ∀ {y : Value} {m : Nat} {q : Nat → Nat} {l u : Nat}, Own w2 l u y m q → Own w4 l w4.heap.size y m q := fun {y m q l u} hy =>
    ⟨(hy.kept fun b hb' => by
      have hlt := (hy.1.lt b hb').2
      rw [hg.block b (by simp; omega) (fun hh => two_blocks h.row hy b hh.symm hb')]
      exact Below.heap_alloc w2 _ b hlt).1, fun b hb' => by have := (hy.1.lt b hb').2; omega⟩
  refine ⟨hr, fun b hb => (hr.lt b hb).2, fun i hik => ?_, fun i j hik hj hne b hbi => ?_, by omega, Nat.le_refl _⟩
  · by_cases c : i = k
    · subst c
      simp only [if_pos]
      exact (kp ho).weaken (by omega) (Nat.le_refl _)
    · simp only [if_neg c]
      rw [hn i (by omega), hf i (by omega)]
      exact kp (h.each i (by omega))
  · have new : ∀ b, x.ownBlock = some b → hi ≤ b := fun b hb' => by have := (ho.1.lt b hb').1; omega
    have old : ∀ i, i < k → ∀ b, (e i).ownBlock = some b → b < hi := fun i hi b hb' => (h.each i hi).2 b hb'
    have hbi2 : (if i = k then x else e i).ownBlock = some b := hbi
    show (if j = k then x else e j).ownBlock ≠ some b
    by_cases c : i = k
    · have c2 : ¬ j = k := fun z => hne (by rw [c, z])
      rw [if_pos c] at hbi2
      rw [if_neg c2]
      intro hh
      have h5 := new b hbi2
      have h6 := old j (by omega) b hh
      omega
    · rw [if_neg c] at hbi2
      by_cases c2 : j = k
      · rw [if_pos c2]
        intro hh
        have h5 := new b hh
        have h6 := old i (by omega) b hbi2
        omega
      · rw [if_neg c2]
        exact h.apart i j (by omega) (by omega) hne b hbi2
theorem BldO.done {wr : World} {lo hi : Nat} {v : Value} {k : Nat} {n : Nat → Nat} {f : Mat} {e : Nat → Value} (h : BldO wr lo hi v k n f e) (hn : v ≠ nilS) : ∃ g cap, OwnE wr lo hi v k n f g cap e :=
  BldR.done ⟨h.row, hn, h.low, h.each, h.apart, h.le, h.le2⟩
theorem BldO.slice {wr : World} {lo hi : Nat} {v : Value} {k : Nat} {n : Nat → Nat} {f : Mat} {e : Nat → Value} (h : BldO wr lo hi v k n f e) : ∃ ao cap, v = .slice ao k cap := by
  rcases h.row.2 with ⟨h1, h2⟩ | ⟨g, cap, cur, h1, _⟩
  · subst h2
    exact ⟨_, _, h1⟩
  · exact ⟨_, _, h1⟩

end Go.Proofs.Ytnjgpbnlkbcblaa

namespace Go.Proofs.Ytnjgpbnlkbcblaa
open Go.RowKit F256
set_option linter.unusedVariables false
set_option linter.unusedSimpArgs false

end Go.Proofs.Ytnjgpbnlkbcblaa

namespace Go.Proofs.Ytnjgpbnlkbcblaa
open Go.RowKit F256
set_option linter.unusedVariables false
set_option linter.unusedSimpArgs false

/-- a shape that has no fault -/
def OkShape (s : Nat → Int) : Prop := Shp3 (s 0) (s 1) ∧ Shp (s 2) (s 3) ∧ (1 ≤ s 4 ∧ s 4 ≤ 6) ∧ (1 ≤ s 5 ∧ s 5 ≤ 6) ∧ (1 ≤ s 6 ∧ s 6 ≤ 4) ∧ (1 ≤ s 7 ∧ s 7 ≤ 6) ∧ (0 ≤ s 8 ∧ s 8 ≤ 400)
def ShFAns (s : Nat → Int) (x : Int) : Prop := (x = 3 ∧ ¬ OkShape s) ∨ (x = 0 ∧ OkShape s)
theorem ShFAns.one {s : Nat → Int} {x y : Int} (h : ShFAns s x) (k : ShFAns s y) : x = y := by
  rcases h with ⟨rfl, h⟩ | ⟨rfl, h⟩ <;> rcases k with ⟨rfl, k⟩ | ⟨rfl, k⟩ <;> first | rfl | exact absurd h k | exact absurd k h
theorem box9 {w : World} {b : Nat} {t : TypeId} {a0 a1 a2 a3 a4 a5 a6 a7 a8 : Value} (h : Box w b #[a0, a1, a2, a3, a4, a5, a6, a7, a8] t) :
    w.cell? ⟨b, 0, none⟩ = some a0 ∧ w.cell? ⟨b, 1, none⟩ = some a1 ∧ w.cell? ⟨b, 2, none⟩ = some a2 ∧ w.cell? ⟨b, 3, none⟩ = some a3 ∧ w.cell? ⟨b, 4, none⟩ = some a4 ∧ w.cell? ⟨b, 5, none⟩ = some a5 ∧ w.cell? ⟨b, 6, none⟩ = some a6 ∧ w.cell? ⟨b, 7, none⟩ = some a7 ∧ w.cell? ⟨b, 8, none⟩ = some a8 :=
  ⟨h.cell 0, h.cell 1, h.cell 2, h.cell 3, h.cell 4, h.cell 5, h.cell 6, h.cell 7, h.cell 8⟩

end Go.Proofs.Ytnjgpbnlkbcblaa

namespace Go.Proofs.Ytnjgpbnlkbcblaa
open Go.RowKit F256
set_option linter.unusedVariables false
set_option linter.unusedSimpArgs false

/-- the bytes of a string -/
def nameByte (b : ByteArray) (i : Nat) : Nat := if h : i < b.size then (b[i]'h).toNat else 0
theorem nameByte_lt (b : ByteArray) (i : Nat) : nameByte b i < 256 := by
  unfold nameByte
  split
  · exact UInt8.toNat_lt _
  · omega
theorem index_name (b : ByteArray) (i : Nat) (h : i < b.size) (w : World) : (Instr.index 9 (.string b) (.int .i64 (i : Int))).run Try.prog w = .ok (.int .u8 (nameByte b i)) w := by
  rw [run_index_string w 9 b .i64 (i : Int) Try.underlying9, dif_pos ⟨by omega, by omega⟩]
  simp [nameByte, h]
def LetP (y : Nat) : Prop := 97 ≤ y ∧ y ≤ 122
def DigP (y : Nat) : Prop := 48 ≤ y ∧ y ≤ 57
/-- a name that has no fault -/
def OkName (b : ByteArray) : Prop := 1 ≤ b.size ∧ b.size ≤ 8 ∧ LetP (nameByte b 0) ∧ ∀ i, i < b.size → LetP (nameByte b i) ∨ DigP (nameByte b i)
def NmAns (b : ByteArray) (x : Int) : Prop := (x = 5 ∧ ¬ OkName b) ∨ (x = 0 ∧ OkName b)
theorem NmAns.one {b : ByteArray} {x y : Int} (h : NmAns b x) (k : NmAns b y) : x = y := by
  rcases h with ⟨rfl, h⟩ | ⟨rfl, h⟩ <;> rcases k with ⟨rfl, k⟩ | ⟨rfl, k⟩ <;> first | rfl | exact absurd h k | exact absurd k h

end Go.Proofs.Ytnjgpbnlkbcblaa

namespace Go.Proofs.Ytnjgpbnlkbcblaa
open Go.RowKit F256
set_option linter.unusedVariables false

def InP (x a b : Int) : Prop := a ≤ x ∧ x ≤ b
/-- numbers from 0 to most, no two alike -/
def ApartP (n : Nat) (g : Nat → Int) (most : Int) : Prop := ∀ i, i < n → InP (g i) 0 most ∧ ∀ t, t < i → g t ≠ g i
def ItemP (s : Nat → Int) (r : RecD) : Prop :=
  (r.length = -1 ∧ r.data.1 = 0 ∧ r.rows.1 = 0) ∨
  (r.length ≠ -1 ∧ 1 ≤ r.length ∧ r.length ≤ 3 * (s 2 * 4) ∧
    ((0 < r.data.1 ∧ (r.data.1 : Int) = r.length ∧ r.rows.1 = 0) ∨
     (r.data.1 = 0 ∧ (r.rows.1 : Int) = (r.length + s 2 * 4 - 1) / (s 2 * 4) ∧ ApartP r.rows.1 r.rows.2 (s 4 - 1))))
def MoveP (s : Nat → Int) (r : RecD) : Prop := InP r.group 0 (s 0 - 1) ∧ InP r.row 0 (s 4 - 1) ∧ (r.data.1 : Int) = s 2 * 4 ∧ (r.delta.1 : Int) = s 2 * 4
def DoneP (s : Nat → Int) (r : RecD) : Prop := InP r.group 0 (s 0 + s 1 - 1)
def WeightsP (s : Nat → Int) (r : RecD) : Prop := (r.delta.1 : Int) = s 0 + s 1 ∧ r.delta.2 r.group.toNat = 0 ∧ ∀ i, i < r.rows.1 → r.delta.2 (r.rows.2 i).toNat ≠ 0
def ShareP (s : Nat → Int) (r : RecD) : Prop := InP r.group 0 (s 0 + s 1 - 1) ∧ InP r.row 0 (s 4 - 1) ∧ RiseP r.rows.1 r.rows.2 (s 0 + s 1 - 1) ∧ (r.data.1 : Int) = s 2 * 4 ∧ WeightsP s r
def KindP (s : Nat → Int) (r : RecD) : Prop := (r.kind = 1 ∧ ItemP s r) ∨ (r.kind = 2 ∧ MoveP s r) ∨ (r.kind = 3 ∧ DoneP s r) ∨ (r.kind = 4 ∧ ShareP s r)
def noName (r : RecD) : Prop := r.name = ByteArray.empty ∧ r.length = 0
def BlankP (r : RecD) : Prop :=
  (r.kind = 1 ∧ r.group = 0 ∧ r.row = 0 ∧ r.delta.1 = 0) ∨ (r.kind = 2 ∧ noName r ∧ r.rows.1 = 0) ∨
  (r.kind = 3 ∧ noName r ∧ r.row = 0 ∧ r.rows.1 = 0 ∧ r.data.1 = 0 ∧ r.delta.1 = 0) ∨ (r.kind = 4 ∧ noName r)
def NamedP (r : RecD) : Prop := r.kind = 1 → OkName r.name
/-- codes asked one behind the other: the first that falls is told; behind them all K -/
def Stair : List (Prop × Int) → (Int → Prop) → Int → Prop
  | [], K, x => K x
  | (p, c) :: l, K, x => (¬ p ∧ x = c) ∨ (p ∧ Stair l K x)
theorem Stair.fall {p : Prop} {c : Int} {l : List (Prop × Int)} {K : Int → Prop} (h : ¬ p) : Stair ((p, c) :: l) K c := .inl ⟨h, rfl⟩
theorem Stair.pass {p : Prop} {c : Int} {l : List (Prop × Int)} {K : Int → Prop} {x : Int} (h : p) (k : Stair l K x) : Stair ((p, c) :: l) K x := .inr ⟨h, k⟩
theorem Stair.last {K : Int → Prop} {x : Int} (h : K x) : Stair [] K x := h
theorem Stair.one {K : Int → Prop} (hK : ∀ x y, K x → K y → x = y) : ∀ (l : List (Prop × Int)) {x y : Int}, Stair l K x → Stair l K y → x = y
  | [], x, y, h, k => hK x y h k
  | (p, c) :: l, x, y, h, k => by
    rcases h with ⟨h1, h2⟩ | ⟨h1, h2⟩ <;> rcases k with ⟨k1, k2⟩ | ⟨k1, k2⟩
    · rw [h2, k2]
    · exact absurd k1 h1
    · exact absurd h1 k1
    · exact Stair.one hK l h2 k2
def isZ (x : Int) : Prop := x = 0
theorem isZ_one (x y : Int) (h : isZ x) (k : isZ y) : x = y := by rw [show x = 0 from h, show y = 0 from k]
/-- what RecFault tells -/
def RecAns (s : Nat → Int) (r : RecD) (x : Int) : Prop :=
  Stair [(OkShape s, 3), (InP r.kind 1 4, 5), (InP r.seq 1 1000000000, 3), (NamedP r, 5), (KindP s r, 3), (BlankP r, 1)] isZ x
theorem RecAns.one {s : Nat → Int} {r : RecD} {x y : Int} (h : RecAns s r x) (k : RecAns s r y) : x = y := Stair.one isZ_one _ h k

/-- groups, drives and blocks as the shape has them -/
def BlockP (b : BlockD) : Prop := InP b.stamp 0 1000000000 ∧ b.bytes.1 = 4
def BlocksP (s : Nat → Int) (p : Nat × (Nat → BlockD)) : Prop := (p.1 : Int) = s 4 ∧ ∀ i, i < p.1 → BlockP (p.2 i)
def DrivesP (s : Nat → Int) (p : Nat × (Nat → DriveD)) : Prop := (p.1 : Int) = s 2 + s 3 ∧ ∀ i, i < p.1 → BlocksP s (p.2 i).blocks
def BuiltP (d : WorldD) : Prop := (d.groups.1 : Int) = d.shape 0 + d.shape 1 ∧ ∀ i, i < d.groups.1 → DrivesP d.shape (d.groups.2 i)
def OnP (d : WorldD) : Prop := ApartP d.on.1 d.on.2 (d.shape 0 + d.shape 1 - 1) ∧ (d.on.1 : Int) ≤ d.shape 5 ∧ (d.down = true → d.on.1 = 0)
def FormP (d : WorldD) : Prop := BuiltP d ∧ OnP d ∧ d.tapes.1 = 2
def FewP (d : WorldD) : Prop := ∀ t, t < d.tapes.1 → (d.tapes.2 t).recs.1 ≤ 200
/-- the first record that has a fault -/
def RecsAns (s : Nat → Int) (n : Nat) (x : Nat → TapeD) (c : Int) : Prop :=
  (c = 0 ∧ ∀ t, t < n → ∀ i, i < (x t).recs.1 → RecAns s ((x t).recs.2 i) 0) ∨
  (c ≠ 0 ∧ ∃ t i, t < n ∧ i < (x t).recs.1 ∧ RecAns s ((x t).recs.2 i) c ∧ (∀ k, k < i → RecAns s ((x t).recs.2 k) 0) ∧ ∀ u, u < t → ∀ k, k < (x u).recs.1 → RecAns s ((x u).recs.2 k) 0)
theorem RecsAns.one {s : Nat → Int} {n : Nat} {x : Nat → TapeD} {c e : Int} (h : RecsAns s n x c) (k : RecsAns s n x e) : c = e := by
  rcases h with ⟨rfl, h⟩ | ⟨hc, t, i, ht, hi, hr, hb, hu⟩ <;> rcases k with ⟨rfl, k⟩ | ⟨kc, t', i', kt, ki, kr, kb, ku⟩
  · rfl
  · exact absurd (kr.one (h t' kt i' ki)) kc
  · exact absurd (hr.one (k t ht i hi)) hc
  · rcases Nat.lt_trichotomy t t' with c1 | c1 | c1
    · exact absurd (hr.one (ku t c1 i hi)) hc
    · subst c1
      rcases Nat.lt_trichotomy i i' with c2 | c2 | c2
      · exact absurd (hr.one (kb i c2)) hc
      · subst c2; exact hr.one kr
      · exact absurd (kr.one (hb i' c2)) kc
    · exact absurd (kr.one (hu t' c1 i' ki)) kc
def CleanP (d : WorldD) : Prop := ∀ t, t < d.tapes.1 → (d.tapes.2 t).wiped = true → (d.tapes.2 t).recs.1 = 0
def CountP (d : WorldD) : Prop := InP d.writes 0 1000000000 ∧ InP d.stop (-1) 1000000000
/-- what WorldFault tells -/
def WldAns (d : WorldD) (x : Int) : Prop :=
  Stair [(OkShape d.shape, 3), (FormP d, 1), (FewP d, 2)] (fun x => (x ≠ 0 ∧ RecsAns d.shape d.tapes.1 d.tapes.2 x) ∨ (RecsAns d.shape d.tapes.1 d.tapes.2 0 ∧ Stair [(CleanP d, 1), (CountP d, 3)] isZ x)) x
theorem WldAns.one {d : WorldD} {x y : Int} (h : WldAns d x) (k : WldAns d y) : x = y := by
  refine Stair.one (fun x y h k => ?_) _ h k
  rcases h with ⟨h1, h2⟩ | ⟨h1, h2⟩ <;> rcases k with ⟨k1, k2⟩ | ⟨k1, k2⟩
  · exact h2.one k2
  · exact absurd (h2.one k1) h1
  · exact absurd (k2.one h1) k1
  · exact Stair.one isZ_one _ h2 k2
/-- a world without a fault -/
structure OkWorld (d : WorldD) : Prop where
  shape : OkShape d.shape
  form : FormP d
  few : FewP d
  recs : ∀ t, t < d.tapes.1 → ∀ i, i < (d.tapes.2 t).recs.1 → RecAns d.shape ((d.tapes.2 t).recs.2 i) 0
  clean : CleanP d
  count : CountP d
theorem WldAns.ok {d : WorldD} (h : WldAns d 0) : OkWorld d := by
  rcases h with ⟨_, h⟩ | ⟨h1, h⟩
  · omega
  rcases h with ⟨_, h⟩ | ⟨h2, h⟩
  · omega
  rcases h with ⟨_, h⟩ | ⟨h3, h⟩
  · omega
  rcases h with ⟨h, _⟩ | ⟨h4, h⟩
  · exact absurd rfl h
  rcases h with ⟨_, h⟩ | ⟨h5, h⟩
  · omega
  rcases h with ⟨_, h⟩ | ⟨h6, h⟩
  · omega
  rcases h4 with ⟨_, h4⟩ | ⟨h4, _⟩
  · exact ⟨h1, h2, h3, h4, h5, h6⟩
  · exact absurd rfl h4
theorem exB (P : Prop) : ∃ b : Bool, b = true ↔ P := by
  by_cases h : P
  · exact ⟨true, by simp [h]⟩
  · exact ⟨false, by simp [h]⟩
end Go.Proofs.Ytnjgpbnlkbcblaa

namespace Go.Proofs.Ytnjgpbnlkbcblaa
open Go.RowKit F256

/-- a result with a number in it -/
def intR (code value : Int) : Value := .agg #[.int .i64 code, .int .i64 value]

end Go.Proofs.Ytnjgpbnlkbcblaa

namespace Go.Proofs.Ytnjgpbnlkbcblaa
open Go.RowKit F256
set_option linter.unusedVariables false
set_option linter.unusedSimpArgs false

end Go.Proofs.Ytnjgpbnlkbcblaa

namespace Go.Proofs.Ytnjgpbnlkbcblaa
open Go.RowKit F256
set_option linter.unusedVariables false

theorem q_below {f : Nat} {args : Array Value} {W : World} {v : Value} (h : ∀ w', Below W.heap.size W w' → Calls Try.prog f args w' fun e w'' => e = .returned v ∧ Below w'.heap.size w' w'') :
    ∀ d os, Calls Try.prog f args (Go.Sort.grow (redrawn W d) os) fun e w'' => e = .returned v ∧ ∃ p : Regrown, w'' = Go.Sort.grow (redrawn W p.d) p.os := fun d os => Calls.regrown_of (h _ (below_regrown W d os))
theorem q_same {f : Nat} {args : Array Value} {W : World} {v : Value} (h : ∀ w', Calls Try.prog f args w' fun e w'' => e = .returned v ∧ w'' = w') :
    ∀ d os, Calls Try.prog f args (Go.Sort.grow (redrawn W d) os) fun e w'' => e = .returned v ∧ ∃ p : Regrown, w'' = Go.Sort.grow (redrawn W p.d) p.os :=
  q_below fun w' _ => (h w').mono fun e w'' ⟨h1, h2⟩ => ⟨h1, by rw [h2]; exact Below.refl _ _⟩
theorem det_b {f : Nat} {args : Array Value} {w : World} {P : Prop} {b : Bool} (h : Calls Try.prog f args w (BoolP P w)) (hb : b = true ↔ P) : Calls Try.prog f args w fun e w' => e = .returned (.bool b) ∧ Below w.heap.size w w' :=
  h.mono fun e w' ⟨b', h1, h2, h3⟩ => ⟨by rw [h1]; congr 2; cases b <;> cases b' <;> simp_all, h3⟩
theorem below_rg {W w' : World} (h : ∃ p : Regrown, w' = Go.Sort.grow (redrawn W p.d) p.os) : Below W.heap.size W w' := by
  obtain ⟨p, rfl⟩ := h
  exact below_regrown W p.d p.os
/-- the walk in the text's order, behind a wall (what is behind it is not looked into) -/
structure WQ (P : Program) (ops : Array Oper) (C : World → Prop) (Q : Act → Prop) (l : List Oper) (a : Act) : Prop where
  out : wpQuiet P ops C Q l a
theorem WQ.skip {P : Program} {ops : Array Oper} {C : World → Prop} {Q : Act → Prop} {a : Act} {o : Oper} {rest : List Oper} (hw : Region.wanted o (yielded ops a.tmps) = false)
    (h : ∀ K : Act → Prop, (∀ a, WQ P ops C Q rest a → K a) → K (a.put o.dst undef)) : WQ P ops C Q (o :: rest) a := by
  refine ⟨?_⟩
  unfold wpQuiet
  rw [if_neg (by rw [hw]; decide)]
  exact (h _ (fun _ h => h)).out
theorem WQ.want {P : Program} {ops : Array Oper} {C : World → Prop} {Q : Act → Prop} {a : Act} {o : Oper} {rest : List Oper} (hw : Region.wanted o (yielded ops a.tmps) = true)
    (h : ∀ K : Act → Prop, (∀ a, WQ P ops C Q rest a → K a) → o.quiet P a C K) : WQ P ops C Q (o :: rest) a := by
  refine ⟨?_⟩
  unfold wpQuiet
  rw [if_pos hw]
  exact Oper.quiet_mono (fun a h => h.out) (h _ (fun _ h => h))
theorem WQ.nil {P : Program} {ops : Array Oper} {C : World → Prop} {Q : Act → Prop} {a : Act} (h : Q a) : WQ P ops C Q [] a := ⟨wpQuiet_nil h⟩
theorem WQ.region {P : Program} {id : Nat} {Q : Exit → Act → World → Prop} {a : Act} {w : World} {l : List Oper} (hm : P.follows .mixedOrders = true) (hB : Region.lexB .any l.toArray = true)
    (h : WQ P l.toArray (fun w' => ∃ p : Regrown, w' = Go.Sort.grow (redrawn w p.d) p.os) (fun a' => ∀ w', (∃ p : Regrown, w' = Go.Sort.grow (redrawn w p.d) p.os) → Q .normal a' w') l a) : (Code.region id l.toArray true).wp P Q a w := wp_region_quiet_below hm hB h.out
end Go.Proofs.Ytnjgpbnlkbcblaa

namespace Go.Proofs.Ytnjgpbnlkbcblaa
open Go.RowKit F256
set_option linter.unusedVariables false
set_option linter.unusedSimpArgs false

set_option maxHeartbeats 4000000 in
theorem drawHex_any (v : Value) (n0 : Nat) (f0 : Nat → Nat) (w : World) (r0 : Rd w w.heap.size v n0 f0) (k0 : ∀ i, f0 i < 256) (hn : n0 ≤ 1048576) :
    Calls Try.prog 5 #[v] w fun e w' => ∃ v' m g, e = .returned v' ∧ m ≤ 8 ∧ Own w' w.heap.size w'.heap.size v' m g ∧ (∀ i, g i < 256) ∧ Below w.heap.size w w' := by
  go_enter Try.func5, Try.ntmps5
  go_wp2_with fail
  refine (l1Source_any _ n0 f0 _ r0 k0 hn).mono ?_
  rintro e w1 ⟨rfl, s1, b1⟩
  go_wp2_with fail
  refine (l1Next_any w.heap.size 0 v n0 f0 9 (by omega) (by omega) (by omega) _ s1).mono ?_
  rintro e w2 ⟨r, hr, rfl, s2, c2⟩
  go_wp2_with fail
  refine (l1Some_any w.heap.size (0 + 1) v n0 f0 r (by omega) (by omega) _ s2).mono ?_
  rintro e w3 ⟨v', g, rfl, og, kg, s3, c3⟩
  have B := b1.trans ((c2.trans c3).below (Nat.le_refl _) b1.size)
  go_wp2
  go_ret
  exact ⟨v', r, g, rfl, by omega, og.weaken (Nat.le_trans b1.size c2.size) (Nat.le_refl _), kg, B⟩

set_option maxHeartbeats 8000000 in
theorem drawBoh_any (v : Value) (n0 : Nat) (f0 : Nat → Nat) (w : World) (r0 : Rd w w.heap.size v n0 f0) (k0 : ∀ i, f0 i < 256) (hn : n0 ≤ 1048576) :
    Calls Try.prog 9 #[v] w fun e w' => ∃ s : ByteArray, e = .returned (.string s) ∧ s.size ≤ 1000 ∧ Below w.heap.size w w' := by
  go_enter Try.func9, Try.ntmps9
  go_wp2_with fail
  refine (l1Source_any _ n0 f0 _ r0 k0 hn).mono ?_
  rintro e w1 ⟨rfl, s1, b1⟩
  have z1 := s1.1.lt
  go_wp2_with fail
  refine (l1Next_any w.heap.size 0 v n0 f0 9 (by omega) (by omega) (by omega) _ s1).mono ?_
  rintro e w2 ⟨r, hr, rfl, s2, c2⟩
  have z2 := s2.1.lt
  go_wp2_with fail
  have ba : Below w2.heap.size w2 (w2.alloc (.cells #[.int .i64 r, .int .i64 40, .int .i64 41] 2)) := (Below.refl _ _).alloc (Nat.le_refl _) _
  refine (l1Pick_any w.heap.size (0 + 1) v n0 f0 #[.int .i64 r, .int .i64 40, .int .i64 41] (fun i => ([(r : Int), 40, 41] : List Int).getD i 0) w2.heap.size 3 (by omega) (by show 1 ≤ 3; omega) (by show 3 ≤ 100000; omega) ?_ _ (s2.chgTrans ba) (box_new _ _ _) (by omega)).mono ?_
  · intro i hi
    have hi6 : i < 3 := hi
    have : i = 0 ∨ i = 1 ∨ i = 2 := by omega
    rcases this with rfl | rfl | rfl <;> rfl
  rintro e w3 ⟨j, hj, rfl, s3, c3⟩
  have hj6 : j < 3 := hj
  obtain ⟨a, ha, hae⟩ : ∃ a : Nat, a ≤ 41 ∧ ([(r : Int), 40, 41] : List Int).getD j 0 = (a : Int) := by
    have : j = 0 ∨ j = 1 ∨ j = 2 := by omega
    rcases this with rfl | rfl | rfl
    · exact ⟨r, by omega, rfl⟩
    · exact ⟨40, by omega, rfl⟩
    · exact ⟨41, by omega, rfl⟩
  rw [hae]
  have C3 : Chg w.heap.size (w.heap.size + 1) w1 w3 := (c2.then (ba.mono c2.size)).trans c3
  clear hae hj hj6 c2 c3 ba s1 s2
  go_wp2_with fail
  refine (l1Some_any w.heap.size (0 + 1 + 1) v n0 f0 a (by omega) (by omega) _ s3).mono ?_
  rintro e w4 ⟨v', g, rfl, og, kg, s4, c4⟩
  go_wp2_with fail
  refine (specHex_any v' a g w4.heap.size _ og.rd (fun i _ => kg i) (by omega)).mono ?_
  rintro e w5 ⟨rfl, b5⟩
  have C5 := (C3.trans c4).then (b5.mono (Nat.le_trans C3.size c4.size))
  have s5 := s4.chgTrans b5
  clear og kg s4 c4 C3 s3 b5
  go_wp2_with fail
  refine (l1Chance_any w.heap.size _ v n0 f0 3 (by omega) (by omega) (by omega) _ s5).mono ?_
  rintro e w6 ⟨x, rfl, s6, c6⟩
  have hsz := hexS_size g a
  obtain ⟨B, hB⟩ : ∃ B, B = hexS g a := ⟨_, rfl⟩
  rw [← hB] at hsz ⊢
  clear hB
  have hB2 : B.size ≤ 82 := by omega
  clear hsz
  cases x
  · have BB := b1.trans ((C5.trans c6).below (Nat.le_refl _) b1.size)
    go_wp2
    go_ret
    exact ⟨B, rfl, by omega, BB⟩
  · go_wp2_with fail
    refine (l14Cut_any w.heap.size _ v n0 f0 (by omega) B (by omega) _ s6).mono ?_
    rintro e w7 ⟨s, k, rfl, hs, hk, s7, c7⟩
    have BB := b1.trans (((C5.trans c6).trans c7).below (Nat.le_refl _) b1.size)
    go_wp2
    go_ret
    exact ⟨s, rfl, by omega, BB⟩

set_option maxHeartbeats 400000 in
theorem lwBytes_same (v1 v2 : Value) (n : Nat) (f : Nat → Nat) (h1 h2 : Nat) (w : World) (r1 : Rd w h1 v1 n f) (r2 : Rd w h2 v2 n f) :
    Calls Try.prog 8 #[v1, v2] w fun e w' => e = .returned (.bool true) ∧ Below w.heap.size w w' := by
  obtain ⟨ao, cap, rfl, hm, hc⟩ := r1
  obtain ⟨ao2, cap2, rfl, _, hc2⟩ := r2
  unfold maxLen at hm
  go_enter Try.func8, Try.ntmps8
  go_wp2
  go_loopw [5] (fun i wr => ∃ k : Nat, k ≤ n ∧ i = .int .i64 k ∧ ∃ m, wr = w.drewN m) (fun i _ => n - (intOf i).toNat)
  case atStart => exact ⟨0, Nat.zero_le _, rfl, 0, rfl⟩
  case round =>
    obtain ⟨k, hk, rfl, m, rfl⟩ := hrel
    by_cases hlt : k < n
    · obtain ⟨b, off, rfl, hblt, hcell⟩ := hc (by omega)
      obtain ⟨b2, off2, rfl, hblt2, hcell2⟩ := hc2 (by omega)
      have hck : w.cell? ⟨b, off + k, none⟩ = some (.int .u8 (f k)) := hcell k hlt
      have hck2 : w.cell? ⟨b2, off2 + k, none⟩ = some (.int .u8 (f k)) := hcell2 k hlt
      clear hc hc2 hcell hcell2
      go_wp2
      go_quiet (fail)
      go_wp2
      go_roundw
      case rel => exact ⟨k + 1, by omega, by go_num, _, rfl⟩
      case measure => simp [intOf]; omega
    · have hkn : k = n := by omega
      subst hkn
      go_wp2
      go_ret
      exact ⟨rfl, below_drewN (Below.refl _ _) _⟩

theorem fieldB0H (a : Int) (v : Value) (w : World) : (Instr.field 26 (.agg #[.int .i64 a, v]) 0).run Try.prog w = .ok (.int .i64 a) w := by kernel_rfl
/-- what BytesOfHex tells of a text -/
theorem boh_code (b : ByteArray) (hb : b.size ≤ 1000) : (∃ c : Int, (c = 2 ∨ c = 5) ∧ (∀ w, Calls Try.prog 10 #[.string b] w fun e w' => e = .returned (bytesR c (.slice none 0 0)) ∧ Below w.heap.size w w') ∧ (∀ w, Calls Try.prog 6 #[.string b] w fun e w' => ∃ ao cap, e = .returned (bytesR c (.slice ao 0 cap)) ∧ Below w.heap.size w w')) ∨
    (b.size % 2 = 0 ∧ AllD b b.size ∧ b.size ≤ 80 ∧ (∀ w, Calls Try.prog 6 #[.string b] w fun e w' => ∃ ao cap, e = .returned (bytesR 0 (.slice ao (b.size / 2) cap)) ∧ Own w' w.heap.size w'.heap.size (.slice ao (b.size / 2) cap) (b.size / 2) (hexV b) ∧ Below w.heap.size w w')) := by
  by_cases h : 80 < b.size
  · refine .inl ⟨2, .inl rfl, fun w => specBoh_many0 b h (by omega) w, fun w => (implBoh_many b h (by omega) (fun _ => 0) w).mono ?_⟩
    · rintro e w' ⟨v', rfl, o, k⟩
      obtain ⟨ao, cap, rfl⟩ := o.slice
      exact ⟨ao, cap, rfl, k⟩
  · rcases Nat.mod_two_eq_zero_or_one b.size with ho | ho
    · by_cases hA : AllD b b.size
      · refine .inr ⟨ho, hA, by omega, fun w => (implBoh_even b (by omega) ho w).mono ?_⟩
        rintro e w' (⟨_, v', rfl, o, k⟩ | ⟨hn, _⟩)
        · obtain ⟨ao, cap, rfl⟩ := o.slice
          exact ⟨ao, cap, rfl, o, k⟩
        · exact absurd hA hn
      · refine .inl ⟨5, .inr rfl, fun w => (specBoh_even0 b (by omega) ho w).mono ?_, fun w => (implBoh_even b (by omega) ho w).mono ?_⟩
        · rintro e w' (⟨hy, _⟩ | ⟨_, rfl, k⟩)
          · exact absurd hy hA
          · exact ⟨rfl, k⟩
        · rintro e w' (⟨hy, _⟩ | ⟨_, v', rfl, o, k⟩)
          · exact absurd hy hA
          · obtain ⟨ao, cap, rfl⟩ := o.slice
            exact ⟨ao, cap, rfl, k⟩
    · refine .inl ⟨5, .inr rfl, fun w => specBoh_odd0 b (by omega) ho w, fun w => (implBoh_odd b (by omega) ho (fun _ => 0) w).mono ?_⟩
      · rintro e w' ⟨v', rfl, o, k⟩
        obtain ⟨ao, cap, rfl⟩ := o.slice
        exact ⟨ao, cap, rfl, k⟩

set_option maxHeartbeats 16000000 in
theorem fnHexes_core (v : Value) (n0 : Nat) (f0 : Nat → Nat) (k0 : ∀ i, f0 i < 256) (w : World) (r0 : Rd w w.heap.size v n0 f0) :
    Calls Try.prog 3 #[v] w fun e w' => e = .returned (.bool true) ∧ Below w.heap.size w w' := by
  by_cases hbig : 1048576 < n0
  · go_enter Try.func3, Try.ntmps3
    go_wp2_with fail
    refine (lwBig_yes _ n0 f0 _ _ r0 hbig).mono ?_
    rintro e w1 ⟨rfl, hw1⟩
    obtain rfl := hw1.symm
    go_wp2
    go_ret
    exact ⟨rfl, Below.refl _ _⟩
  go_enter Try.func3, Try.ntmps3
  go_wp2_with fail
  refine (lwBig_no _ n0 f0 _ _ r0 (by omega)).mono ?_
  rintro e w1 ⟨rfl, hw1⟩
  obtain rfl := hw1.symm
  go_wp2_with fail
  refine (drawHex_any _ n0 f0 _ r0 k0 (by omega)).mono ?_
  rintro e w1 ⟨vb, m, g, rfl, hm8, ob, kg, b1⟩
  obtain ⟨aob, capb, rfl⟩ := ob.slice
  have HOB : Hid (Rd w1 w1.heap.size (.slice aob m capb) m g) := ob.rd
  have HB1 : Hid (Below w.heap.size w w1) := b1
  have HR0 : Hid (Rd w1 w1.heap.size v n0 f0) := (r0.below b1 (Nat.le_refl _)).mono b1.size
  clear r0 ob b1
  go_wp2_with fail
  refine (implHex_any _ m g _ _ HOB.out (Nat.le_refl _) (fun i _ => kg i) (by omega)).mono ?_
  rintro e w2 ⟨rfl, b2⟩
  have CB : ∀ w', Calls Try.prog 6 #[.string (hexS g m)] w' fun e w'' => ∃ ao cap, e = .returned (bytesR 0 (.slice ao m cap)) ∧ Rd w'' w''.heap.size (.slice ao m cap) m g ∧ Below w'.heap.size w' w'' := fun w' => by
    have hsz := hexS_size g m
    have hA := allD_hexS g m (fun i _ => kg i)
    refine (implBoh_even (hexS g m) (by omega) (by omega) w').mono ?_
    rintro e w'' (⟨_, v', rfl, o, k⟩ | ⟨hn, _⟩)
    · rw [show (hexS g m).size / 2 = m by omega] at o
      have o2 := o.congr (g := g) (fun i hi => hexV_hexS g m i hi (kg i))
      obtain ⟨ao, cap, rfl⟩ := o2.slice
      exact ⟨ao, cap, rfl, o2.rd, k⟩
    · exact absurd hA hn
  have HB2 : Hid (Below w.heap.size w w2) := HB1.out.trans (b2.mono HB1.out.size)
  have HOB2 : Hid (Rd w2 w2.heap.size (.slice aob m capb) m g) := (HOB.out.below b2 (Nat.le_refl _)).mono b2.size
  have HR2 : Hid (Rd w2 w2.heap.size v n0 f0) := (HR0.out.below b2 (Nat.le_refl _)).mono b2.size
  clear HOB HB1 HR0 b2
  go_wp2_with fail
  refine (CB _).mono ?_
  rintro e w3 ⟨ao3, cap3, rfl, o3, b3⟩
  unfold bytesR
  have ba : Below w3.heap.size w3 (w3.alloc (.cells #[.int .i64 0, .slice ao3 m cap3] 26)) := (Below.refl _ _).alloc (Nat.le_refl _) _
  have X3 := box_new w3 #[.int .i64 0, .slice ao3 m cap3] 26
  have z3 := X3.lt
  have R3 : Rd _ w3.heap.size (.slice ao3 m cap3) m g := o3.below ba (Nat.le_refl _)
  have bb3 := b3.trans (ba.mono b3.size)
  have HB3 : Hid (Below w.heap.size w (w3.alloc (.cells #[.int .i64 0, .slice ao3 m cap3] 26))) := HB2.out.trans (bb3.mono HB2.out.size)
  have HOB3 : Hid (Rd (w3.alloc (.cells #[.int .i64 0, .slice ao3 m cap3] 26)) w3.heap.size (.slice aob m capb) m g) := (HOB2.out.below bb3 (Nat.le_refl _)).mono b3.size
  have HR3 : Hid (Rd (w3.alloc (.cells #[.int .i64 0, .slice ao3 m cap3] 26)) w3.heap.size v n0 f0) := (HR2.out.below bb3 (Nat.le_refl _)).mono b3.size
  have HRR : Hid (Rd (w3.alloc (.cells #[.int .i64 0, .slice ao3 m cap3] 26)) w3.heap.size (.slice ao3 m cap3) m g) := R3
  have HX : Hid (Box (w3.alloc (.cells #[.int .i64 0, .slice ao3 m cap3] 26)) w3.heap.size #[.int .i64 0, .slice ao3 m cap3] 26) := X3
  clear CB HB2 HOB2 HR2 o3 b3 ba bb3 X3 R3
  go_wp2_with fail
  generalize hW : w3.alloc (.cells #[.int .i64 0, .slice ao3 m cap3] 26) = W at *
  clear hW
  refine (lwBytes_same _ _ m g w3.heap.size w3.heap.size _ HRR.out HOB3.out).mono ?_
  rintro e w4 ⟨rfl, b4⟩
  have HB4 : Hid (Below w.heap.size w w4) := HB3.out.trans (b4.mono HB3.out.size)
  have HOB4 : Hid (Rd w4 w3.heap.size (.slice aob m capb) m g) := HOB3.out.below b4 (Nat.le_of_lt z3)
  have HR4 : Hid (Rd w4 w4.heap.size v n0 f0) := (HR3.out.below b4 (Nat.le_of_lt z3)).mono (Nat.le_trans (Nat.le_of_lt z3) b4.size)
  have hle : w3.heap.size ≤ w4.heap.size := Nat.le_trans (Nat.le_of_lt z3) b4.size
  clear HB3 HOB3 HR3 HRR HX b4
  go_wp2_with fail
  refine (implHex_any _ m g _ _ HOB4.out hle (fun i _ => kg i) (by omega)).mono ?_
  rintro e w5 ⟨rfl, b5⟩
  have HB5 : Hid (Below w.heap.size w w5) := HB4.out.trans (b5.mono HB4.out.size)
  have HR5 : Hid (Rd w5 w5.heap.size v n0 f0) := (HR4.out.below b5 (Nat.le_refl _)).mono b5.size
  have hsz := hexS_size g m
  obtain ⟨B, hB⟩ : ∃ B, B = hexS g m := ⟨_, rfl⟩
  rw [← hB] at hsz ⊢
  clear hB HB4 HOB4 HR4 b5 kg
  have tz : ((B.size : Nat) : Int) = 2 * (m : Int) := by omega
  clear hsz
  go_wp2_with fail
  refine (drawBoh_any _ n0 f0 _ HR5.out k0 (by omega)).mono ?_
  rintro e w6 ⟨t, rfl, ht, b6⟩
  have HB6 : Hid (Below w.heap.size w w6) := HB5.out.trans (b6.mono HB5.out.size)
  clear HB5 HR5 b6 tz
  rcases boh_code t ht with ⟨c, hc, CS, CI⟩ | ⟨ho, hA, h80, CI⟩
  · rcases hc with rfl | rfl
    · go_wp2_with fail
      refine (CI _).mono ?_
      rintro e w7 ⟨ao7, cap7, rfl, b7⟩
      unfold bytesR
      have ba : Below w7.heap.size w7 (w7.alloc (.cells #[.int .i64 2, .slice ao7 0 cap7] 26)) := (Below.refl _ _).alloc (Nat.le_refl _) _
      have X7 := box_new w7 #[.int .i64 2, .slice ao7 0 cap7] 26
      have HB7 : Hid (Below w.heap.size w (w7.alloc (.cells #[.int .i64 2, .slice ao7 0 cap7] 26))) := HB6.out.trans ((b7.trans (ba.mono b7.size)).mono HB6.out.size)
      clear CI b7 ba HB6
      go_wp2_with fail
      generalize hW : w7.alloc (.cells #[.int .i64 2, .slice ao7 0 cap7] 26) = W7 at *
      clear hW
      obtain ⟨x0, x1, -, -⟩ := res_cells X7
      have kx0 := cell_regrown x0
      have cS := q_below (W := W7) (fun w' _ => CS w')
      unfold bytesR at cS
      have FB := fieldB0H 2
      clear X7 CS
      refine WQ.region (by kernel_rfl) (by kernel_rfl) ?_
      repeat (first | (apply WQ.skip; (case hw => rfl); intro K hK; go_simp; apply hK; clear hK K) | (apply WQ.want; (case hw => rfl); intro K hK; go_simp; first | (apply hK; clear hK K) | (apply Exists.intro; apply And.intro; (case left => intro p; (first | (go_at_call 10; exact cS _ _))); apply hK; clear hK K)))
      refine WQ.nil ?_
      intro w8 hw8
      have HB8 : Hid (Below w.heap.size w w8) := HB7.out.trans ((below_rg hw8).mono HB7.out.size)
      clear hw8 cS
      go_wp2
      go_ret
      exact ⟨rfl, HB8.out⟩
    · go_wp2_with fail
      refine (CI _).mono ?_
      rintro e w7 ⟨ao7, cap7, rfl, b7⟩
      unfold bytesR
      have ba : Below w7.heap.size w7 (w7.alloc (.cells #[.int .i64 5, .slice ao7 0 cap7] 26)) := (Below.refl _ _).alloc (Nat.le_refl _) _
      have X7 := box_new w7 #[.int .i64 5, .slice ao7 0 cap7] 26
      have HB7 : Hid (Below w.heap.size w (w7.alloc (.cells #[.int .i64 5, .slice ao7 0 cap7] 26))) := HB6.out.trans ((b7.trans (ba.mono b7.size)).mono HB6.out.size)
      clear CI b7 ba HB6
      go_wp2_with fail
      generalize hW : w7.alloc (.cells #[.int .i64 5, .slice ao7 0 cap7] 26) = W7 at *
      clear hW
      obtain ⟨x0, x1, -, -⟩ := res_cells X7
      have kx0 := cell_regrown x0
      have cS := q_below (W := W7) (fun w' _ => CS w')
      unfold bytesR at cS
      have FB := fieldB0H 5
      clear X7 CS
      refine WQ.region (by kernel_rfl) (by kernel_rfl) ?_
      repeat (first | (apply WQ.skip; (case hw => rfl); intro K hK; go_simp; apply hK; clear hK K) | (apply WQ.want; (case hw => rfl); intro K hK; go_simp; first | (apply hK; clear hK K) | (apply Exists.intro; apply And.intro; (case left => intro p; (first | (go_at_call 10; exact cS _ _))); apply hK; clear hK K)))
      refine WQ.nil ?_
      intro w8 hw8
      have HB8 : Hid (Below w.heap.size w w8) := HB7.out.trans ((below_rg hw8).mono HB7.out.size)
      clear hw8 cS
      go_wp2
      go_ret
      exact ⟨rfl, HB8.out⟩
  · go_wp2_with fail
    refine (CI _).mono ?_
    rintro e w7 ⟨ao7, cap7, rfl, o7, b7⟩
    unfold bytesR
    have hback := hexS_hexV t ho hA
    obtain ⟨N, hN⟩ : ∃ N, N = t.size / 2 := ⟨_, rfl⟩
    rw [← hN] at o7 hback ⊢
    have hN40 : N ≤ 500 := by omega
    have hlt : ∀ i, i < N → hexV t i < 256 := fun i hi => by
      have h1 := hA (2 * i) (by omega)
      have h2 := hA (2 * i + 1) (by omega)
      unfold hexV
      omega
    clear hN
    have ba : Below w7.heap.size w7 (w7.alloc (.cells #[.int .i64 0, .slice ao7 N cap7] 26)) := (Below.refl _ _).alloc (Nat.le_refl _) _
    have X7 := box_new w7 #[.int .i64 0, .slice ao7 N cap7] 26
    have R7 : Rd _ w7.heap.size (.slice ao7 N cap7) N (hexV t) := o7.rd.below ba (Nat.le_refl _)
    have HB7 : Hid (Below w.heap.size w (w7.alloc (.cells #[.int .i64 0, .slice ao7 N cap7] 26))) := HB6.out.trans ((b7.trans (ba.mono b7.size)).mono HB6.out.size)
    clear CI b7 HB6 o7
    go_wp2_with fail
    have sz7 := ba.size
    generalize hW : w7.alloc (.cells #[.int .i64 0, .slice ao7 N cap7] 26) = W7 at *
    clear hW ba
    obtain ⟨x0, x1, -, -⟩ := res_cells X7
    have kx0 := cell_regrown x0
    have kx1 := cell_regrown x1
    have cS := q_below (W := W7) (fun w' hw' => implHex_any (.slice ao7 N cap7) N (hexV t) w7.heap.size w' (R7.below hw' sz7) (Nat.le_trans sz7 hw'.size) hlt (by omega))
    rw [hback] at cS
    clear X7 hback R7 hlt hA
    refine WQ.region (by kernel_rfl) (by kernel_rfl) ?_
    repeat (first | (apply WQ.skip; (case hw => rfl); intro K hK; go_simp; apply hK; clear hK K) | (apply WQ.want; (case hw => rfl); intro K hK; go_simp; first | (apply hK; clear hK K) | (apply Exists.intro; apply And.intro; (case left => intro p; (first | (go_at_call 7; exact cS _ _))); apply hK; clear hK K)))
    refine WQ.nil ?_
    intro w8 hw8
    have HB8 : Hid (Below w.heap.size w w8) := HB7.out.trans ((below_rg hw8).mono HB7.out.size)
    clear hw8 cS
    go_wp2
    go_ret
    exact ⟨rfl, HB8.out⟩
end Go.Proofs.Ytnjgpbnlkbcblaa

namespace Go.Proofs.Ytnjgpbnlkbcblaa
open Go.ChangeShapes Go.WideShapes Go.ChangeAt Go.RowKit F256
set_option linter.unusedVariables false

theorem fnHexes_walk (a0 : Option Addr) (n0 c0 : Nat) (z0 : List Int) (w : World) (q0 : IsRow w a0 n0 c0 z0) :
    Calls Try.prog 3 #[.slice a0 n0 c0] w fun e w' => e = .returned (.bool true) ∧ Below w.heap.size w w' := by
  obtain ⟨f0, k0, r0⟩ := q0.rd
  exact fnHexes_core _ n0 f0 k0 w r0

set_option maxRecDepth 100000 in
theorem fnHexes_lifted (os : Os) (started : os.Started) (H : Type) (enc : TypeId × Value → H) :
    ReturnsInHanded {} Try.checked os 3 .any (Rows.fnHexesSpec.pre6 enc Try.prog Try.f3 Rows.fnHexesRow.domain false) (Rows.fnHexesSpec.post enc Try.prog Try.f3 false true false false) := by
  refine returnsInHanded_of_change (C := Try.checked) frame_own started (by kernel_rfl) Try.func3
    (ChangeSpec.witness6 (enc := enc) (C := Try.checked) false ⟨#[], #[.slice none 0 0], []⟩ 8 (by kernel_rfl) (by kernel_rfl) (by kernel_rfl) (by kernel_rfl)) ?_
  intro W base args ds gs before hval0 hW hcnd _
  have hval : ∀ (j : Nat) t v, Try.f3.params[j]? = some t → args[j]? = some v → Value.okWide Try.prog W .any base t v := hval0
  have hW' := hW
  obtain ⟨p, q, hA0, hV, rfl, hfz, hnd⟩ := hW
  have hA : DataW.TrodAll enc Try.prog W 0 (fun _ => true) true Try.f3.params.toList args.toList ds p := hA0
  rw [Try.params3] at hA hval
  obtain ⟨v0, vs0, d0, ds0, p0, q0, hargs, rfl, rfl, h0, r0⟩ := trodAll_cons hA
  obtain ⟨rfl, rfl, rfl⟩ := trodAll_nil r0
  obtain rfl : args = #[v0] := by cases args; simp_all
  obtain ⟨rfl, rfl⟩ := trodVars_none hV
  obtain ⟨a0, len0, cap0, rfl⟩ := okWide_slice Try.underlying22 (hval 0 22 v0 rfl rfl)
  have k0 := h0
  have lt0 : ∀ x ∈ p0, x.block < W.heap.size := by obtain ⟨m, hm⟩ := k0; exact DataW.trod_lt m _ _ _ hm
  obtain ⟨z0, w0⟩ : ∃ zs, IsRow W a0 len0 cap0 zs := row_of_trod Try.underlying22 Try.underlying5 (by kernel_rfl) h0
  clear hA0 hval0
  refine (fnHexes_walk a0 len0 cap0 z0 W w0).mono fun e W' ⟨he, bel⟩ => ?_
  subst he
  exact ⟨_, rfl, _, _, _, [], _, [], hW', trodAll_mk1 (shut_bool Try.underlying4 _), (trodAll_cons_mk (Below.trod frame_laid (by kernel_rfl) (of_decide_eq_true (by kernel_rfl)) k0 bel lt0) trodAll_mk0), rfl, bel.frame _, fun h => by cases h⟩

theorem fnHexes_proved : Rows.FnHexesSaid :=
  OpenClaim.holds_of_wide 3 Try.f3 rfl rfl rfl rfl rfl rfl rfl ⟨rfl, rfl, rfl, rfl, rfl⟩ rfl rfl rfl rfl rfl (by kernel_rfl) Try.func3 (by kernel_rfl)
    (of_decide_eq_true (by kernel_rfl)) (by unfold Func.isWrapper; first | (rw [if_pos (by decide +kernel)]; kernel_rfl) | (rw [if_neg (by decide +kernel)]; exact ⟨rfl, rfl⟩))
    (fun os started H enc _ => fnHexes_lifted os started H enc)
#print axioms fnHexes_proved
end Go.Proofs.Ytnjgpbnlkbcblaa
