/- In a code of few places any so many places as there are data places tell all: checked case by case, each by an inverse that is written out. No Go in sight. -/
import Derived.Test.YtgpglgchbimmaaaGaussF
namespace Go.Proofs.Ytgpglgchbimmaaa
open F256
set_option linter.unusedSimpArgs false

/-- how the place p of a code with n data places comes of these -/
def genN (n p base : Nat) : Nat → Nat := fun i => if n ≤ p then powN ((128 + (base + p - n)) ^^^ i) 254 else if i = p then 1 else 0
theorem genN_lt (n p base i : Nat) : genN n p base i < 256 := by
  unfold genN
  split
  · exact powN_lt _
  · split <;> omega
/-- how the data places go into the places hv -/
def wtM (n base : Nat) (hv : Nat → Nat) : Mat := fun i k => genN n (hv k) base i
theorem wtM_byt (n base : Nat) (hv : Nat → Nat) : Byt (wtM n base hv) := fun i k => genN_lt n (hv k) base i
/-- the rows with their right bytes behind -/
def aug (R : Nat) (f : Mat) (c : Nat → Nat) : Mat := fun i j => if j < R then f i j else c i
theorem aug_byt {R : Nat} {f : Mat} {c : Nat → Nat} (hf : Byt f) (hc : ∀ i, c i < 256) : Byt (aug R f c) := fun i j => by
  unfold aug
  split
  · exact hf i j
  · exact hc i
theorem inv_eq {x y : Nat} (hx : x < 256) (hy : y < 256) (h0 : x ≠ 0) (h : mulN x y = 1) : powN x 254 = y := by
  have h1 : mulN (powN x 254) x = 1 := invN_mul hx h0
  have h2 := mulN_assoc (a := powN x 254) (powN_lt _) hx hy
  rw [h1, h, one_mulN hy, mulN_one (powN_lt _)] at h2
  exact h2.symm
/-- the inverses of the sums of 128 + base + j and i -/
def tabC (t : List (List Nat)) (j i : Nat) : Nat := (t.getD j []).getD i 0
def goodT (base : Nat) (t : List (List Nat)) : Bool := (List.range 2).all fun j => (List.range 4).all fun i => decide (tabC t j i < 256) && decide ((128 + (base + j)) ^^^ i ≠ 0) && decide (mulN ((128 + (base + j)) ^^^ i) (tabC t j i) = 1)
theorem tabC_is {base : Nat} {t : List (List Nat)} (hb : base ≤ 64) (h : goodT base t = true) (j i : Nat) (hj : j < 2) (hi : i < 4) : powN ((128 + (base + j)) ^^^ i) 254 = tabC t j i := by
  have h1 := List.all_eq_true.1 h j (List.mem_range.2 hj)
  have h2 := List.all_eq_true.1 h1 i (List.mem_range.2 hi)
  simp only [Bool.and_eq_true, decide_eq_true_eq] at h2
  exact inv_eq (xor_lt (by omega) (by omega)) h2.1.1 h2.1.2 h2.2
def genT (t : List (List Nat)) (n p i : Nat) : Nat := if n ≤ p then tabC t (p - n) i else if i = p then 1 else 0
theorem genT_is {base : Nat} {t : List (List Nat)} (hb : base ≤ 64) (h : goodT base t = true) (n p i : Nat) (hp : p < n + 2) (hi : i < 4) : genN n p base i = genT t n p i := by
  unfold genN genT
  by_cases c : n ≤ p
  · rw [if_pos c, if_pos c, ← tabC_is hb h (p - n) i (by omega) hi, show base + p - n = base + (p - n) by omega]
  · rw [if_neg c, if_neg c]
def dotL (r x : Nat → Nat) (n : Nat) : Nat := (List.range n).foldl (fun a k => a ^^^ mulN (r k) (x k)) 0
theorem dotL_is (r x : Nat → Nat) : ∀ n, dotL r x n = dotN r x n
  | 0 => rfl
  | n + 1 => by
    have := dotL_is r x n
    unfold dotL at this ⊢
    rw [List.range_succ, List.foldl_append, this]
    rfl
/-- B is a left inverse of the places hs -/
def chkB (t : List (List Nat)) (n : Nat) (hs : List Nat) (B : List (List Nat)) : Bool :=
  (List.range n).all fun i => (List.range n).all fun j => decide (dotL (fun k => (B.getD i []).getD k 0) (fun k => genT t n (hs.getD j 0) k) n = if i = j then 1 else 0)
theorem all_range {p : Nat → Bool} {n : Nat} (h : (List.range n).all p = true) (i : Nat) (hi : i < n) : p i = true := List.all_eq_true.1 h i (List.mem_range.2 hi)
theorem getD_lt (l : List Nat) (h : l.all (fun x => decide (x < 256)) = true) (k : Nat) : l.getD k 0 < 256 := by
  induction l generalizing k with
  | nil => simp
  | cons a l ih =>
    simp only [List.all_cons, Bool.and_eq_true, decide_eq_true_eq] at h
    cases k with
    | zero => exact h.1
    | succ k => exact ih h.2 k
theorem getD_all (B : List (List Nat)) (h : B.all (fun r => r.all fun x => decide (x < 256)) = true) (i : Nat) : (B.getD i []).all (fun x => decide (x < 256)) = true := by
  induction B generalizing i with
  | nil => rfl
  | cons a l ih =>
    simp only [List.all_cons, Bool.and_eq_true] at h
    cases i with
    | zero => exact h.1
    | succ k => exact ih h.2 k
theorem full_case {base : Nat} {t : List (List Nat)} (hb : base ≤ 64) (ht : goodT base t = true) (n : Nat) (hn : n ≤ 4) (hs : List Nat) (B : List (List Nat)) (hB : B.all (fun r => r.all fun x => decide (x < 256)) = true) (hk : chkB t n hs B = true) (hv : Nat → Nat) (c : Nat → Nat)
    (hh : ∀ j, j < n → hv j = hs.getD j 0 ∧ hv j < n + 2) : (gaussM n (aug n (wtM n base hv) c) n).2 = n := by
  have hsame : Same n (aug n (wtM n base hv) c) (aug n (wtM n base hv) fun _ => 0) := fun i j hj => by simp [aug, hj]
  rw [(gaussM_same (R := n) hsame n (Nat.le_refl _)).2]
  have kA : Byt (aug n (wtM n base hv) fun _ => 0) := aug_byt (wtM_byt n base hv) (fun _ => by show (0 : Nat) < 256; omega)
  have kB : Byt fun i k => (B.getD i []).getD k 0 := fun i k => getD_lt _ (getD_all B hB i) k
  refine full_of_inv kA kB (fun i => by simp [aug]) fun i j hi hj => ?_
  have q1 := List.all_eq_true.1 hk i (List.mem_range.2 hi)
  have q2 := List.all_eq_true.1 q1 j (List.mem_range.2 hj)
  simp only [decide_eq_true_eq] at q2
  rw [dotL_is] at q2
  show dotN _ (fun k => aug n (wtM n base hv) (fun _ => 0) k j) n = _
  rw [← q2]
  have : ∀ m, m ≤ n → dotN (fun k => (B.getD i []).getD k 0) (fun k => aug n (wtM n base hv) (fun _ => 0) k j) m = dotN (fun k => (B.getD i []).getD k 0) (fun k => genT t n (hs.getD j 0) k) m := by
    intro m
    induction m with
    | zero => intro _; rfl
    | succ m ih =>
      intro hm
      rw [dotN, dotN, ih (by omega)]
      have e1 : aug n (wtM n base hv) (fun _ => 0) m j = genT t n (hs.getD j 0) m := by
        obtain ⟨a1, a2⟩ := hh j hj
        simp only [aug, if_pos hj, wtM]
        rw [genT_is hb ht n (hv j) m a2 (by omega), a1]
      rw [e1]
  exact this n (Nat.le_refl _)
def rowT : List (List Nat) := [[27, 84, 161, 29], [84, 27, 29, 161]]
theorem rowT_good : goodT 0 rowT = true := by decide +kernel
def rowE1 : List (List Nat × List (List Nat)) := [([0], [[1]]), ([1], [[128]]), ([2], [[129]])]
theorem rowE1_good : rowE1.all (fun e => e.2.all (fun r => r.all fun x => decide (x < 256)) && chkB rowT 1 e.1 e.2) = true := by decide +kernel
theorem rowE1_all : (List.range 3).all (fun a => rowE1.any fun e => e.1 == [a]) = true := by decide +kernel
def rowE2 : List (List Nat × List (List Nat)) := [([0, 1], [[1, 0], [0, 1]]), ([0, 2], [[1, 26], [0, 129]]), ([0, 3], [[1, 85], [0, 128]]), ([1, 2], [[85, 1], [128, 0]]), ([1, 3], [[26, 1], [129, 0]]), ([2, 3], [[245, 102], [102, 245]])]
theorem rowE2_good : rowE2.all (fun e => e.2.all (fun r => r.all fun x => decide (x < 256)) && chkB rowT 2 e.1 e.2) = true := by decide +kernel
theorem rowE2_all : (List.range 4).all (fun a => (List.range 4).all (fun b => !(decide (a < b)) || rowE2.any fun e => e.1 == [a, b])) = true := by decide +kernel
def rowE3 : List (List Nat × List (List Nat)) := [([0, 1, 2], [[1, 0, 0], [0, 1, 0], [0, 0, 1]]), ([0, 1, 3], [[1, 0, 55], [0, 1, 253], [0, 0, 130]]), ([0, 1, 4], [[1, 0, 169], [0, 1, 44], [0, 0, 131]]), ([0, 2, 3], [[1, 26, 0], [0, 255, 1], [0, 129, 0]]), ([0, 2, 4], [[1, 85, 0], [0, 38, 1], [0, 128, 0]]), ([0, 3, 4], [[1, 245, 106], [0, 192, 76], [0, 177, 63]]), ([1, 2, 3], [[85, 1, 0], [94, 0, 1], [128, 0, 0]]), ([1, 2, 4], [[26, 1, 0], [59, 0, 1], [129, 0, 0]]), ([1, 3, 4], [[143, 1, 95], [160, 0, 174], [103, 0, 106]]), ([2, 3, 4], [[239, 65, 1], [245, 102, 0], [102, 245, 0]])]
theorem rowE3_good : rowE3.all (fun e => e.2.all (fun r => r.all fun x => decide (x < 256)) && chkB rowT 3 e.1 e.2) = true := by decide +kernel
theorem rowE3_all : (List.range 5).all (fun a => (List.range 5).all (fun b => (List.range 5).all (fun c => !(decide (a < b) && decide (b < c)) || rowE3.any fun e => e.1 == [a, b, c]))) = true := by decide +kernel
/-- any n places of a code with n data places and two more tell all -/
theorem row_full (n : Nat) (h1 : 1 ≤ n) (h2 : n ≤ 3) (hv c : Nat → Nat) (hlt : ∀ j, j < n → hv j < n + 2) (hr : ∀ j, j + 1 < n → hv j < hv (j + 1)) : (gaussM n (aug n (wtM n 0 hv) c) n).2 = n := by
  rcases (by omega : n = 1 ∨ n = 2 ∨ n = 3) with rfl | rfl | rfl
  · have q := (all_range rowE1_all (hv 0) (hlt 0 (by omega)))
    obtain ⟨e, he, heq⟩ := List.any_eq_true.1 q
    have hg := List.all_eq_true.1 rowE1_good e he
    simp only [Bool.and_eq_true] at hg
    have hq : e.1 = [hv 0] := by simpa using heq
    refine full_case (by omega) rowT_good 1 (by omega) e.1 e.2 hg.1 hg.2 hv c fun j hj => ⟨?_, hlt j hj⟩
    rw [hq]
    obtain rfl : j = 0 := by omega
    rfl
  · have q := (all_range (all_range rowE2_all (hv 0) (hlt 0 (by omega))) (hv 1) (hlt 1 (by omega)))
    rw [decide_eq_true (hr 0 (by omega))] at q
    simp only [Bool.and_self, Bool.not_true, Bool.false_or] at q
    obtain ⟨e, he, heq⟩ := List.any_eq_true.1 q
    have hg := List.all_eq_true.1 rowE2_good e he
    simp only [Bool.and_eq_true] at hg
    have hq : e.1 = [hv 0, hv 1] := by simpa using heq
    refine full_case (by omega) rowT_good 2 (by omega) e.1 e.2 hg.1 hg.2 hv c fun j hj => ⟨?_, hlt j hj⟩
    rw [hq]
    rcases (by omega : j = 0 ∨ j = 1) with rfl | rfl <;> rfl
  · have q := (all_range (all_range (all_range rowE3_all (hv 0) (hlt 0 (by omega))) (hv 1) (hlt 1 (by omega))) (hv 2) (hlt 2 (by omega)))
    rw [decide_eq_true (hr 0 (by omega)), decide_eq_true (hr 1 (by omega))] at q
    simp only [Bool.and_self, Bool.not_true, Bool.false_or] at q
    obtain ⟨e, he, heq⟩ := List.any_eq_true.1 q
    have hg := List.all_eq_true.1 rowE3_good e he
    simp only [Bool.and_eq_true] at hg
    have hq : e.1 = [hv 0, hv 1, hv 2] := by simpa using heq
    refine full_case (by omega) rowT_good 3 (by omega) e.1 e.2 hg.1 hg.2 hv c fun j hj => ⟨?_, hlt j hj⟩
    rw [hq]
    rcases (by omega : j = 0 ∨ j = 1 ∨ j = 2) with rfl | rfl | rfl <;> rfl
def colT : List (List Nat) := [[73, 49, 39, 45], [49, 73, 45, 39]]
theorem colT_good : goodT 8 colT = true := by decide +kernel
def colE1 : List (List Nat × List (List Nat)) := [([0], [[1]]), ([1], [[136]]), ([2], [[137]])]
theorem colE1_good : colE1.all (fun e => e.2.all (fun r => r.all fun x => decide (x < 256)) && chkB colT 1 e.1 e.2) = true := by decide +kernel
theorem colE1_all : (List.range 3).all (fun a => colE1.any fun e => e.1 == [a]) = true := by decide +kernel
def colE2 : List (List Nat × List (List Nat)) := [([0, 1], [[1, 0], [0, 1]]), ([0, 2], [[1, 72], [0, 137]]), ([0, 3], [[1, 48], [0, 136]]), ([1, 2], [[48, 1], [136, 0]]), ([1, 3], [[72, 1], [137, 0]]), ([2, 3], [[216, 3], [3, 216]])]
theorem colE2_good : colE2.all (fun e => e.2.all (fun r => r.all fun x => decide (x < 256)) && chkB colT 2 e.1 e.2) = true := by decide +kernel
theorem colE2_all : (List.range 4).all (fun a => (List.range 4).all (fun b => !(decide (a < b)) || colE2.any fun e => e.1 == [a, b])) = true := by decide +kernel
def colE3 : List (List Nat × List (List Nat)) := [([0, 1, 2], [[1, 0, 0], [0, 1, 0], [0, 0, 1]]), ([0, 1, 3], [[1, 0, 147], [0, 1, 82], [0, 0, 138]]), ([0, 1, 4], [[1, 0, 99], [0, 1, 218], [0, 0, 139]]), ([0, 2, 3], [[1, 72, 0], [0, 104, 1], [0, 137, 0]]), ([0, 2, 4], [[1, 48, 0], [0, 118, 1], [0, 136, 0]]), ([0, 3, 4], [[1, 245, 4], [0, 147, 71], [0, 218, 12]]), ([1, 2, 3], [[48, 1, 0], [79, 0, 1], [136, 0, 0]]), ([1, 2, 4], [[72, 1, 0], [91, 0, 1], [137, 0, 0]]), ([1, 3, 4], [[143, 1, 6], [84, 0, 10], [183, 0, 234]]), ([2, 3, 4], [[71, 122, 1], [216, 3, 0], [3, 216, 0]])]
theorem colE3_good : colE3.all (fun e => e.2.all (fun r => r.all fun x => decide (x < 256)) && chkB colT 3 e.1 e.2) = true := by decide +kernel
theorem colE3_all : (List.range 5).all (fun a => (List.range 5).all (fun b => (List.range 5).all (fun c => !(decide (a < b) && decide (b < c)) || colE3.any fun e => e.1 == [a, b, c]))) = true := by decide +kernel
def colE4 : List (List Nat × List (List Nat)) := [([0, 1, 2, 3], [[1, 0, 0, 0], [0, 1, 0, 0], [0, 0, 1, 0], [0, 0, 0, 1]]), ([0, 1, 2, 4], [[1, 0, 0, 218], [0, 1, 0, 99], [0, 0, 1, 38], [0, 0, 0, 139]]), ([0, 1, 2, 5], [[1, 0, 0, 82], [0, 1, 0, 147], [0, 0, 1, 44], [0, 0, 0, 138]]), ([0, 1, 3, 4], [[1, 0, 147, 0], [0, 1, 82, 0], [0, 0, 44, 1], [0, 0, 138, 0]]), ([0, 1, 3, 5], [[1, 0, 99, 0], [0, 1, 218, 0], [0, 0, 38, 1], [0, 0, 139, 0]]), ([0, 1, 4, 5], [[1, 0, 20, 24], [0, 1, 24, 20], [0, 0, 110, 179], [0, 0, 179, 110]]), ([0, 2, 3, 4], [[1, 72, 0, 0], [0, 104, 1, 0], [0, 91, 0, 1], [0, 137, 0, 0]]), ([0, 2, 3, 5], [[1, 48, 0, 0], [0, 118, 1, 0], [0, 79, 0, 1], [0, 136, 0, 0]]), ([0, 2, 4, 5], [[1, 143, 0, 6], [0, 144, 1, 143], [0, 183, 0, 234], [0, 84, 0, 10]]), ([0, 3, 4, 5], [[1, 245, 4, 0], [0, 224, 245, 1], [0, 147, 71, 0], [0, 218, 12, 0]]), ([1, 2, 3, 4], [[48, 1, 0, 0], [79, 0, 1, 0], [118, 0, 0, 1], [136, 0, 0, 0]]), ([1, 2, 3, 5], [[72, 1, 0, 0], [91, 0, 1, 0], [104, 0, 0, 1], [137, 0, 0, 0]]), ([1, 2, 4, 5], [[245, 1, 0, 4], [224, 0, 1, 245], [218, 0, 0, 12], [147, 0, 0, 71]]), ([1, 3, 4, 5], [[143, 1, 6, 0], [144, 0, 143, 1], [84, 0, 10, 0], [183, 0, 234, 0]]), ([2, 3, 4, 5], [[71, 122, 1, 0], [122, 71, 0, 1], [216, 3, 0, 0], [3, 216, 0, 0]])]
theorem colE4_good : colE4.all (fun e => e.2.all (fun r => r.all fun x => decide (x < 256)) && chkB colT 4 e.1 e.2) = true := by decide +kernel
theorem colE4_all : (List.range 6).all (fun a => (List.range 6).all (fun b => (List.range 6).all (fun c => (List.range 6).all (fun d => !(decide (a < b) && decide (b < c) && decide (c < d)) || colE4.any fun e => e.1 == [a, b, c, d])))) = true := by decide +kernel
/-- any n places of a code with n data places and two more tell all -/
theorem col_full (n : Nat) (h1 : 1 ≤ n) (h2 : n ≤ 4) (hv c : Nat → Nat) (hlt : ∀ j, j < n → hv j < n + 2) (hr : ∀ j, j + 1 < n → hv j < hv (j + 1)) : (gaussM n (aug n (wtM n 8 hv) c) n).2 = n := by
  rcases (by omega : n = 1 ∨ n = 2 ∨ n = 3 ∨ n = 4) with rfl | rfl | rfl | rfl
  · have q := (all_range colE1_all (hv 0) (hlt 0 (by omega)))
    obtain ⟨e, he, heq⟩ := List.any_eq_true.1 q
    have hg := List.all_eq_true.1 colE1_good e he
    simp only [Bool.and_eq_true] at hg
    have hq : e.1 = [hv 0] := by simpa using heq
    refine full_case (by omega) colT_good 1 (by omega) e.1 e.2 hg.1 hg.2 hv c fun j hj => ⟨?_, hlt j hj⟩
    rw [hq]
    obtain rfl : j = 0 := by omega
    rfl
  · have q := (all_range (all_range colE2_all (hv 0) (hlt 0 (by omega))) (hv 1) (hlt 1 (by omega)))
    rw [decide_eq_true (hr 0 (by omega))] at q
    simp only [Bool.and_self, Bool.not_true, Bool.false_or] at q
    obtain ⟨e, he, heq⟩ := List.any_eq_true.1 q
    have hg := List.all_eq_true.1 colE2_good e he
    simp only [Bool.and_eq_true] at hg
    have hq : e.1 = [hv 0, hv 1] := by simpa using heq
    refine full_case (by omega) colT_good 2 (by omega) e.1 e.2 hg.1 hg.2 hv c fun j hj => ⟨?_, hlt j hj⟩
    rw [hq]
    rcases (by omega : j = 0 ∨ j = 1) with rfl | rfl <;> rfl
  · have q := (all_range (all_range (all_range colE3_all (hv 0) (hlt 0 (by omega))) (hv 1) (hlt 1 (by omega))) (hv 2) (hlt 2 (by omega)))
    rw [decide_eq_true (hr 0 (by omega)), decide_eq_true (hr 1 (by omega))] at q
    simp only [Bool.and_self, Bool.not_true, Bool.false_or] at q
    obtain ⟨e, he, heq⟩ := List.any_eq_true.1 q
    have hg := List.all_eq_true.1 colE3_good e he
    simp only [Bool.and_eq_true] at hg
    have hq : e.1 = [hv 0, hv 1, hv 2] := by simpa using heq
    refine full_case (by omega) colT_good 3 (by omega) e.1 e.2 hg.1 hg.2 hv c fun j hj => ⟨?_, hlt j hj⟩
    rw [hq]
    rcases (by omega : j = 0 ∨ j = 1 ∨ j = 2) with rfl | rfl | rfl <;> rfl
  · have q := (all_range (all_range (all_range (all_range colE4_all (hv 0) (hlt 0 (by omega))) (hv 1) (hlt 1 (by omega))) (hv 2) (hlt 2 (by omega))) (hv 3) (hlt 3 (by omega)))
    rw [decide_eq_true (hr 0 (by omega)), decide_eq_true (hr 1 (by omega)), decide_eq_true (hr 2 (by omega))] at q
    simp only [Bool.and_self, Bool.not_true, Bool.false_or] at q
    obtain ⟨e, he, heq⟩ := List.any_eq_true.1 q
    have hg := List.all_eq_true.1 colE4_good e he
    simp only [Bool.and_eq_true] at hg
    have hq : e.1 = [hv 0, hv 1, hv 2, hv 3] := by simpa using heq
    refine full_case (by omega) colT_good 4 (by omega) e.1 e.2 hg.1 hg.2 hv c fun j hj => ⟨?_, hlt j hj⟩
    rw [hq]
    rcases (by omega : j = 0 ∨ j = 1 ∨ j = 2 ∨ j = 3) with rfl | rfl | rfl | rfl <;> rfl
end Go.Proofs.Ytgpglgchbimmaaa
