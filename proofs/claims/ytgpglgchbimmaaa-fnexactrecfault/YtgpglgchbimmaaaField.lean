/- The plain arithmetic of the field of 256: products by doublings, their linearity, powers of 2, logarithms. No Go in sight. -/
namespace Go.Proofs.Ytgpglgchbimmaaa.F256

def dblN (x : Nat) : Nat := if 255 < 2 * x then (2 * x) ^^^ 285 else 2 * x
def tabN (a : Nat) : Nat → Nat
  | 0 => a
  | k + 1 => dblN (tabN a k)
def accN (a b : Nat) : Nat → Nat
  | 0 => 0
  | k + 1 => if b / 2 ^ k % 2 = 1 then accN a b k ^^^ tabN a k else accN a b k
def mulN (a b : Nat) : Nat := accN a b 8
def powN (a : Nat) : Nat → Nat
  | 0 => 1
  | n + 1 => mulN (powN a n) a

/-- all numbers below n -/
def allB (n : Nat) (p : Nat → Bool) : Bool := n.rec true fun k r => p k && r
theorem allB_spec {p : Nat → Bool} : ∀ {n : Nat}, allB n p = true → ∀ i, i < n → p i = true
  | 0, _, i, h => absurd h (Nat.not_lt_zero i)
  | n + 1, h, i, hi => by
    have h' : (p n && allB n p) = true := h
    rw [Bool.and_eq_true] at h'
    rcases Nat.lt_succ_iff_lt_or_eq.mp hi with hi | rfl
    · exact allB_spec h'.2 i hi
    · exact h'.1

theorem xor_lt {x y : Nat} (hx : x < 256) (hy : y < 256) : x ^^^ y < 256 := Nat.xor_lt_two_pow (n := 8) hx hy
theorem dblN_lt {x : Nat} (hx : x < 256) : dblN x < 256 := by
  have h : allB 256 (fun x => decide (dblN x < 256)) = true := by decide +kernel
  simpa using allB_spec h x hx
theorem tabN_lt {a : Nat} (ha : a < 256) : ∀ k, tabN a k < 256
  | 0 => ha
  | k + 1 => dblN_lt (tabN_lt ha k)
theorem accN_lt {a b : Nat} (ha : a < 256) : ∀ k, accN a b k < 256
  | 0 => by simp [accN]
  | k + 1 => by
    simp only [accN]
    split
    · exact xor_lt (accN_lt ha k) (tabN_lt ha k)
    · exact accN_lt ha k
theorem mulN_lt {a b : Nat} (ha : a < 256) : mulN a b < 256 := accN_lt ha 8

theorem dblN_xor {x y : Nat} (hx : x < 256) (hy : y < 256) : dblN (x ^^^ y) = dblN x ^^^ dblN y := by
  have h : allB 256 (fun x => allB 256 fun y => dblN (x ^^^ y) == dblN x ^^^ dblN y) = true := by decide +kernel
  simpa using allB_spec (allB_spec h x hx) y hy
theorem tabN_xor {x y : Nat} (hx : x < 256) (hy : y < 256) : ∀ k, tabN (x ^^^ y) k = tabN x k ^^^ tabN y k
  | 0 => rfl
  | k + 1 => by simp only [tabN, tabN_xor hx hy k, dblN_xor (tabN_lt hx k) (tabN_lt hy k)]
theorem xor4 (a b c d : Nat) : (a ^^^ b) ^^^ (c ^^^ d) = (a ^^^ c) ^^^ (b ^^^ d) := by
  rw [Nat.xor_assoc, Nat.xor_assoc, ← Nat.xor_assoc b c d, Nat.xor_comm b c, Nat.xor_assoc c b d]
theorem accN_xor {x y b : Nat} (hx : x < 256) (hy : y < 256) : ∀ k, accN (x ^^^ y) b k = accN x b k ^^^ accN y b k
  | 0 => by simp [accN]
  | k + 1 => by
    simp only [accN, accN_xor hx hy k, tabN_xor hx hy k]
    split
    · exact xor4 _ _ _ _
    · rfl
theorem mulN_xor_left {x y b : Nat} (hx : x < 256) (hy : y < 256) : mulN (x ^^^ y) b = mulN x b ^^^ mulN y b := accN_xor hx hy 8
theorem tabN_dbl (a : Nat) : ∀ k, tabN (dblN a) k = dblN (tabN a k)
  | 0 => rfl
  | k + 1 => by simp only [tabN, tabN_dbl a k]
theorem dblN_zero : dblN 0 = 0 := rfl
theorem accN_dbl {a b : Nat} (ha : a < 256) : ∀ k, accN (dblN a) b k = dblN (accN a b k)
  | 0 => rfl
  | k + 1 => by
    simp only [accN, accN_dbl ha k, tabN_dbl a k]
    split
    · rw [dblN_xor (accN_lt ha k) (tabN_lt ha k)]
    · rfl
theorem mulN_dbl {a b : Nat} (ha : a < 256) : mulN (dblN a) b = dblN (mulN a b) := accN_dbl ha 8
theorem one_mulN {b : Nat} (hb : b < 256) : mulN 1 b = b := by
  have h : allB 256 (fun b => mulN 1 b == b) = true := by decide +kernel
  simpa using allB_spec h b hb
theorem zero_mulN {b : Nat} (hb : b < 256) : mulN 0 b = 0 := by
  have h : allB 256 (fun b => mulN 0 b == 0) = true := by decide +kernel
  simpa using allB_spec h b hb
theorem mulN_zero (a : Nat) : mulN a 0 = 0 := by simp [mulN, accN]

/-- 2 to the power n -/
abbrev E (n : Nat) : Nat := tabN 1 n
theorem E_lt (n : Nat) : E n < 256 := tabN_lt (by decide) n
theorem tabN_tabN (a i : Nat) : ∀ j, tabN (tabN a i) j = tabN a (i + j)
  | 0 => rfl
  | j + 1 => by rw [← Nat.add_assoc]; simp only [tabN, tabN_tabN a i j]
theorem E_mulN {b : Nat} (hb : b < 256) : ∀ i, mulN (E i) b = tabN b i
  | 0 => one_mulN hb
  | i + 1 => by simp only [E, tabN]; rw [mulN_dbl (E_lt i), show mulN (tabN 1 i) b = tabN b i from E_mulN hb i]
theorem E_mul_E (i j : Nat) : mulN (E i) (E j) = E (i + j) := by rw [E_mulN (E_lt j), tabN_tabN, Nat.add_comm]
theorem E_255 : E 255 = 1 := by decide +kernel
theorem E_add_255 (n : Nat) : E (n + 255) = E n := by
  have : tabN (tabN 1 255) n = tabN 1 (255 + n) := tabN_tabN 1 255 n
  rw [show tabN 1 255 = 1 from E_255, Nat.add_comm] at this
  exact this.symm
theorem E_mod (n : Nat) : E (n % 255) = E n := by
  have : ∀ q r, E (r + 255 * q) = E r := by
    intro q; induction q with
    | zero => intro r; rfl
    | succ q ih => intro r; rw [Nat.mul_succ, ← Nat.add_assoc, E_add_255, ih]
  have h := this (n / 255) (n % 255)
  rw [Nat.mod_add_div] at h
  exact h.symm
def logB (n x : Nat) : Bool := n.rec false fun k r => (E k == x) || r
theorem logB_spec {x : Nat} : ∀ {n : Nat}, logB n x = true → ∃ k, k < n ∧ E k = x
  | 0, h => by cases h
  | n + 1, h => by
    have h' : ((E n == x) || logB n x) = true := h
    rw [Bool.or_eq_true] at h'
    rcases h' with h' | h'
    · exact ⟨n, Nat.lt_succ_self n, by simpa using h'⟩
    · obtain ⟨k, hk, e⟩ := logB_spec h'; exact ⟨k, Nat.lt_succ_of_lt hk, e⟩
/-- the powers of 2, from the power 254 on down -/
def powers : Nat → Nat → List Nat
  | 0, _ => []
  | n + 1, x => x :: powers n (dblN x)
theorem mem_powers {y : Nat} : ∀ {n : Nat} {x : Nat}, y ∈ powers n x → ∃ k, k < n ∧ tabN x k = y
  | 0, x, h => by cases h
  | n + 1, x, h => by
    simp only [powers, List.mem_cons] at h
    rcases h with rfl | h
    · exact ⟨0, Nat.succ_pos n, rfl⟩
    · obtain ⟨k, hk, e⟩ := mem_powers h
      exact ⟨k + 1, Nat.succ_lt_succ hk, by rw [← e, tabN_dbl]; rfl⟩
theorem log_ex {x : Nat} (hx : x < 256) (h0 : x ≠ 0) : ∃ k, k < 255 ∧ E k = x := by
  have h : allB 256 (fun x => x == 0 || (powers 255 1).contains x) = true := by decide +kernel
  have := allB_spec h x hx
  simp only [Bool.or_eq_true, beq_iff_eq, List.contains_iff_mem] at this
  exact mem_powers (this.resolve_left h0)
theorem E_ne_zero (n : Nat) : E n ≠ 0 := by
  have h : allB 255 (fun n => E n != 0) = true := by decide +kernel
  have := allB_spec h (n % 255) (Nat.mod_lt _ (by decide))
  rw [← E_mod]
  simpa using this

theorem mulN_comm {a b : Nat} (ha : a < 256) (hb : b < 256) : mulN a b = mulN b a := by
  by_cases h0 : a = 0
  · subst h0; rw [zero_mulN hb, mulN_zero]
  · by_cases h1 : b = 0
    · subst h1; rw [zero_mulN ha, mulN_zero]
    · obtain ⟨i, _, rfl⟩ := log_ex ha h0
      obtain ⟨j, _, rfl⟩ := log_ex hb h1
      rw [E_mul_E, E_mul_E, Nat.add_comm]
theorem mulN_assoc {a b c : Nat} (ha : a < 256) (hb : b < 256) (hc : c < 256) : mulN (mulN a b) c = mulN a (mulN b c) := by
  by_cases h0 : a = 0
  · subst h0; rw [zero_mulN hb, zero_mulN hc, zero_mulN (mulN_lt hb)]
  · by_cases h1 : b = 0
    · subst h1; rw [mulN_zero, zero_mulN hc, mulN_zero]
    · by_cases h2 : c = 0
      · subst h2; rw [mulN_zero, mulN_zero, mulN_zero]
      · obtain ⟨i, _, rfl⟩ := log_ex ha h0
        obtain ⟨j, _, rfl⟩ := log_ex hb h1
        obtain ⟨k, _, rfl⟩ := log_ex hc h2
        rw [E_mul_E, E_mul_E, E_mul_E, E_mul_E, Nat.add_assoc]
theorem mulN_one {a : Nat} (ha : a < 256) : mulN a 1 = a := by rw [mulN_comm ha (by decide), one_mulN ha]
theorem mulN_xor_right {a x y : Nat} (ha : a < 256) (hx : x < 256) (hy : y < 256) : mulN a (x ^^^ y) = mulN a x ^^^ mulN a y := by
  rw [mulN_comm ha (xor_lt hx hy), mulN_xor_left hx hy, mulN_comm hx ha, mulN_comm hy ha]
theorem powN_lt {a : Nat} : ∀ n, powN a n < 256
  | 0 => by simp [powN]
  | n + 1 => mulN_lt (powN_lt n)
theorem powN_E (i : Nat) : ∀ n, powN (E i) n = E (i * n)
  | 0 => rfl
  | n + 1 => by rw [powN, powN_E i n, E_mul_E, Nat.mul_succ]
theorem zero_powN {n : Nat} (h : 0 < n) : powN 0 n = 0 := by
  cases n with
  | zero => cases h
  | succ n => exact mulN_zero _
theorem powN_add {a : Nat} (ha : a < 256) (m : Nat) : ∀ n, powN a (m + n) = mulN (powN a m) (powN a n)
  | 0 => by rw [powN, mulN_one (powN_lt m)]; rfl
  | n + 1 => by rw [← Nat.add_assoc, powN, powN_add ha m n, powN, mulN_assoc (powN_lt m) (powN_lt n) ha]
theorem powN_sq {a : Nat} (ha : a < 256) : ∀ n, powN (mulN a a) n = powN a (2 * n)
  | 0 => rfl
  | n + 1 => by
    rw [powN, powN_sq ha n, Nat.mul_succ, powN_add ha (2 * n) 2]
    congr 1
    show mulN a a = mulN (mulN 1 a) a
    rw [one_mulN ha]
/-- of what is not 0, powers repeat behind 255 -/
theorem powN_mod {a : Nat} (ha : a < 256) (h0 : a ≠ 0) (n : Nat) : powN a (n % 255) = powN a n := by
  obtain ⟨i, _, rfl⟩ := log_ex ha h0
  rw [powN_E, powN_E, ← E_mod (i * (n % 255)), ← E_mod (i * n), Nat.mul_mod, Nat.mod_mod, ← Nat.mul_mod]
abbrev invN (a : Nat) : Nat := powN a 254
theorem invN_mul {a : Nat} (ha : a < 256) (h0 : a ≠ 0) : mulN (invN a) a = 1 := by
  obtain ⟨i, _, rfl⟩ := log_ex ha h0
  rw [invN, powN_E, E_mul_E, show i * 254 + i = 0 + i * 255 by omega, ← E_mod]
  rw [Nat.zero_add, Nat.mul_mod_left]; rfl
theorem mulN_eq_zero {a b : Nat} (ha : a < 256) (hb : b < 256) (h : mulN a b = 0) : a = 0 ∨ b = 0 := by
  by_cases h0 : a = 0
  · exact .inl h0
  · by_cases h1 : b = 0
    · exact .inr h1
    · obtain ⟨i, _, rfl⟩ := log_ex ha h0
      obtain ⟨j, _, rfl⟩ := log_ex hb h1
      rw [E_mul_E] at h
      exact absurd h (E_ne_zero _)
end Go.Proofs.Ytgpglgchbimmaaa.F256
