/- For every record the program's ShareWhole answers as the specification's does and writes into nothing that it is handed: the law FnExactShareWhole returns true at every input, and changes nothing that was there. No condition. -/
import Derived.Test.YtanlgabdpnnfbaaColDefs
import Derived.Test.YtanlgabdpnnfbaaWColA
import Derived.Test.YtanlgabdpnnfbaaWInt
import Derived.Test.YtanlgabdpnnfbaaWInts
import Derived.Test.YtanlgabdpnnfbaaWRowA
import Derived.Test.YtanlgabdpnnfbaaWShape
import Derived.Test.YtanlgabdpnnfbaaCells
import Derived.Test.YtanlgabdpnnfbaaWRowF
import Derived.Lib.QuietBelow
import Derived.Test.YtanlgabdpnnfbaaLay7
import Derived.Deep.DeepCutAuto
import Derived.Test.YtanlgabdpnnfbaaRows
import Derived.Test.YtanlgabdpnnfbaaOpensD
import Derived.Test.YtanlgabdpnnfbaaWTo2
import Derived.Test.YtanlgabdpnnfbaaWEq2
import Derived.Test.YtanlgabdpnnfbaaWSzD2
import Derived.Deep.RegionLaw
namespace Go.Proofs.Ytanlgabdpnnfbaa
open Go.RowKit F256
set_option linter.unusedVariables false
set_option linter.unusedSimpArgs false

set_option maxHeartbeats 1000000 in
theorem l1Has_any (v : Value) (n : Nat) (g : Nat → Int) (hi : Nat) (x : Int) (w : World) (r : RdI w hi v n g) :
    Calls Try.prog 11 #[v, .int .i64 x] w (BoolP (HasP n g x) w) := by
  obtain ⟨ao, cap, rfl, hm, hc⟩ := r
  unfold maxLen at hm
  go_enter Try.func11, Try.ntmps11
  go_wp2
  go_loop [5] (fun i => ∃ k : Nat, k ≤ n ∧ i = .int .i64 k ∧ ∀ i, i < k → g i ≠ x) (fun i => n - (intOf i).toNat)
  case atStart => exact ⟨0, Nat.zero_le _, rfl, fun i hi => by omega⟩
  case round =>
    obtain ⟨k, hk, rfl, hall⟩ := hrel
    have HALL : Hid (∀ i, i < k → g i ≠ x) := hall
    clear hall
    by_cases hlt : k < n
    · obtain ⟨b, off, rfl, hblt, hcell⟩ := hc (by omega)
      have hck : w.cell? ⟨b, off + k, none⟩ = some (.int .i64 (g k)) := hcell k hlt
      obtain ⟨y, hy⟩ : ∃ y, y = g k := ⟨_, rfl⟩
      have HY : Hid (y = g k) := hy
      rw [← hy] at hck
      clear hc hcell hy
      by_cases heq : y = x
      · have tn : (y == x) = true := by simp [heq]
        have HE : Hid (y = x) := heq
        clear heq
        go_wp2
        go_ret
        exact boolYes rfl ⟨k, hlt, by rw [← HY.out]; exact HE.out⟩ (Below.refl _ _)
      · have tn : (y == x) = false := by simp [heq]
        have HE : Hid (y ≠ x) := heq
        clear heq
        go_wp2
        go_round
        case rel => exact ⟨k + 1, by omega, by go_num, fun i hi => by
                      by_cases c : i = k
                      · rw [c, ← HY.out]; exact HE.out
                      · exact HALL.out i (by omega)⟩
        case measure => simp [intOf]; omega
    · obtain rfl : k = n := by omega
      go_wp2
      go_ret
      exact boolNo rfl (fun ⟨i, hi, h⟩ => HALL.out i hi h) (Below.refl _ _)
end Go.Proofs.Ytanlgabdpnnfbaa

namespace Go.Proofs.Ytanlgabdpnnfbaa
open Go.RowKit F256
set_option linter.unusedVariables false
set_option linter.unusedSimpArgs false

set_option maxHeartbeats 1000000 in
theorem index_any (v : Value) (n : Nat) (g : Nat → Int) (hi : Nat) (x : Int) (w : World) (r : RdI w hi v n g) :
    Calls Try.prog 18 #[v, .int .i64 x] w fun e w' => ∃ z : Int, e = .returned (.int .i64 z) ∧ (0 ≤ z ↔ ∃ t, t < n ∧ g t = x) ∧ w' = w := by
  obtain ⟨ao, cap, rfl, hm, hc⟩ := r
  unfold maxLen at hm
  go_enter Try.func18, Try.ntmps18
  go_wp2
  go_loop [8] (fun i => ∃ k : Nat, k ≤ n ∧ i = .int .i64 k ∧ ∀ i, i < k → g i ≠ x) (fun i => n - (intOf i).toNat)
  case atStart => exact ⟨0, Nat.zero_le _, rfl, fun i hi => by omega⟩
  case round =>
    obtain ⟨k, hk, rfl, hall⟩ := hrel
    have HALL : Hid (∀ i, i < k → g i ≠ x) := hall
    clear hall
    by_cases hlt : k < n
    · obtain ⟨b, off, rfl, hblt, hcell⟩ := hc (by omega)
      have hck : w.cell? ⟨b, off + k, none⟩ = some (.int .i64 (g k)) := hcell k hlt
      obtain ⟨y, hy⟩ : ∃ y, y = g k := ⟨_, rfl⟩
      have HY : Hid (y = g k) := hy
      rw [← hy] at hck
      clear hc hcell hy
      by_cases heq : x = y
      · have HP : Hid (0 ≤ (k : Int) ↔ ∃ t, t < n ∧ g t = x) := ⟨fun _ => ⟨k, hlt, by rw [← HY.out, heq]⟩, fun _ => by omega⟩
        have te : (x == y) = true := by simp [heq]
        clear heq
        go_wp2
        go_ret
        exact ⟨_, rfl, HP.out, rfl⟩
      · have te : (x == y) = false := by simp [heq]
        have HN : Hid (g k ≠ x) := by show g k ≠ x; rw [← HY.out]; exact fun h => heq h.symm
        clear heq
        go_wp2
        go_round
        case rel => exact ⟨k + 1, by omega, by go_num, fun i hi => by
                      by_cases c : i = k
                      · rw [c]; exact HN.out
                      · exact HALL.out i (by omega)⟩
        case measure => simp [intOf]; omega
    · obtain rfl : k = n := by omega
      have HP : Hid (0 ≤ (-1 : Int) ↔ ∃ t, t < k ∧ g t = x) := ⟨fun h => by omega, fun ⟨t, ht, he⟩ => absurd he (HALL.out t ht)⟩
      clear hc
      go_wp2
      go_ret
      exact ⟨-1, rfl, HP.out, rfl⟩

theorem contains_any (v : Value) (n : Nat) (g : Nat → Int) (hi : Nat) (x : Int) (w : World) (r : RdI w hi v n g) :
    Calls Try.prog 17 #[v, .int .i64 x] w (BoolP (∃ t, t < n ∧ g t = x) w) := by
  have C := index_any v n g hi x w r
  obtain ⟨ao, cap, rfl, hm, hc⟩ := r
  clear hc hm
  have HI : Hid (Calls Try.prog 18 #[.slice ao n cap, .int .i64 x] w fun e w' => ∃ z : Int, e = .returned (.int .i64 z) ∧ (0 ≤ z ↔ ∃ t, t < n ∧ g t = x) ∧ w' = w) := C
  clear C
  obtain ⟨P, hP⟩ : ∃ P : Prop, P = ∃ t, t < n ∧ g t = x := ⟨_, rfl⟩
  rw [← hP] at HI ⊢
  clear hP
  go_enter Try.func17, Try.ntmps17
  go_wp2_with fail
  refine HI.out.mono ?_
  rintro e w1 ⟨z, rfl, hz, hw1⟩
  obtain rfl := hw1.symm
  have HZ : Hid (0 ≤ z ↔ P) := hz
  clear hz HI
  by_cases h0 : 0 ≤ z
  · have HP : Hid P := HZ.out.mp h0
    go_wp2
    go_ret
    exact boolYes rfl HP.out (Below.refl _ _)
  · have HP : Hid (¬ P) := fun h => h0 (HZ.out.mpr h)
    have td : decide (0 ≤ z) = false := by simp; omega
    clear h0
    go_wp2
    go_ret
    exact boolNo rfl HP.out (Below.refl _ _)
end Go.Proofs.Ytanlgabdpnnfbaa

namespace Go.Proofs.Ytanlgabdpnnfbaa
open Go.RowKit F256
set_option linter.unusedVariables false
set_option linter.unusedSimpArgs false

/-- the bytes of a string -/
def nameByte (b : ByteArray) (i : Nat) : Nat := if h : i < b.size then (b[i]'h).toNat else 0
theorem nameByte_lt (b : ByteArray) (i : Nat) : nameByte b i < 256 := by
  unfold nameByte
  split
  · exact UInt8.toNat_lt _
  · omega
theorem index_name (b : ByteArray) (i : Nat) (h : i < b.size) (w : World) : (Instr.index 9 (.string b) (.int .i64 (i : Int))).run Try.prog w = .ok (.int .u8 (nameByte b i)) w := by
  rw [run_index_string w 9 b .i64 (i : Int) Try.underlying9, dif_pos ⟨by omega, by omega⟩]
  simp [nameByte, h]
def LetP (y : Nat) : Prop := 97 ≤ y ∧ y ≤ 122
def DigP (y : Nat) : Prop := 48 ≤ y ∧ y ≤ 57
/-- a name that has no fault -/
def OkName (b : ByteArray) : Prop := 1 ≤ b.size ∧ b.size ≤ 8 ∧ LetP (nameByte b 0) ∧ ∀ i, i < b.size → LetP (nameByte b i) ∨ DigP (nameByte b i)
def NmAns (b : ByteArray) (x : Int) : Prop := (x = 5 ∧ ¬ OkName b) ∨ (x = 0 ∧ OkName b)
theorem NmAns.one {b : ByteArray} {x y : Int} (h : NmAns b x) (k : NmAns b y) : x = y := by
  rcases h with ⟨rfl, h⟩ | ⟨rfl, h⟩ <;> rcases k with ⟨rfl, k⟩ | ⟨rfl, k⟩ <;> first | rfl | exact absurd h k | exact absurd k h

end Go.Proofs.Ytanlgabdpnnfbaa

namespace Go.Proofs.Ytanlgabdpnnfbaa
open Go.RowKit F256
set_option linter.unusedVariables false

def InP (x a b : Int) : Prop := a ≤ x ∧ x ≤ b
/-- numbers from 0 to most, no two alike -/
def ApartP (n : Nat) (g : Nat → Int) (most : Int) : Prop := ∀ i, i < n → InP (g i) 0 most ∧ ∀ t, t < i → g t ≠ g i
def ItemP (s : Nat → Int) (r : RecD) : Prop :=
  (r.length = -1 ∧ r.data.1 = 0 ∧ r.rows.1 = 0) ∨
  (r.length ≠ -1 ∧ 1 ≤ r.length ∧ r.length ≤ 3 * (s 2 * 4) ∧
    ((0 < r.data.1 ∧ (r.data.1 : Int) = r.length ∧ r.rows.1 = 0) ∨
     (r.data.1 = 0 ∧ (r.rows.1 : Int) = (r.length + s 2 * 4 - 1) / (s 2 * 4) ∧ ApartP r.rows.1 r.rows.2 (s 4 - 1))))
def MoveP (s : Nat → Int) (r : RecD) : Prop := InP r.group 0 (s 0 - 1) ∧ InP r.row 0 (s 4 - 1) ∧ (r.data.1 : Int) = s 2 * 4 ∧ (r.delta.1 : Int) = s 2 * 4
def DoneP (s : Nat → Int) (r : RecD) : Prop := InP r.group 0 (s 0 + s 1 - 1)
def WeightsP (s : Nat → Int) (r : RecD) : Prop := (r.delta.1 : Int) = s 0 + s 1 ∧ r.delta.2 r.group.toNat = 0 ∧ ∀ i, i < r.rows.1 → r.delta.2 (r.rows.2 i).toNat ≠ 0
def ShareP (s : Nat → Int) (r : RecD) : Prop := InP r.group 0 (s 0 + s 1 - 1) ∧ InP r.row 0 (s 4 - 1) ∧ RiseP r.rows.1 r.rows.2 (s 0 + s 1 - 1) ∧ (r.data.1 : Int) = s 2 * 4 ∧ WeightsP s r
def KindP (s : Nat → Int) (r : RecD) : Prop := (r.kind = 1 ∧ ItemP s r) ∨ (r.kind = 2 ∧ MoveP s r) ∨ (r.kind = 3 ∧ DoneP s r) ∨ (r.kind = 4 ∧ ShareP s r)
def noName (r : RecD) : Prop := r.name = ByteArray.empty ∧ r.length = 0
def BlankP (r : RecD) : Prop :=
  (r.kind = 1 ∧ r.group = 0 ∧ r.row = 0 ∧ r.delta.1 = 0) ∨ (r.kind = 2 ∧ noName r ∧ r.rows.1 = 0) ∨
  (r.kind = 3 ∧ noName r ∧ r.row = 0 ∧ r.rows.1 = 0 ∧ r.data.1 = 0 ∧ r.delta.1 = 0) ∨ (r.kind = 4 ∧ noName r)
def NamedP (r : RecD) : Prop := r.kind = 1 → OkName r.name
/-- codes asked one behind the other: the first that falls is told; behind them all K -/
def Stair : List (Prop × Int) → (Int → Prop) → Int → Prop
  | [], K, x => K x
  | (p, c) :: l, K, x => (¬ p ∧ x = c) ∨ (p ∧ Stair l K x)
theorem Stair.fall {p : Prop} {c : Int} {l : List (Prop × Int)} {K : Int → Prop} (h : ¬ p) : Stair ((p, c) :: l) K c := .inl ⟨h, rfl⟩
theorem Stair.pass {p : Prop} {c : Int} {l : List (Prop × Int)} {K : Int → Prop} {x : Int} (h : p) (k : Stair l K x) : Stair ((p, c) :: l) K x := .inr ⟨h, k⟩
theorem Stair.last {K : Int → Prop} {x : Int} (h : K x) : Stair [] K x := h
theorem Stair.one {K : Int → Prop} (hK : ∀ x y, K x → K y → x = y) : ∀ (l : List (Prop × Int)) {x y : Int}, Stair l K x → Stair l K y → x = y
  | [], x, y, h, k => hK x y h k
  | (p, c) :: l, x, y, h, k => by
    rcases h with ⟨h1, h2⟩ | ⟨h1, h2⟩ <;> rcases k with ⟨k1, k2⟩ | ⟨k1, k2⟩
    · rw [h2, k2]
    · exact absurd k1 h1
    · exact absurd h1 k1
    · exact Stair.one hK l h2 k2
def isZ (x : Int) : Prop := x = 0
theorem isZ_one (x y : Int) (h : isZ x) (k : isZ y) : x = y := by rw [show x = 0 from h, show y = 0 from k]
/-- what RecFault tells -/
def RecAns (s : Nat → Int) (r : RecD) (x : Int) : Prop :=
  Stair [(OkShape s, 3), (InP r.kind 1 4, 5), (InP r.seq 1 1000000000, 3), (NamedP r, 5), (KindP s r, 3), (BlankP r, 1)] isZ x
theorem RecAns.one {s : Nat → Int} {r : RecD} {x y : Int} (h : RecAns s r x) (k : RecAns s r y) : x = y := Stair.one isZ_one _ h k

/-- groups, drives and blocks as the shape has them -/
def BlockP (b : BlockD) : Prop := InP b.stamp 0 1000000000 ∧ b.bytes.1 = 4
def BlocksP (s : Nat → Int) (p : Nat × (Nat → BlockD)) : Prop := (p.1 : Int) = s 4 ∧ ∀ i, i < p.1 → BlockP (p.2 i)
def DrivesP (s : Nat → Int) (p : Nat × (Nat → DriveD)) : Prop := (p.1 : Int) = s 2 + s 3 ∧ ∀ i, i < p.1 → BlocksP s (p.2 i).blocks
def BuiltP (d : WorldD) : Prop := (d.groups.1 : Int) = d.shape 0 + d.shape 1 ∧ ∀ i, i < d.groups.1 → DrivesP d.shape (d.groups.2 i)
def OnP (d : WorldD) : Prop := ApartP d.on.1 d.on.2 (d.shape 0 + d.shape 1 - 1) ∧ (d.on.1 : Int) ≤ d.shape 5 ∧ (d.down = true → d.on.1 = 0)
def FormP (d : WorldD) : Prop := BuiltP d ∧ OnP d ∧ d.tapes.1 = 2
def FewP (d : WorldD) : Prop := ∀ t, t < d.tapes.1 → (d.tapes.2 t).recs.1 ≤ 200
/-- the first record that has a fault -/
def RecsAns (s : Nat → Int) (n : Nat) (x : Nat → TapeD) (c : Int) : Prop :=
  (c = 0 ∧ ∀ t, t < n → ∀ i, i < (x t).recs.1 → RecAns s ((x t).recs.2 i) 0) ∨
  (c ≠ 0 ∧ ∃ t i, t < n ∧ i < (x t).recs.1 ∧ RecAns s ((x t).recs.2 i) c ∧ (∀ k, k < i → RecAns s ((x t).recs.2 k) 0) ∧ ∀ u, u < t → ∀ k, k < (x u).recs.1 → RecAns s ((x u).recs.2 k) 0)
theorem RecsAns.one {s : Nat → Int} {n : Nat} {x : Nat → TapeD} {c e : Int} (h : RecsAns s n x c) (k : RecsAns s n x e) : c = e := by
  rcases h with ⟨rfl, h⟩ | ⟨hc, t, i, ht, hi, hr, hb, hu⟩ <;> rcases k with ⟨rfl, k⟩ | ⟨kc, t', i', kt, ki, kr, kb, ku⟩
  · rfl
  · exact absurd (kr.one (h t' kt i' ki)) kc
  · exact absurd (hr.one (k t ht i hi)) hc
  · rcases Nat.lt_trichotomy t t' with c1 | c1 | c1
    · exact absurd (hr.one (ku t c1 i hi)) hc
    · subst c1
      rcases Nat.lt_trichotomy i i' with c2 | c2 | c2
      · exact absurd (hr.one (kb i c2)) hc
      · subst c2; exact hr.one kr
      · exact absurd (kr.one (hb i' c2)) kc
    · exact absurd (kr.one (hu t' c1 i' ki)) kc
def CleanP (d : WorldD) : Prop := ∀ t, t < d.tapes.1 → (d.tapes.2 t).wiped = true → (d.tapes.2 t).recs.1 = 0
def CountP (d : WorldD) : Prop := InP d.writes 0 1000000000 ∧ InP d.stop (-1) 1000000000
/-- what WorldFault tells -/
def WldAns (d : WorldD) (x : Int) : Prop :=
  Stair [(OkShape d.shape, 3), (FormP d, 1), (FewP d, 2)] (fun x => (x ≠ 0 ∧ RecsAns d.shape d.tapes.1 d.tapes.2 x) ∨ (RecsAns d.shape d.tapes.1 d.tapes.2 0 ∧ Stair [(CleanP d, 1), (CountP d, 3)] isZ x)) x
theorem WldAns.one {d : WorldD} {x y : Int} (h : WldAns d x) (k : WldAns d y) : x = y := by
  refine Stair.one (fun x y h k => ?_) _ h k
  rcases h with ⟨h1, h2⟩ | ⟨h1, h2⟩ <;> rcases k with ⟨k1, k2⟩ | ⟨k1, k2⟩
  · exact h2.one k2
  · exact absurd (h2.one k1) h1
  · exact absurd (k2.one h1) k1
  · exact Stair.one isZ_one _ h2 k2
/-- a world without a fault -/
structure OkWorld (d : WorldD) : Prop where
  shape : OkShape d.shape
  form : FormP d
  few : FewP d
  recs : ∀ t, t < d.tapes.1 → ∀ i, i < (d.tapes.2 t).recs.1 → RecAns d.shape ((d.tapes.2 t).recs.2 i) 0
  clean : CleanP d
  count : CountP d
theorem WldAns.ok {d : WorldD} (h : WldAns d 0) : OkWorld d := by
  rcases h with ⟨_, h⟩ | ⟨h1, h⟩
  · omega
  rcases h with ⟨_, h⟩ | ⟨h2, h⟩
  · omega
  rcases h with ⟨_, h⟩ | ⟨h3, h⟩
  · omega
  rcases h with ⟨h, _⟩ | ⟨h4, h⟩
  · exact absurd rfl h
  rcases h with ⟨_, h⟩ | ⟨h5, h⟩
  · omega
  rcases h with ⟨_, h⟩ | ⟨h6, h⟩
  · omega
  rcases h4 with ⟨_, h4⟩ | ⟨h4, _⟩
  · exact ⟨h1, h2, h3, h4, h5, h6⟩
  · exact absurd rfl h4
theorem exB (P : Prop) : ∃ b : Bool, b = true ↔ P := by
  by_cases h : P
  · exact ⟨true, by simp [h]⟩
  · exact ⟨false, by simp [h]⟩
end Go.Proofs.Ytanlgabdpnnfbaa

namespace Go.Proofs.Ytanlgabdpnnfbaa
open Go.RowKit F256
set_option linter.unusedVariables false

theorem q_below {f : Nat} {args : Array Value} {W : World} {v : Value} (h : ∀ w', Below W.heap.size W w' → Calls Try.prog f args w' fun e w'' => e = .returned v ∧ Below w'.heap.size w' w'') :
    ∀ d os, Calls Try.prog f args (Go.Sort.grow (redrawn W d) os) fun e w'' => e = .returned v ∧ ∃ p : Regrown, w'' = Go.Sort.grow (redrawn W p.d) p.os := fun d os => Calls.regrown_of (h _ (below_regrown W d os))
theorem q_same {f : Nat} {args : Array Value} {W : World} {v : Value} (h : ∀ w', Calls Try.prog f args w' fun e w'' => e = .returned v ∧ w'' = w') :
    ∀ d os, Calls Try.prog f args (Go.Sort.grow (redrawn W d) os) fun e w'' => e = .returned v ∧ ∃ p : Regrown, w'' = Go.Sort.grow (redrawn W p.d) p.os :=
  q_below fun w' _ => (h w').mono fun e w'' ⟨h1, h2⟩ => ⟨h1, by rw [h2]; exact Below.refl _ _⟩
theorem det_b {f : Nat} {args : Array Value} {w : World} {P : Prop} {b : Bool} (h : Calls Try.prog f args w (BoolP P w)) (hb : b = true ↔ P) : Calls Try.prog f args w fun e w' => e = .returned (.bool b) ∧ Below w.heap.size w w' :=
  h.mono fun e w' ⟨b', h1, h2, h3⟩ => ⟨by rw [h1]; congr 2; cases b <;> cases b' <;> simp_all, h3⟩
theorem below_rg {W w' : World} (h : ∃ p : Regrown, w' = Go.Sort.grow (redrawn W p.d) p.os) : Below W.heap.size W w' := by
  obtain ⟨p, rfl⟩ := h
  exact below_regrown W p.d p.os
/-- the walk in the text's order, behind a wall (what is behind it is not looked into) -/
structure WQ (P : Program) (ops : Array Oper) (C : World → Prop) (Q : Act → Prop) (l : List Oper) (a : Act) : Prop where
  out : wpQuiet P ops C Q l a
theorem WQ.skip {P : Program} {ops : Array Oper} {C : World → Prop} {Q : Act → Prop} {a : Act} {o : Oper} {rest : List Oper} (hw : Region.wanted o (yielded ops a.tmps) = false)
    (h : ∀ K : Act → Prop, (∀ a, WQ P ops C Q rest a → K a) → K (a.put o.dst undef)) : WQ P ops C Q (o :: rest) a := by
  refine ⟨?_⟩
  unfold wpQuiet
  rw [if_neg (by rw [hw]; decide)]
  exact (h _ (fun _ h => h)).out
theorem WQ.want {P : Program} {ops : Array Oper} {C : World → Prop} {Q : Act → Prop} {a : Act} {o : Oper} {rest : List Oper} (hw : Region.wanted o (yielded ops a.tmps) = true)
    (h : ∀ K : Act → Prop, (∀ a, WQ P ops C Q rest a → K a) → o.quiet P a C K) : WQ P ops C Q (o :: rest) a := by
  refine ⟨?_⟩
  unfold wpQuiet
  rw [if_pos hw]
  exact Oper.quiet_mono (fun a h => h.out) (h _ (fun _ h => h))
theorem WQ.nil {P : Program} {ops : Array Oper} {C : World → Prop} {Q : Act → Prop} {a : Act} (h : Q a) : WQ P ops C Q [] a := ⟨wpQuiet_nil h⟩
theorem WQ.region {P : Program} {id : Nat} {Q : Exit → Act → World → Prop} {a : Act} {w : World} {l : List Oper} (hm : P.follows .mixedOrders = true) (hB : Region.lexB .any l.toArray = true)
    (h : WQ P l.toArray (fun w' => ∃ p : Regrown, w' = Go.Sort.grow (redrawn w p.d) p.os) (fun a' => ∀ w', (∃ p : Regrown, w' = Go.Sort.grow (redrawn w p.d) p.os) → Q .normal a' w') l a) : (Code.region id l.toArray true).wp P Q a w := wp_region_quiet_below hm hB h.out
end Go.Proofs.Ytanlgabdpnnfbaa

namespace Go.Proofs.Ytanlgabdpnnfbaa
open Go.RowKit F256
set_option linter.unusedVariables false
set_option linter.unusedSimpArgs false
/-- of the first k groups each whose byte is not 0 has given -/
def GivenP (r : RecD) (k : Nat) : Prop := ∀ g, g < k → r.delta.2 g ≠ 0 → HasP r.rows.1 r.rows.2 (g : Int)
def SWholeP (r : RecD) : Prop := r.kind = 4 ∧ GivenP r r.delta.1
theorem GivenP.more {r : RecD} {k : Nat} (h : GivenP r k) (hk : r.delta.2 k ≠ 0 → HasP r.rows.1 r.rows.2 (k : Int)) : GivenP r (k + 1) := fun g hg hz => by
  by_cases c : g = k
  · subst c; exact hk hz
  · exact h g (by omega) hz
set_option maxHeartbeats 8000000 in
set_option maxRecDepth 20000 in
theorem specWhole_any (r : RecD) (cs : List Value) (hi : Nat) (w : World) (h : layRec.rd w hi r cs) (hhi : hi ≤ w.heap.size) (hsz : szRecD r ≤ 1048576) :
    Calls Try.prog 5 #[.agg cs.toArray] w (BoolP (SWholeP r) w) := by
  have hdl : r.delta.1 ≤ 1048576 := by unfold szRecD lenD at hsz; omega
  obtain ⟨ao6, cap6, ao7, cap7, ao8, cap8, rfl, g6, g7, g8, -⟩ := Rec_rd h
  have HR6 : Hid (RdI w hi (.slice ao6 r.rows.1 cap6) r.rows.1 r.rows.2) := by
    obtain ⟨_, e2, ⟨h2, _⟩, _⟩ := g6
    cases e2
    exact h2
  obtain ⟨_, e8, h8, -⟩ := g8
  cases e8
  obtain ⟨_, _, e8, hm, hc⟩ := h8
  cases e8
  unfold maxLen at hm
  have T0 := one_new w #[.int .i64 r.kind, .int .i64 r.seq, .string r.name, .int .i64 r.length, .int .i64 r.group, .int .i64 r.row, .slice ao6 r.rows.1 cap6, .slice ao7 r.data.1 cap7, .slice ao8 r.delta.1 cap8] 28
  have x0 := T0.b1.cell 0
  clear g6 g7
  go_enter Try.func5, Try.ntmps5
  by_cases hk4 : r.kind = 4
  case neg =>
    have hne : (r.kind != 4) = true := by simp [hk4]
    have HK : Hid (¬ r.kind = 4) := hk4
    clear hk4
    go_wp2
    go_ret
    exact boolNo rfl (fun h => HK.out h.1) T0.bel
  have hne : (r.kind != 4) = false := by simp [hk4]
  have HK : Hid (r.kind = 4) := hk4
  clear hk4
  go_wp2
  go_loopw [3] (fun i wr => ∃ k : Nat, k ≤ r.delta.1 ∧ i = .int .i64 k ∧ GivenP r k ∧ One w wr #[.int .i64 r.kind, .int .i64 r.seq, .string r.name, .int .i64 r.length, .int .i64 r.group, .int .i64 r.row, .slice ao6 r.rows.1 cap6, .slice ao7 r.data.1 cap7, .slice ao8 r.delta.1 cap8] 28) (fun i _ => r.delta.1 - (intOf i).toNat)
  case atStart => exact ⟨0, Nat.zero_le _, rfl, fun g hg => by omega, T0⟩
  case round =>
    clear T0 x0 hne
    obtain ⟨k, hk, rfl, hall, T⟩ := hrel
    have HALL : Hid (GivenP r k) := hall
    have HT : Hid (One w wr #[.int .i64 r.kind, .int .i64 r.seq, .string r.name, .int .i64 r.length, .int .i64 r.group, .int .i64 r.row, .slice ao6 r.rows.1 cap6, .slice ao7 r.data.1 cap7, .slice ao8 r.delta.1 cap8] 28) := T
    have x8 : wr.cell? ⟨w.heap.size, 8, none⟩ = some (.slice ao8 r.delta.1 cap8) := T.b1.cell 8
    have x6 : wr.cell? ⟨w.heap.size, 6, none⟩ = some (.slice ao6 r.rows.1 cap6) := T.b1.cell 6
    clear hall
    by_cases hlt : k < r.delta.1
    · have HLT : Hid (k < r.delta.1) := hlt
      have t1 : (k : Int) < (r.delta.1 : Int) := by omega
      obtain ⟨b, off, rfl, hblt, hcell⟩ := hc (by omega)
      have ck : wr.cell? ⟨b, off + k, none⟩ = some (.int .u8 (r.delta.2 k)) := (T.bel.cell (p := ⟨b, off + k, none⟩) (by show b < w.heap.size; omega)).trans (hcell k hlt)
      clear hc hcell T
      obtain ⟨y, hy⟩ : ∃ y, y = r.delta.2 k := ⟨_, rfl⟩
      have HY : Hid (y = r.delta.2 k) := hy
      rw [← hy] at ck
      clear hy
      by_cases hz : y = 0
      · have hn : ((y : Int) != 0) = false := by simp [hz]
        have HZ : Hid (y = 0) := hz
        clear hz
        go_wp2
        go_roundw
        case rel => exact ⟨k + 1, by omega, by go_num, HALL.out.more (fun hne => absurd (HY.out.symm.trans HZ.out) hne), HT.out⟩
        case measure => simp [intOf]; omega
      · have hn : ((y : Int) != 0) = true := by simp [hz]
        have CH := l1Has_any (.slice ao6 r.rows.1 cap6) r.rows.1 r.rows.2 hi (k : Int) wr (HR6.out.below HT.out.bel hhi)
        clear hz
        go_wp2_with fail
        refine CH.mono ?_
        rintro e w2 ⟨t, rfl, ht, b2⟩
        have HT2 : Hid (One w w2 #[.int .i64 r.kind, .int .i64 r.seq, .string r.name, .int .i64 r.length, .int .i64 r.group, .int .i64 r.row, .slice ao6 r.rows.1 cap6, .slice ao7 r.data.1 cap7, .slice (some ⟨b, off, none⟩) r.delta.1 cap8] 28) := HT.out.call b2
        have HH : Hid (t = true ↔ HasP r.rows.1 r.rows.2 (k : Int)) := ht
        have HN : Hid (r.delta.2 k ≠ 0) := by
          show r.delta.2 k ≠ 0
          rw [← HY.out]
          intro h0
          rw [h0] at hn
          simp at hn
        clear ht b2 CH HT x8 x6 ck
        cases t with
        | false =>
          go_wp2
          go_ret
          exact boolNo rfl (fun h => by
            have := HH.out.2 (h.2 k HLT.out HN.out)
            cases this) HT2.out.bel
        | true =>
          go_wp2
          go_roundw
          case rel => exact ⟨k + 1, by omega, by go_num, HALL.out.more (fun _ => HH.out.1 (by simp)), HT2.out⟩
          case measure => simp [intOf]; omega
    · obtain rfl : k = r.delta.1 := by omega
      clear hlt T
      go_wp2
      go_ret
      exact boolYes rfl ⟨HK.out, HALL.out⟩ HT.out.bel
set_option maxHeartbeats 8000000 in
set_option maxRecDepth 20000 in
theorem giversLeft_any (r : RecD) (cs : List Value) (hi : Nat) (w : World) (h : layRec.rd w hi r cs) (hhi : hi ≤ w.heap.size) (hsz : szRecD r ≤ 1048576) :
    Calls Try.prog 14 #[.agg cs.toArray] w fun e w' => ∃ ao n cap, e = .returned (.slice ao n cap) ∧ (n = 0 ↔ GivenP r r.delta.1) ∧ n ≤ maxLen ∧ Below w.heap.size w w' := by
  have hdl : r.delta.1 ≤ 1048576 := by unfold szRecD lenD at hsz; omega
  obtain ⟨ao6, cap6, ao7, cap7, ao8, cap8, rfl, g6, g7, g8, -⟩ := Rec_rd h
  have HR6 : Hid (RdI w hi (.slice ao6 r.rows.1 cap6) r.rows.1 r.rows.2) := by
    obtain ⟨_, e2, ⟨h2, _⟩, _⟩ := g6
    cases e2
    exact h2
  obtain ⟨_, e8, h8, -⟩ := g8
  cases e8
  obtain ⟨_, _, e8, hm, hc⟩ := h8
  cases e8
  unfold maxLen at hm
  have T0 := one_new w #[.int .i64 r.kind, .int .i64 r.seq, .string r.name, .int .i64 r.length, .int .i64 r.group, .int .i64 r.row, .slice ao6 r.rows.1 cap6, .slice ao7 r.data.1 cap7, .slice ao8 r.delta.1 cap8] 28
  have z0 : w.heap.size < (w.alloc (.cells #[.int .i64 r.kind, .int .i64 r.seq, .string r.name, .int .i64 r.length, .int .i64 r.group, .int .i64 r.row, .slice ao6 r.rows.1 cap6, .slice ao7 r.data.1 cap7, .slice ao8 r.delta.1 cap8] 28)).heap.size := T0.b1.lt
  have x8 := T0.b1.cell 8
  have I0 : OwnI (w.alloc (.cells #[.int .i64 r.kind, .int .i64 r.seq, .string r.name, .int .i64 r.length, .int .i64 r.group, .int .i64 r.row, .slice ao6 r.rows.1 cap6, .slice ao7 r.data.1 cap7, .slice ao8 r.delta.1 cap8] 28)) (w.heap.size + 1) (w.alloc (.cells #[.int .i64 r.kind, .int .i64 r.seq, .string r.name, .int .i64 r.length, .int .i64 r.group, .int .i64 r.row, .slice ao6 r.rows.1 cap6, .slice ao7 r.data.1 cap7, .slice ao8 r.delta.1 cap8] 28)).heap.size (.slice none 0 0) 0 (fun _ => 0) := ownI_nil _ _ _ _
  clear g6 g7
  go_enter Try.func14, Try.ntmps14
  go_wp2
  go_loopw [3, 9] (fun vh i wr => ∃ (c k : Nat) (f : Nat → Int), k ≤ r.delta.1 ∧ i = .int .i64 k ∧ c ≤ k ∧ (c = 0 ↔ GivenP r k) ∧ OwnI wr (w.heap.size + 1) wr.heap.size vh c f ∧ One w wr #[.int .i64 r.kind, .int .i64 r.seq, .string r.name, .int .i64 r.length, .int .i64 r.group, .int .i64 r.row, .slice ao6 r.rows.1 cap6, .slice ao7 r.data.1 cap7, .slice ao8 r.delta.1 cap8] 28) (fun _ i _ => r.delta.1 - (intOf i).toNat)
  case atStart => exact ⟨0, 0, _, Nat.zero_le _, rfl, Nat.le_refl _, ⟨fun _ g hg => by omega, fun _ => rfl⟩, I0, T0⟩
  case round =>
    clear T0 x8 I0
    obtain ⟨c, k, f, hk, rfl, hck, hall, hI, T⟩ := hrel
    have HALL : Hid (c = 0 ↔ GivenP r k) := hall
    have HT : Hid (One w wr #[.int .i64 r.kind, .int .i64 r.seq, .string r.name, .int .i64 r.length, .int .i64 r.group, .int .i64 r.row, .slice ao6 r.rows.1 cap6, .slice ao7 r.data.1 cap7, .slice ao8 r.delta.1 cap8] 28) := T
    have HI : Hid (OwnI wr (w.heap.size + 1) wr.heap.size u3 c f) := hI
    obtain ⟨ao9, cap9, hs9⟩ := hI.slice
    subst hs9
    have x6 : wr.cell? ⟨w.heap.size, 6, none⟩ = some (.slice ao6 r.rows.1 cap6) := T.b1.cell 6
    have zr : w.heap.size < wr.heap.size := T.b1.lt
    have hcm := hI.le
    clear hall hI
    by_cases hlt : k < r.delta.1
    · have HLT : Hid (k < r.delta.1) := hlt
      have t1 : (k : Int) < (r.delta.1 : Int) := by omega
      obtain ⟨b, off, rfl, hblt, hcell⟩ := hc (by omega)
      have ck : wr.cell? ⟨b, off + k, none⟩ = some (.int .u8 (r.delta.2 k)) := (T.bel.cell (p := ⟨b, off + k, none⟩) (by show b < w.heap.size; omega)).trans (hcell k hlt)
      clear hc hcell T
      obtain ⟨y, hy⟩ : ∃ y, y = r.delta.2 k := ⟨_, rfl⟩
      have HY : Hid (y = r.delta.2 k) := hy
      rw [← hy] at ck
      clear hy
      by_cases hz : y = 0
      · have hn : ((y : Int) != 0) = false := by simp [hz]
        have HZ : Hid (y = 0) := hz
        clear hz
        go_wp2
        go_roundw
        case rel => exact ⟨c, k + 1, f, by omega, by go_num, by omega, ⟨fun h => (HALL.out.1 h).more (fun hne => absurd (HY.out.symm.trans HZ.out) hne), fun h => HALL.out.2 (fun g hg => h g (by omega))⟩, HI.out, HT.out⟩
        case measure => simp [intOf]; omega
      · have hn : ((y : Int) != 0) = true := by simp [hz]
        have CH := contains_any (.slice ao6 r.rows.1 cap6) r.rows.1 r.rows.2 hi (k : Int) wr (HR6.out.below HT.out.bel hhi)
        have HN : Hid (r.delta.2 k ≠ 0) := by
          show r.delta.2 k ≠ 0
          rw [← HY.out]
          exact hz
        clear hz
        go_wp2_with fail
        refine CH.mono ?_
        rintro e w2 ⟨t, rfl, ht, b2⟩
        have HT2 : Hid (One w w2 #[.int .i64 r.kind, .int .i64 r.seq, .string r.name, .int .i64 r.length, .int .i64 r.group, .int .i64 r.row, .slice ao6 r.rows.1 cap6, .slice ao7 r.data.1 cap7, .slice (some ⟨b, off, none⟩) r.delta.1 cap8] 28) := HT.out.call b2
        have HI2 : Hid (OwnI w2 (w.heap.size + 1) w2.heap.size (.slice ao9 c cap9) c f) := (HI.out.below b2 (Nat.le_refl _)).mono b2.size
        have HH : Hid (t = true ↔ HasP r.rows.1 r.rows.2 (k : Int)) := ht
        have z2 : wr.heap.size ≤ w2.heap.size := b2.size
        clear ht b2 CH HT HI x6 ck
        cases t with
        | false =>
          have HG : Hid (¬ GivenP r (k + 1)) := fun h => by
            have := HH.out.2 (h k (by omega) HN.out)
            cases this
          obtain ⟨f2, hf2⟩ : ∃ f2 : Nat → Int, f2 = fun i => if i = c then (k : Int) else f i := ⟨_, rfl⟩
          have HF : Hid (f2 c = (k : Int)) := by show f2 c = _; rw [hf2]; simp
          have HI3 : Hid (OwnI w2 (w.heap.size + 1) w2.heap.size (.slice ao9 c cap9) c f2) := HI2.out.congr (fun i hi => by rw [hf2]; simp only; rw [if_neg (by omega)])
          clear hf2 HI2
          go_wp2_with (at_builtin; refine wp_appendI rfl (.tmp 23) (.tmp 25) rfl (w.heap.size + 1) w2.heap.size (.slice ao9 c cap9) c f2 ?_ ?_ w2.heap.size 1 ?_ ?_ (by omega) ?_ ?_; (simp [Act.eval]); exact HI3.out.alloc _; (simp [Act.eval]); (rw [HF.out]; simp); (simp; omega); intro v2 w3 o3 b3)
          have b4 : Below (w.heap.size + 1) w2 w3 := ((Below.refl (w.heap.size + 1) w2).alloc (by omega) _).trans b3
          have HT3 : Hid (One w w3 #[.int .i64 r.kind, .int .i64 r.seq, .string r.name, .int .i64 r.length, .int .i64 r.group, .int .i64 r.row, .slice ao6 r.rows.1 cap6, .slice ao7 r.data.1 cap7, .slice (some ⟨b, off, none⟩) r.delta.1 cap8] 28) := ⟨HT2.out.b1.below b4 (by omega), HT2.out.bel.trans (b4.mono (by omega))⟩
          have HI4 : Hid (OwnI w3 (w.heap.size + 1) w3.heap.size v2 (c + 1) f2) := o3
          clear o3 b3 b4 HI3 HT2
          go_wp2
          go_roundw
          case rel => exact ⟨c + 1, k + 1, f2, by omega, by go_num, by omega, ⟨fun h => by omega, fun h => absurd h HG.out⟩, HI4.out, HT3.out⟩
          case measure => simp [intOf]; omega
        | true =>
          go_wp2
          go_roundw
          case rel => exact ⟨c, k + 1, f, by omega, by go_num, by omega, ⟨fun h => (HALL.out.1 h).more (fun _ => HH.out.1 (by simp)), fun h => HALL.out.2 (fun g hg => h g (by omega))⟩, HI2.out, HT2.out⟩
          case measure => simp [intOf]; omega
    · obtain rfl : k = r.delta.1 := by omega
      clear hlt T
      go_wp2
      go_ret
      exact ⟨_, _, _, rfl, HALL.out, hcm, HT.out.bel⟩
set_option maxHeartbeats 8000000 in
set_option maxRecDepth 20000 in
theorem implWhole_any (r : RecD) (cs : List Value) (hi : Nat) (w : World) (h : layRec.rd w hi r cs) (hhi : hi ≤ w.heap.size) (hsz : szRecD r ≤ 1048576) :
    Calls Try.prog 7 #[.agg cs.toArray] w (BoolP (SWholeP r) w) := by
  obtain ⟨ao6, cap6, ao7, cap7, ao8, cap8, rfl, -⟩ := Rec_rd h
  have T0 := one_new w #[.int .i64 r.kind, .int .i64 r.seq, .string r.name, .int .i64 r.length, .int .i64 r.group, .int .i64 r.row, .slice ao6 r.rows.1 cap6, .slice ao7 r.data.1 cap7, .slice ao8 r.delta.1 cap8] 28
  have CG := giversLeft_any r [.int .i64 r.kind, .int .i64 r.seq, .string r.name, .int .i64 r.length, .int .i64 r.group, .int .i64 r.row, .slice ao6 r.rows.1 cap6, .slice ao7 r.data.1 cap7, .slice ao8 r.delta.1 cap8] hi (w.alloc (.cells #[.int .i64 r.kind, .int .i64 r.seq, .string r.name, .int .i64 r.length, .int .i64 r.group, .int .i64 r.row, .slice ao6 r.rows.1 cap6, .slice ao7 r.data.1 cap7, .slice ao8 r.delta.1 cap8] 28)) (layRec.rd_below h T0.bel hhi) (Nat.le_trans hhi T0.bel.size) hsz
  have HT : Hid (One w (w.alloc (.cells #[.int .i64 r.kind, .int .i64 r.seq, .string r.name, .int .i64 r.length, .int .i64 r.group, .int .i64 r.row, .slice ao6 r.rows.1 cap6, .slice ao7 r.data.1 cap7, .slice ao8 r.delta.1 cap8] 28)) #[.int .i64 r.kind, .int .i64 r.seq, .string r.name, .int .i64 r.length, .int .i64 r.group, .int .i64 r.row, .slice ao6 r.rows.1 cap6, .slice ao7 r.data.1 cap7, .slice ao8 r.delta.1 cap8] 28) := T0
  have x_0 : (w.alloc (.cells #[.int .i64 r.kind, .int .i64 r.seq, .string r.name, .int .i64 r.length, .int .i64 r.group, .int .i64 r.row, .slice ao6 r.rows.1 cap6, .slice ao7 r.data.1 cap7, .slice ao8 r.delta.1 cap8] 28)).cell? ⟨w.heap.size, 0, none⟩ = some (.int .i64 r.kind) := T0.b1.cell 0
  have x_1 : (w.alloc (.cells #[.int .i64 r.kind, .int .i64 r.seq, .string r.name, .int .i64 r.length, .int .i64 r.group, .int .i64 r.row, .slice ao6 r.rows.1 cap6, .slice ao7 r.data.1 cap7, .slice ao8 r.delta.1 cap8] 28)).cell? ⟨w.heap.size, 1, none⟩ = some (.int .i64 r.seq) := T0.b1.cell 1
  have x_2 : (w.alloc (.cells #[.int .i64 r.kind, .int .i64 r.seq, .string r.name, .int .i64 r.length, .int .i64 r.group, .int .i64 r.row, .slice ao6 r.rows.1 cap6, .slice ao7 r.data.1 cap7, .slice ao8 r.delta.1 cap8] 28)).cell? ⟨w.heap.size, 2, none⟩ = some (.string r.name) := T0.b1.cell 2
  have x_3 : (w.alloc (.cells #[.int .i64 r.kind, .int .i64 r.seq, .string r.name, .int .i64 r.length, .int .i64 r.group, .int .i64 r.row, .slice ao6 r.rows.1 cap6, .slice ao7 r.data.1 cap7, .slice ao8 r.delta.1 cap8] 28)).cell? ⟨w.heap.size, 3, none⟩ = some (.int .i64 r.length) := T0.b1.cell 3
  have x_4 : (w.alloc (.cells #[.int .i64 r.kind, .int .i64 r.seq, .string r.name, .int .i64 r.length, .int .i64 r.group, .int .i64 r.row, .slice ao6 r.rows.1 cap6, .slice ao7 r.data.1 cap7, .slice ao8 r.delta.1 cap8] 28)).cell? ⟨w.heap.size, 4, none⟩ = some (.int .i64 r.group) := T0.b1.cell 4
  have x_5 : (w.alloc (.cells #[.int .i64 r.kind, .int .i64 r.seq, .string r.name, .int .i64 r.length, .int .i64 r.group, .int .i64 r.row, .slice ao6 r.rows.1 cap6, .slice ao7 r.data.1 cap7, .slice ao8 r.delta.1 cap8] 28)).cell? ⟨w.heap.size, 5, none⟩ = some (.int .i64 r.row) := T0.b1.cell 5
  have x_6 : (w.alloc (.cells #[.int .i64 r.kind, .int .i64 r.seq, .string r.name, .int .i64 r.length, .int .i64 r.group, .int .i64 r.row, .slice ao6 r.rows.1 cap6, .slice ao7 r.data.1 cap7, .slice ao8 r.delta.1 cap8] 28)).cell? ⟨w.heap.size, 6, none⟩ = some (.slice ao6 r.rows.1 cap6) := T0.b1.cell 6
  have x_7 : (w.alloc (.cells #[.int .i64 r.kind, .int .i64 r.seq, .string r.name, .int .i64 r.length, .int .i64 r.group, .int .i64 r.row, .slice ao6 r.rows.1 cap6, .slice ao7 r.data.1 cap7, .slice ao8 r.delta.1 cap8] 28)).cell? ⟨w.heap.size, 7, none⟩ = some (.slice ao7 r.data.1 cap7) := T0.b1.cell 7
  have x_8 : (w.alloc (.cells #[.int .i64 r.kind, .int .i64 r.seq, .string r.name, .int .i64 r.length, .int .i64 r.group, .int .i64 r.row, .slice ao6 r.rows.1 cap6, .slice ao7 r.data.1 cap7, .slice ao8 r.delta.1 cap8] 28)).cell? ⟨w.heap.size, 8, none⟩ = some (.slice ao8 r.delta.1 cap8) := T0.b1.cell 8
  clear h T0
  go_enter Try.func7, Try.ntmps7
  by_cases hk4 : r.kind = 4
  case neg =>
    have hne : (r.kind == 4) = false := by simp [hk4]
    have HK : Hid (¬ r.kind = 4) := hk4
    clear hk4 CG
    go_wp2
    go_ret
    exact boolNo rfl (fun h => HK.out h.1) HT.out.bel
  have hne : (r.kind == 4) = true := by simp [hk4]
  have HK : Hid (r.kind = 4) := hk4
  clear hk4
  go_wp2_with fail
  refine CG.mono ?_
  rintro e w2 ⟨ao, n, cap, rfl, hn, hm, b2⟩
  have HN : Hid (n = 0 ↔ GivenP r r.delta.1) := hn
  have HB : Hid (Below w.heap.size w w2) := HT.out.bel.trans (b2.mono HT.out.bel.size)
  unfold maxLen at hm
  clear hn b2 CG x_0 x_1 x_2 x_3 x_4 x_5 x_6 x_7 x_8 HT
  by_cases h0 : n = 0
  · have hb : ((n : Int) == 0) = true := by simp [h0]
    have H0 : Hid (n = 0) := h0
    clear h0
    go_wp2
    go_ret
    exact boolYes rfl ⟨HK.out, HN.out.1 H0.out⟩ HB.out
  · have hb : ((n : Int) == 0) = false := by simp [h0]
    have H0 : Hid (¬ n = 0) := h0
    clear h0
    go_wp2
    go_ret
    exact boolNo rfl (fun h => H0.out (HN.out.2 h.2)) HB.out
end Go.Proofs.Ytanlgabdpnnfbaa

namespace Go.Proofs.Ytanlgabdpnnfbaa
open Go.ChangeShapes Go.WideShapes Go.ChangeAt Go.RowKit F256
set_option linter.unusedVariables false
set_option linter.unusedSimpArgs false
theorem rec9 {w : World} {hi : Nat} {d : RecD} {cs : List Value} (h : layRec.rd w hi d cs) : ∃ v0 v1 v2 v3 v4 v5 vp6 vl6 vq6 vp7 vl7 vq7 vp8 vl8 vq8, cs = [.int .i64 v0, .int .i64 v1, .string v2, .int .i64 v3, .int .i64 v4, .int .i64 v5, .slice vp6 vl6 vq6, .slice vp7 vl7 vq7, .slice vp8 vl8 vq8] := by
  obtain ⟨p1, pc1, p2, pc2, p3, pc3, rfl, -⟩ := Rec_rd h
  exact ⟨_, _, _, _, _, _, _, _, _, _, _, _, _, _, _, rfl⟩
theorem nine_cells {w : World} {b : Nat} {t : TypeId} {a0 a1 a2 a3 a4 a5 a6 a7 a8 : Value} (h : Box w b #[a0, a1, a2, a3, a4, a5, a6, a7, a8] t) :
    w.cell? ⟨b, 0, none⟩ = some a0 ∧ w.cell? ⟨b, 1, none⟩ = some a1 ∧ w.cell? ⟨b, 2, none⟩ = some a2 ∧ w.cell? ⟨b, 3, none⟩ = some a3 ∧ w.cell? ⟨b, 4, none⟩ = some a4 ∧ w.cell? ⟨b, 5, none⟩ = some a5 ∧ w.cell? ⟨b, 6, none⟩ = some a6 ∧ w.cell? ⟨b, 7, none⟩ = some a7 ∧ w.cell? ⟨b, 8, none⟩ = some a8 :=
  ⟨h.cell 0, h.cell 1, h.cell 2, h.cell 3, h.cell 4, h.cell 5, h.cell 6, h.cell 7, h.cell 8⟩
set_option maxHeartbeats 16000000 in
set_option maxRecDepth 20000 in
theorem fnExactShareWhole_walk (d1 : RecD) (c1 : List Value) (w : World) (r1 : layRec.rd w w.heap.size d1 c1) :
    Calls Try.prog 3 #[.agg c1.toArray] w fun e w' => e = .returned (.bool true) ∧ Below w.heap.size w w' := by
  obtain ⟨ka0, ka1, ka2, ka3, ka4, ka5, kap6, kal6, kaq6, kap7, kal7, kaq7, kap8, kal8, kaq8, rfl⟩ := rec9 r1
  obtain ⟨X, hX⟩ := exB (SWholeP d1)
  have T0 := one_new w #[.int .i64 ka0, .int .i64 ka1, .string ka2, .int .i64 ka3, .int .i64 ka4, .int .i64 ka5, .slice kap6 kal6 kaq6, .slice kap7 kal7 kaq7, .slice kap8 kal8 kaq8] 25
  go_enter Try.func3, Try.ntmps3
  go_wp2_with fail
  refine (szRec_is _ d1 w.heap.size 1048576 _ (layRec.rd_below r1 T0.bel (Nat.le_refl _)) T0.bel.size (by omega)).mono ?_
  rintro e w1 ⟨x, rfl, hx, b1⟩
  have T1 := T0.call b1
  clear b1 T0
  have HT1 : Hid (One w w1 #[.int .i64 ka0, .int .i64 ka1, .string ka2, .int .i64 ka3, .int .i64 ka4, .int .i64 ka5, .slice kap6 kal6 kaq6, .slice kap7 kal7 kaq7, .slice kap8 kal8 kaq8] 25) := T1
  rcases hx with rfl | ⟨hsz1, hx⟩
  · clear T1
    go_wp2
    go_ret
    exact ⟨rfl, HT1.out.bel⟩
  have hx0 : ¬ x < 0 := by omega
  have CA : ∀ w', Below w1.heap.size w1 w' → Calls Try.prog 6 #[.agg #[.int .i64 ka0, .int .i64 ka1, .string ka2, .int .i64 ka3, .int .i64 ka4, .int .i64 ka5, .slice kap6 kal6 kaq6, .slice kap7 kal7 kaq7, .slice kap8 kal8 kaq8]] w' fun e w'' => ∃ cs', e = .returned (.agg cs'.toArray) ∧ OwnT layRec w'' w'.heap.size w''.heap.size d1 cs' ∧ Below w'.heap.size w' w'' := fun w' hb =>
    toRec_is _ d1 w.heap.size w' (layRec.rd_below (layRec.rd_below r1 HT1.out.bel (Nat.le_refl _)) hb HT1.out.bel.size) (Nat.le_trans HT1.out.bel.size hb.size) hsz1
  have CS := fun (k1 : List Value) (h1 : Nat) (w' : World) (q1 : layRec.rd w' h1 d1 k1) (u1 : h1 ≤ w'.heap.size) => det_b (specWhole_any d1 k1 h1 w' q1 u1 hsz1) hX
  have CI := fun (k1 : List Value) (h1 : Nat) (w' : World) (q1 : layRec.rd w' h1 d1 k1) (u1 : h1 ≤ w'.heap.size) => det_b (implWhole_any d1 k1 h1 w' q1 u1 hsz1) hX
  obtain ⟨xa0, xa1, xa2, xa3, xa4, xa5, xa6, xa7, xa8⟩ := nine_cells T1.b1
  clear hx hX hsz1 r1 T1
  go_wp2_with fail
  refine (CA _ (Below.refl _ _)).mono ?_
  rintro e w3 ⟨c3, rfl, o3, b3⟩
  go_wp2_with fail
  refine (CS _ _ _ o3.rd (Nat.le_refl _)).mono ?_
  rintro e w5 ⟨rfl, b5⟩
  have HB5 : Hid (Below w1.heap.size w1 w5) := b3.trans (b5.mono b3.size)
  have HT5 : Hid (One w w5 #[.int .i64 ka0, .int .i64 ka1, .string ka2, .int .i64 ka3, .int .i64 ka4, .int .i64 ka5, .slice kap6 kal6 kaq6, .slice kap7 kal7 kaq7, .slice kap8 kal8 kaq8] 25) := HT1.out.call HB5.out
  clear xa0 xa1 xa2 xa3 xa4 xa5 xa6 xa7 xa8 b3 b5 o3
  obtain ⟨xa0, xa1, xa2, xa3, xa4, xa5, xa6, xa7, xa8⟩ := nine_cells HT5.out.b1
  go_wp2_with fail
  refine (CA _ HB5.out).mono ?_
  rintro e w6 ⟨c6, rfl, o6, b6⟩
  obtain ⟨kx0, kx1, kx2, kx3, kx4, kx5, kxp6, kxl6, kxq6, kxp7, kxl7, kxq7, kxp8, kxl8, kxq8, rfl⟩ := rec9 o6.rd
  clear xa0 xa1 xa2 xa3 xa4 xa5 xa6 xa7 xa8
  go_upto_region 7 with fail
  have bA : Below w6.heap.size w6 (w6.alloc (.cells #[.int .i64 kx0, .int .i64 kx1, .string kx2, .int .i64 kx3, .int .i64 kx4, .int .i64 kx5, .slice kxp6 kxl6 kxq6, .slice kxp7 kxl7 kxq7, .slice kxp8 kxl8 kxq8] 28)) := (Below.refl _ _).alloc (Nat.le_refl _) _
  have X7 : Box (w6.alloc (.cells #[.int .i64 kx0, .int .i64 kx1, .string kx2, .int .i64 kx3, .int .i64 kx4, .int .i64 kx5, .slice kxp6 kxl6 kxq6, .slice kxp7 kxl7 kxq7, .slice kxp8 kxl8 kxq8] 28)) w6.heap.size #[.int .i64 kx0, .int .i64 kx1, .string kx2, .int .i64 kx3, .int .i64 kx4, .int .i64 kx5, .slice kxp6 kxl6 kxq6, .slice kxp7 kxl7 kxq7, .slice kxp8 kxl8 kxq8] 28 := box_new _ _ _
  obtain ⟨W7, hW7⟩ : ∃ x, x = w6.alloc (.cells #[.int .i64 kx0, .int .i64 kx1, .string kx2, .int .i64 kx3, .int .i64 kx4, .int .i64 kx5, .slice kxp6 kxl6 kxq6, .slice kxp7 kxl7 kxq7, .slice kxp8 kxl8 kxq8] 28) := ⟨_, rfl⟩
  rw [← hW7] at bA X7 ⊢
  have HT7 : Hid (One w W7 #[.int .i64 ka0, .int .i64 ka1, .string ka2, .int .i64 ka3, .int .i64 ka4, .int .i64 ka5, .slice kap6 kal6 kaq6, .slice kap7 kal7 kaq7, .slice kap8 kal8 kaq8] 25) := (HT5.out.call b6).call bA
  have HX7 : Hid (Box W7 w6.heap.size #[.int .i64 kx0, .int .i64 kx1, .string kx2, .int .i64 kx3, .int .i64 kx4, .int .i64 kx5, .slice kxp6 kxl6 kxq6, .slice kxp7 kxl7 kxq7, .slice kxp8 kxl8 kxq8] 28) := X7
  have HO7 : Hid (OwnT layRec W7 w5.heap.size w6.heap.size d1 [.int .i64 kx0, .int .i64 kx1, .string kx2, .int .i64 kx3, .int .i64 kx4, .int .i64 kx5, .slice kxp6 kxl6 kxq6, .slice kxp7 kxl7 kxq7, .slice kxp8 kxl8 kxq8]) := o6.call bA
  have HB7 : Hid (Below w1.heap.size w1 W7) := (HB5.out.trans (b6.mono HB5.out.size)).trans (bA.mono (Nat.le_trans HB5.out.size b6.size))
  have z56 : w5.heap.size ≤ w6.heap.size := b6.size
  have z67 : w6.heap.size < W7.heap.size := X7.lt
  obtain ⟨xx0, xx1, xx2, xx3, xx4, xx5, xx6, xx7, xx8⟩ := nine_cells X7
  clear X7 o6 b6 bA hW7
  go_wp2_with fail
  refine (CI _ _ _ HO7.out.rd (by omega)).mono ?_
  rintro e w10 ⟨rfl, b10⟩
  have HT10 : Hid (One w w10 #[.int .i64 ka0, .int .i64 ka1, .string ka2, .int .i64 ka3, .int .i64 ka4, .int .i64 ka5, .slice kap6 kal6 kaq6, .slice kap7 kal7 kaq7, .slice kap8 kal8 kaq8] 25) := HT7.out.call b10
  have HX10 : Hid (Box w10 w6.heap.size #[.int .i64 kx0, .int .i64 kx1, .string kx2, .int .i64 kx3, .int .i64 kx4, .int .i64 kx5, .slice kxp6 kxl6 kxq6, .slice kxp7 kxl7 kxq7, .slice kxp8 kxl8 kxq8] 28) := HX7.out.call b10
  have HO10 : Hid (OwnT layRec w10 w5.heap.size w6.heap.size d1 [.int .i64 kx0, .int .i64 kx1, .string kx2, .int .i64 kx3, .int .i64 kx4, .int .i64 kx5, .slice kxp6 kxl6 kxq6, .slice kxp7 kxl7 kxq7, .slice kxp8 kxl8 kxq8]) := HO7.out.call b10
  have HB10 : Hid (Below w1.heap.size w1 w10) := HB7.out.trans (b10.mono HB7.out.size)
  have z9x : W7.heap.size ≤ w10.heap.size := b10.size
  clear b10 xx0 xx1 xx2 xx3 xx4 xx5 xx6 xx7 xx8 HX7 HO7 HB7 HT7
  obtain ⟨xx0, xx1, xx2, xx3, xx4, xx5, xx6, xx7, xx8⟩ := nine_cells HX10.out
  obtain ⟨xa0, xa1, xa2, xa3, xa4, xa5, xa6, xa7, xa8⟩ := nine_cells HT10.out.b1
  have hXX : (X != X) = false := by cases X <;> rfl
  go_upto_region 10 with fail
  go_cut [26] (fun v wx => v = .bool false ∧ Below w10.heap.size w10 wx)
  case first =>
    go_region_with (first | (go_at_call 6; refine (CA _ (HB10.out.trans ((below_drewN (Below.refl _ _) 1).mono HB10.out.size))).mono ?_; rintro ee wb ⟨cs', rfl, oR, bb⟩; have bR : Below w10.heap.size w10 wb := (below_drewN (Below.refl _ _) 1).trans bb; obtain ⟨qb0, qb1, qb2, qb3, qb4, qb5, qb6, qb7, qb8⟩ := nine_cells (HX10.out.call bR)) | (go_at_call 8; refine (eqRec_is _ _ d1 _ _ _ (HO10.out.call bR).rd oR.rd (Nat.le_trans (by omega) bR.size) (Nat.le_refl _)).mono ?_; rintro ee wc' ⟨rfl, bc⟩; have bC : Below w10.heap.size w10 wc' := bR.trans (bc.mono bR.size)))
    all_goals
      go_wp2
      go_meet
      exact ⟨rfl, bC⟩
  case rest =>
    obtain ⟨rfl, b12⟩ := hcut
    have HB12 : Hid (Below w.heap.size w wc) := (HT10.out.call b12).bel
    clear b12
    go_wp2
    go_ret
    exact ⟨rfl, HB12.out⟩

set_option maxRecDepth 100000 in
theorem fnExactShareWhole_lifted (os : Os) (started : os.Started) (H : Type) (enc : TypeId × Value → H) :
    ReturnsInHanded {} Try.checked os 3 .any (Rows.fnExactShareWholeSpec.pre6 enc Try.prog Try.f3 Rows.fnExactShareWholeRow.domain false) (Rows.fnExactShareWholeSpec.post enc Try.prog Try.f3 false true false false) := by
  refine returnsInHanded_of_change (C := Try.checked) frame_own started (by kernel_rfl) Try.func3
    (ChangeSpec.witness6 (enc := enc) (C := Try.checked) false ⟨#[], #[.agg #[.int .i64 0, .int .i64 0, .string ByteArray.empty, .int .i64 0, .int .i64 0, .int .i64 0, .slice none 0 0, .slice none 0 0, .slice none 0 0]], []⟩ 8 (by kernel_rfl) (by kernel_rfl) (by kernel_rfl) (by kernel_rfl)) ?_
  intro W base args ds gs before hval0 hW hcnd _
  have hval : ∀ (j : Nat) t v, Try.f3.params[j]? = some t → args[j]? = some v → Value.okWide Try.prog W .any base t v := hval0
  have hW' := hW
  obtain ⟨p, q, hA0, hV, rfl, hfz, hnd⟩ := hW
  have hA : DataW.TrodAll enc Try.prog W 0 (fun _ => true) true Try.f3.params.toList args.toList ds p := hA0
  rw [Try.params3] at hA hval
  obtain ⟨v0, vs0, d0, ds0, p0, q0, hargs, rfl, rfl, h0, r0⟩ := trodAll_cons hA
  obtain ⟨rfl, rfl, rfl⟩ := trodAll_nil r0
  obtain rfl : args = #[v0] := by cases args; simp_all
  obtain ⟨rfl, rfl⟩ := trodVars_none hV
  have k0 := h0
  have lt0 : ∀ x ∈ p0, x.block < W.heap.size := by obtain ⟨m, hm⟩ := k0; exact DataW.trod_lt m _ _ _ hm
  obtain ⟨cs0, a0, rfl, rd0⟩ := struct_of_trod opensRec Try.underlying25 (hval 0 25 v0 rfl rfl) h0
  clear hA0 hval0
  refine (fnExactShareWhole_walk a0 cs0 W rd0).mono fun e W' ⟨he, bel⟩ => ?_
  subst he
  exact ⟨_, rfl, _, _, _, [], _, [], hW', trodAll_mk1 (shut_bool Try.underlying4 _), (trodAll_cons_mk (Below.trod frame_laid (by kernel_rfl) (of_decide_eq_true (by kernel_rfl)) k0 bel lt0) trodAll_mk0), rfl, bel.frame _, fun h => by cases h⟩

theorem fnExactShareWhole_proved : Rows.FnExactShareWholeSaid :=
  OpenClaim.holds_of_wide 3 Try.f3 rfl rfl rfl rfl rfl rfl rfl ⟨rfl, rfl, rfl, rfl, rfl⟩ rfl rfl rfl rfl rfl (by kernel_rfl) Try.func3 (by kernel_rfl)
    (of_decide_eq_true (by kernel_rfl)) (by unfold Func.isWrapper; first | (rw [if_pos (by decide +kernel)]; kernel_rfl) | (rw [if_neg (by decide +kernel)]; exact ⟨rfl, rfl⟩))
    (fun os started H enc _ => fnExactShareWhole_lifted os started H enc)
#print axioms fnExactShareWhole_proved
end Go.Proofs.Ytanlgabdpnnfbaa
