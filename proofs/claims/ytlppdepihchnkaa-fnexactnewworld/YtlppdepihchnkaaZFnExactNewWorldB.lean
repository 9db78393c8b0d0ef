/- A block that was laid, behind the laying of another one. -/
import Derived.Test.YtlppdepihchnkaaWShape
import Derived.Test.YtlppdepihchnkaaCells
import Derived.Test.YtlppdepihchnkaaWRowF
import Derived.Test.YtlppdepihchnkaaProg
import Derived.Test.YtlppdepihchnkaaBits
import Derived.WalkLawsBesides
import Derived.Test.YtlppdepihchnkaaColDefs
import Derived.Test.YtlppdepihchnkaaWColA
import Derived.Test.YtlppdepihchnkaaWInts
import Derived.Lib.QuietBelow
import Derived.Test.YtlppdepihchnkaaZFnExactNewWorldA
import Derived.Deep.RegionLaw
import Derived.Deep.DeepCutAuto
import Derived.Test.YtlppdepihchnkaaWRowA
namespace Go.Proofs.Ytlppdepihchnkaa
open Go.RowKit F256
set_option linter.unusedVariables false
set_option linter.unusedSimpArgs false

/-- the bytes of a string -/
def nameByte (b : ByteArray) (i : Nat) : Nat := if h : i < b.size then (b[i]'h).toNat else 0
theorem nameByte_lt (b : ByteArray) (i : Nat) : nameByte b i < 256 := by
  unfold nameByte
  split
  · exact UInt8.toNat_lt _
  · omega
theorem index_name (b : ByteArray) (i : Nat) (h : i < b.size) (w : World) : (Instr.index 9 (.string b) (.int .i64 (i : Int))).run Try.prog w = .ok (.int .u8 (nameByte b i)) w := by
  rw [run_index_string w 9 b .i64 (i : Int) Try.underlying9, dif_pos ⟨by omega, by omega⟩]
  simp [nameByte, h]
def LetP (y : Nat) : Prop := 97 ≤ y ∧ y ≤ 122
def DigP (y : Nat) : Prop := 48 ≤ y ∧ y ≤ 57
/-- a name that has no fault -/
def OkName (b : ByteArray) : Prop := 1 ≤ b.size ∧ b.size ≤ 8 ∧ LetP (nameByte b 0) ∧ ∀ i, i < b.size → LetP (nameByte b i) ∨ DigP (nameByte b i)
def NmAns (b : ByteArray) (x : Int) : Prop := (x = 5 ∧ ¬ OkName b) ∨ (x = 0 ∧ OkName b)
theorem NmAns.one {b : ByteArray} {x y : Int} (h : NmAns b x) (k : NmAns b y) : x = y := by
  rcases h with ⟨rfl, h⟩ | ⟨rfl, h⟩ <;> rcases k with ⟨rfl, k⟩ | ⟨rfl, k⟩ <;> first | rfl | exact absurd h k | exact absurd k h

set_option maxHeartbeats 4000000 in
theorem specName_any (b : ByteArray) (hb : b.size ≤ 1048576) (w : World) :
    Calls Try.prog 35 #[.string b] w fun e w' => ∃ x, e = .returned (.int .i64 x) ∧ NmAns b x ∧ w' = w := by
  by_cases h1 : 1 ≤ b.size
  · have t1 : decide ((b.size : Int) < 1) = false := by simp; omega
    have t1n : decide (b.size < 1) = false := decide_eq_false (by omega)
    have t1z : decide (b.size = 0) = false := decide_eq_false (by omega)
    by_cases h2 : b.size ≤ 8
    · have t2 : decide ((8 : Int) < (b.size : Int)) = false := by simp; omega
      have t2n : decide (8 < b.size) = false := by simp; omega
      have hix := index_name b 0 h1
      have e0 : ((0 : Nat) : Int) = 0 := rfl
      rw [e0] at hix
      obtain ⟨y, hy⟩ : ∃ y, y = nameByte b 0 := ⟨_, rfl⟩
      rw [← hy] at hix
      have HY : Hid (y = nameByte b 0) := hy
      clear e0 hy
      by_cases h3 : y < 97
      · have HN : Hid (¬ OkName b) := fun h => by have := h.2.2.1.1; rw [← HY.out] at this; omega
        have t3 : decide ((y : Int) < 97) = true := by simp; omega
        go_enter Try.func35, Try.ntmps35
        go_wp2
        go_ret
        exact ⟨5, rfl, .inl ⟨rfl, HN.out⟩, rfl⟩
      · have t3 : decide ((y : Int) < 97) = false := by simp; omega
        have t3n : decide (y < 97) = false := by simp; omega
        by_cases h4 : 122 < y
        · have HN : Hid (¬ OkName b) := fun h => by have := h.2.2.1.2; rw [← HY.out] at this; omega
          have t4 : decide ((122 : Int) < (y : Int)) = true := by simp; omega
          clear h3
          go_enter Try.func35, Try.ntmps35
          go_wp2
          go_ret
          exact ⟨5, rfl, .inl ⟨rfl, HN.out⟩, rfl⟩
        · have t4 : decide ((122 : Int) < (y : Int)) = false := by simp; omega
          have t4n : decide (122 < y) = false := by simp; omega
          have HL : Hid (LetP (nameByte b 0)) := by show LetP (nameByte b 0); rw [← HY.out]; exact ⟨by omega, by omega⟩
          clear h3 h4
          go_enter Try.func35, Try.ntmps35
          go_wp2
          go_loop [3] (fun i => ∃ k : Nat, k ≤ b.size ∧ i = .int .i64 k ∧ ∀ i, i < k → LetP (nameByte b i) ∨ DigP (nameByte b i)) (fun i => b.size - (intOf i).toNat)
          case atStart => exact ⟨0, Nat.zero_le _, rfl, fun i hi => by omega⟩
          case round =>
            obtain ⟨k, hk, rfl, hall⟩ := hrel
            have HALL : Hid (∀ i, i < k → LetP (nameByte b i) ∨ DigP (nameByte b i)) := hall
            clear hall
            by_cases hlt : k < b.size
            · have hik := index_name b k hlt
              obtain ⟨z, hz⟩ : ∃ z, z = nameByte b k := ⟨_, rfl⟩
              rw [← hz] at hik
              have HZ : Hid (z = nameByte b k) := hz
              clear hz
              by_cases c1 : z < 97
              · have s1 : decide ((z : Int) < 97) = true := by simp; omega
                by_cases c3 : z < 48
                · have s3 : decide ((z : Int) < 48) = true := by simp; omega
                  have HN : Hid (¬ OkName b) := fun h => by
                    have := h.2.2.2 k hlt
                    rw [← HZ.out] at this
                    unfold LetP DigP at this
                    omega
                  go_wp2
                  go_ret
                  exact ⟨5, rfl, .inl ⟨rfl, HN.out⟩, rfl⟩
                · have s3 : decide ((z : Int) < 48) = false := by simp; omega
                  have s3n : decide (z < 48) = false := by simp; omega
                  by_cases c4 : 57 < z
                  · have s4 : decide ((57 : Int) < (z : Int)) = true := by simp; omega
                    have HN : Hid (¬ OkName b) := fun h => by
                      have := h.2.2.2 k hlt
                      rw [← HZ.out] at this
                      unfold LetP DigP at this
                      omega
                    clear c3
                    go_wp2
                    go_ret
                    exact ⟨5, rfl, .inl ⟨rfl, HN.out⟩, rfl⟩
                  · have s4 : decide ((57 : Int) < (z : Int)) = false := by simp; omega
                    have s4n : decide (57 < z) = false := by simp; omega
                    have HD : Hid (DigP (nameByte b k)) := by show DigP (nameByte b k); rw [← HZ.out]; exact ⟨by omega, by omega⟩
                    clear c3 c4
                    go_wp2
                    go_round
                    case rel => exact ⟨k + 1, by omega, by go_num, fun i hi => by
                                  by_cases c : i = k
                                  · right; rw [c]; exact HD.out
                                  · exact HALL.out i (by omega)⟩
                    case measure => simp [intOf]; omega
              · have s1 : decide ((z : Int) < 97) = false := by simp; omega
                have s1n : decide (z < 97) = false := by simp; omega
                by_cases c2 : 122 < z
                · have s2 : decide ((122 : Int) < (z : Int)) = true := by simp; omega
                  have s3 : decide ((z : Int) < 48) = false := by simp; omega
                  have s3n : decide (z < 48) = false := by simp; omega
                  have s4 : decide ((57 : Int) < (z : Int)) = true := by simp; omega
                  have HN : Hid (¬ OkName b) := fun h => by
                    have := h.2.2.2 k hlt
                    rw [← HZ.out] at this
                    unfold LetP DigP at this
                    omega
                  clear c1
                  go_wp2
                  go_ret
                  exact ⟨5, rfl, .inl ⟨rfl, HN.out⟩, rfl⟩
                · have s2 : decide ((122 : Int) < (z : Int)) = false := by simp; omega
                  have s2n : decide (122 < z) = false := by simp; omega
                  have HD : Hid (LetP (nameByte b k)) := by show LetP (nameByte b k); rw [← HZ.out]; exact ⟨by omega, by omega⟩
                  clear c1 c2
                  go_wp2
                  go_round
                  case rel => exact ⟨k + 1, by omega, by go_num, fun i hi => by
                                by_cases c : i = k
                                · left; rw [c]; exact HD.out
                                · exact HALL.out i (by omega)⟩
                  case measure => simp [intOf]; omega
            · obtain rfl : k = b.size := by omega
              have HY2 : Hid (OkName b) := ⟨h1, h2, HL.out, HALL.out⟩
              go_wp2
              go_ret
              exact ⟨0, rfl, .inr ⟨rfl, HY2.out⟩, rfl⟩
    · have HN : Hid (¬ OkName b) := fun h => h2 h.2.1
      have t2 : decide ((8 : Int) < (b.size : Int)) = true := by simp; omega
      have t2i : (8 : Int) < (b.size : Int) := by omega
      clear h2
      go_enter Try.func35, Try.ntmps35
      go_wp2
      go_ret
      exact ⟨5, rfl, .inl ⟨rfl, HN.out⟩, rfl⟩
  · have HN : Hid (¬ OkName b) := fun h => h1 h.1
    have t1 : decide ((b.size : Int) < 1) = true := by simp; omega
    have t1i : (b.size : Int) < 1 := by omega
    clear h1
    go_enter Try.func35, Try.ntmps35
    go_wp2
    go_ret
    exact ⟨5, rfl, .inl ⟨rfl, HN.out⟩, rfl⟩
end Go.Proofs.Ytlppdepihchnkaa

namespace Go.Proofs.Ytlppdepihchnkaa
open Go.RowKit F256
set_option linter.unusedVariables false

def InP (x a b : Int) : Prop := a ≤ x ∧ x ≤ b
/-- numbers from 0 to most, no two alike -/
def ApartP (n : Nat) (g : Nat → Int) (most : Int) : Prop := ∀ i, i < n → InP (g i) 0 most ∧ ∀ t, t < i → g t ≠ g i
def ItemP (s : Nat → Int) (r : RecD) : Prop :=
  (r.length = -1 ∧ r.data.1 = 0 ∧ r.rows.1 = 0) ∨
  (r.length ≠ -1 ∧ 1 ≤ r.length ∧ r.length ≤ 3 * (s 2 * 4) ∧
    ((0 < r.data.1 ∧ (r.data.1 : Int) = r.length ∧ r.rows.1 = 0) ∨
     (r.data.1 = 0 ∧ (r.rows.1 : Int) = (r.length + s 2 * 4 - 1) / (s 2 * 4) ∧ ApartP r.rows.1 r.rows.2 (s 4 - 1))))
def MoveP (s : Nat → Int) (r : RecD) : Prop := InP r.group 0 (s 0 - 1) ∧ InP r.row 0 (s 4 - 1) ∧ (r.data.1 : Int) = s 2 * 4 ∧ (r.delta.1 : Int) = s 2 * 4
def DoneP (s : Nat → Int) (r : RecD) : Prop := InP r.group 0 (s 0 + s 1 - 1)
def WeightsP (s : Nat → Int) (r : RecD) : Prop := (r.delta.1 : Int) = s 0 + s 1 ∧ r.delta.2 r.group.toNat = 0 ∧ ∀ i, i < r.rows.1 → r.delta.2 (r.rows.2 i).toNat ≠ 0
def ShareP (s : Nat → Int) (r : RecD) : Prop := InP r.group 0 (s 0 + s 1 - 1) ∧ InP r.row 0 (s 4 - 1) ∧ RiseP r.rows.1 r.rows.2 (s 0 + s 1 - 1) ∧ (r.data.1 : Int) = s 2 * 4 ∧ WeightsP s r
def KindP (s : Nat → Int) (r : RecD) : Prop := (r.kind = 1 ∧ ItemP s r) ∨ (r.kind = 2 ∧ MoveP s r) ∨ (r.kind = 3 ∧ DoneP s r) ∨ (r.kind = 4 ∧ ShareP s r)
def noName (r : RecD) : Prop := r.name = ByteArray.empty ∧ r.length = 0
def BlankP (r : RecD) : Prop :=
  (r.kind = 1 ∧ r.group = 0 ∧ r.row = 0 ∧ r.delta.1 = 0) ∨ (r.kind = 2 ∧ noName r ∧ r.rows.1 = 0) ∨
  (r.kind = 3 ∧ noName r ∧ r.row = 0 ∧ r.rows.1 = 0 ∧ r.data.1 = 0 ∧ r.delta.1 = 0) ∨ (r.kind = 4 ∧ noName r)
def NamedP (r : RecD) : Prop := r.kind = 1 → OkName r.name
/-- codes asked one behind the other: the first that falls is told; behind them all K -/
def Stair : List (Prop × Int) → (Int → Prop) → Int → Prop
  | [], K, x => K x
  | (p, c) :: l, K, x => (¬ p ∧ x = c) ∨ (p ∧ Stair l K x)
theorem Stair.fall {p : Prop} {c : Int} {l : List (Prop × Int)} {K : Int → Prop} (h : ¬ p) : Stair ((p, c) :: l) K c := .inl ⟨h, rfl⟩
theorem Stair.pass {p : Prop} {c : Int} {l : List (Prop × Int)} {K : Int → Prop} {x : Int} (h : p) (k : Stair l K x) : Stair ((p, c) :: l) K x := .inr ⟨h, k⟩
theorem Stair.last {K : Int → Prop} {x : Int} (h : K x) : Stair [] K x := h
theorem Stair.one {K : Int → Prop} (hK : ∀ x y, K x → K y → x = y) : ∀ (l : List (Prop × Int)) {x y : Int}, Stair l K x → Stair l K y → x = y
  | [], x, y, h, k => hK x y h k
  | (p, c) :: l, x, y, h, k => by
    rcases h with ⟨h1, h2⟩ | ⟨h1, h2⟩ <;> rcases k with ⟨k1, k2⟩ | ⟨k1, k2⟩
    · rw [h2, k2]
    · exact absurd k1 h1
    · exact absurd h1 k1
    · exact Stair.one hK l h2 k2
def isZ (x : Int) : Prop := x = 0
theorem isZ_one (x y : Int) (h : isZ x) (k : isZ y) : x = y := by rw [show x = 0 from h, show y = 0 from k]
/-- what RecFault tells -/
def RecAns (s : Nat → Int) (r : RecD) (x : Int) : Prop :=
  Stair [(OkShape s, 3), (InP r.kind 1 4, 5), (InP r.seq 1 1000000000, 3), (NamedP r, 5), (KindP s r, 3), (BlankP r, 1)] isZ x
theorem RecAns.one {s : Nat → Int} {r : RecD} {x y : Int} (h : RecAns s r x) (k : RecAns s r y) : x = y := Stair.one isZ_one _ h k

/-- groups, drives and blocks as the shape has them -/
def BlockP (b : BlockD) : Prop := InP b.stamp 0 1000000000 ∧ b.bytes.1 = 4
def BlocksP (s : Nat → Int) (p : Nat × (Nat → BlockD)) : Prop := (p.1 : Int) = s 4 ∧ ∀ i, i < p.1 → BlockP (p.2 i)
def DrivesP (s : Nat → Int) (p : Nat × (Nat → DriveD)) : Prop := (p.1 : Int) = s 2 + s 3 ∧ ∀ i, i < p.1 → BlocksP s (p.2 i).blocks
def BuiltP (d : WorldD) : Prop := (d.groups.1 : Int) = d.shape 0 + d.shape 1 ∧ ∀ i, i < d.groups.1 → DrivesP d.shape (d.groups.2 i)
def OnP (d : WorldD) : Prop := ApartP d.on.1 d.on.2 (d.shape 0 + d.shape 1 - 1) ∧ (d.on.1 : Int) ≤ d.shape 5 ∧ (d.down = true → d.on.1 = 0)
def FormP (d : WorldD) : Prop := BuiltP d ∧ OnP d ∧ d.tapes.1 = 2
def FewP (d : WorldD) : Prop := ∀ t, t < d.tapes.1 → (d.tapes.2 t).recs.1 ≤ 200
/-- the first record that has a fault -/
def RecsAns (s : Nat → Int) (n : Nat) (x : Nat → TapeD) (c : Int) : Prop :=
  (c = 0 ∧ ∀ t, t < n → ∀ i, i < (x t).recs.1 → RecAns s ((x t).recs.2 i) 0) ∨
  (c ≠ 0 ∧ ∃ t i, t < n ∧ i < (x t).recs.1 ∧ RecAns s ((x t).recs.2 i) c ∧ (∀ k, k < i → RecAns s ((x t).recs.2 k) 0) ∧ ∀ u, u < t → ∀ k, k < (x u).recs.1 → RecAns s ((x u).recs.2 k) 0)
theorem RecsAns.one {s : Nat → Int} {n : Nat} {x : Nat → TapeD} {c e : Int} (h : RecsAns s n x c) (k : RecsAns s n x e) : c = e := by
  rcases h with ⟨rfl, h⟩ | ⟨hc, t, i, ht, hi, hr, hb, hu⟩ <;> rcases k with ⟨rfl, k⟩ | ⟨kc, t', i', kt, ki, kr, kb, ku⟩
  · rfl
  · exact absurd (kr.one (h t' kt i' ki)) kc
  · exact absurd (hr.one (k t ht i hi)) hc
  · rcases Nat.lt_trichotomy t t' with c1 | c1 | c1
    · exact absurd (hr.one (ku t c1 i hi)) hc
    · subst c1
      rcases Nat.lt_trichotomy i i' with c2 | c2 | c2
      · exact absurd (hr.one (kb i c2)) hc
      · subst c2; exact hr.one kr
      · exact absurd (kr.one (hb i' c2)) kc
    · exact absurd (kr.one (hu t' c1 i' ki)) kc
def CleanP (d : WorldD) : Prop := ∀ t, t < d.tapes.1 → (d.tapes.2 t).wiped = true → (d.tapes.2 t).recs.1 = 0
def CountP (d : WorldD) : Prop := InP d.writes 0 1000000000 ∧ InP d.stop (-1) 1000000000
/-- what WorldFault tells -/
def WldAns (d : WorldD) (x : Int) : Prop :=
  Stair [(OkShape d.shape, 3), (FormP d, 1), (FewP d, 2)] (fun x => (x ≠ 0 ∧ RecsAns d.shape d.tapes.1 d.tapes.2 x) ∨ (RecsAns d.shape d.tapes.1 d.tapes.2 0 ∧ Stair [(CleanP d, 1), (CountP d, 3)] isZ x)) x
theorem WldAns.one {d : WorldD} {x y : Int} (h : WldAns d x) (k : WldAns d y) : x = y := by
  refine Stair.one (fun x y h k => ?_) _ h k
  rcases h with ⟨h1, h2⟩ | ⟨h1, h2⟩ <;> rcases k with ⟨k1, k2⟩ | ⟨k1, k2⟩
  · exact h2.one k2
  · exact absurd (h2.one k1) h1
  · exact absurd (k2.one h1) k1
  · exact Stair.one isZ_one _ h2 k2
/-- a world without a fault -/
structure OkWorld (d : WorldD) : Prop where
  shape : OkShape d.shape
  form : FormP d
  few : FewP d
  recs : ∀ t, t < d.tapes.1 → ∀ i, i < (d.tapes.2 t).recs.1 → RecAns d.shape ((d.tapes.2 t).recs.2 i) 0
  clean : CleanP d
  count : CountP d
theorem WldAns.ok {d : WorldD} (h : WldAns d 0) : OkWorld d := by
  rcases h with ⟨_, h⟩ | ⟨h1, h⟩
  · omega
  rcases h with ⟨_, h⟩ | ⟨h2, h⟩
  · omega
  rcases h with ⟨_, h⟩ | ⟨h3, h⟩
  · omega
  rcases h with ⟨h, _⟩ | ⟨h4, h⟩
  · exact absurd rfl h
  rcases h with ⟨_, h⟩ | ⟨h5, h⟩
  · omega
  rcases h with ⟨_, h⟩ | ⟨h6, h⟩
  · omega
  rcases h4 with ⟨_, h4⟩ | ⟨h4, _⟩
  · exact ⟨h1, h2, h3, h4, h5, h6⟩
  · exact absurd rfl h4
theorem exB (P : Prop) : ∃ b : Bool, b = true ↔ P := by
  by_cases h : P
  · exact ⟨true, by simp [h]⟩
  · exact ⟨false, by simp [h]⟩
end Go.Proofs.Ytlppdepihchnkaa

namespace Go.Proofs.Ytlppdepihchnkaa
open Go.RowKit F256

/-- a result with a number in it -/
def intR (code value : Int) : Value := .agg #[.int .i64 code, .int .i64 value]

end Go.Proofs.Ytlppdepihchnkaa

namespace Go.Proofs.Ytlppdepihchnkaa
open Go.RowKit F256
set_option linter.unusedVariables false
set_option linter.unusedSimpArgs false

set_option maxHeartbeats 1000000 in
theorem l1Has_any (v : Value) (n : Nat) (g : Nat → Int) (hi : Nat) (x : Int) (w : World) (r : RdI w hi v n g) :
    Calls Try.prog 88 #[v, .int .i64 x] w (BoolP (HasP n g x) w) := by
  obtain ⟨ao, cap, rfl, hm, hc⟩ := r
  unfold maxLen at hm
  go_enter Try.func88, Try.ntmps88
  go_wp2
  go_loop [5] (fun i => ∃ k : Nat, k ≤ n ∧ i = .int .i64 k ∧ ∀ i, i < k → g i ≠ x) (fun i => n - (intOf i).toNat)
  case atStart => exact ⟨0, Nat.zero_le _, rfl, fun i hi => by omega⟩
  case round =>
    obtain ⟨k, hk, rfl, hall⟩ := hrel
    have HALL : Hid (∀ i, i < k → g i ≠ x) := hall
    clear hall
    by_cases hlt : k < n
    · obtain ⟨b, off, rfl, hblt, hcell⟩ := hc (by omega)
      have hck : w.cell? ⟨b, off + k, none⟩ = some (.int .i64 (g k)) := hcell k hlt
      obtain ⟨y, hy⟩ : ∃ y, y = g k := ⟨_, rfl⟩
      have HY : Hid (y = g k) := hy
      rw [← hy] at hck
      clear hc hcell hy
      by_cases heq : y = x
      · have tn : (y == x) = true := by simp [heq]
        have HE : Hid (y = x) := heq
        clear heq
        go_wp2
        go_ret
        exact boolYes rfl ⟨k, hlt, by rw [← HY.out]; exact HE.out⟩ (Below.refl _ _)
      · have tn : (y == x) = false := by simp [heq]
        have HE : Hid (y ≠ x) := heq
        clear heq
        go_wp2
        go_round
        case rel => exact ⟨k + 1, by omega, by go_num, fun i hi => by
                      by_cases c : i = k
                      · rw [c, ← HY.out]; exact HE.out
                      · exact HALL.out i (by omega)⟩
        case measure => simp [intOf]; omega
    · obtain rfl : k = n := by omega
      go_wp2
      go_ret
      exact boolNo rfl (fun ⟨i, hi, h⟩ => HALL.out i hi h) (Below.refl _ _)
end Go.Proofs.Ytlppdepihchnkaa

namespace Go.Proofs.Ytlppdepihchnkaa
open Go.RowKit F256
set_option linter.unusedVariables false

theorem q_below {f : Nat} {args : Array Value} {W : World} {v : Value} (h : ∀ w', Below W.heap.size W w' → Calls Try.prog f args w' fun e w'' => e = .returned v ∧ Below w'.heap.size w' w'') :
    ∀ d os, Calls Try.prog f args (Go.Sort.grow (redrawn W d) os) fun e w'' => e = .returned v ∧ ∃ p : Regrown, w'' = Go.Sort.grow (redrawn W p.d) p.os := fun d os => Calls.regrown_of (h _ (below_regrown W d os))
theorem q_same {f : Nat} {args : Array Value} {W : World} {v : Value} (h : ∀ w', Calls Try.prog f args w' fun e w'' => e = .returned v ∧ w'' = w') :
    ∀ d os, Calls Try.prog f args (Go.Sort.grow (redrawn W d) os) fun e w'' => e = .returned v ∧ ∃ p : Regrown, w'' = Go.Sort.grow (redrawn W p.d) p.os :=
  q_below fun w' _ => (h w').mono fun e w'' ⟨h1, h2⟩ => ⟨h1, by rw [h2]; exact Below.refl _ _⟩
theorem det_b {f : Nat} {args : Array Value} {w : World} {P : Prop} {b : Bool} (h : Calls Try.prog f args w (BoolP P w)) (hb : b = true ↔ P) : Calls Try.prog f args w fun e w' => e = .returned (.bool b) ∧ Below w.heap.size w w' :=
  h.mono fun e w' ⟨b', h1, h2, h3⟩ => ⟨by rw [h1]; congr 2; cases b <;> cases b' <;> simp_all, h3⟩
/-- l1In, told by a bool -/
theorem l1In_b {v a b : Int} {t : Bool} (ht : t = true ↔ InP v a b) (w : World) :
    Calls Try.prog 34 #[.int .i64 v, .int .i64 a, .int .i64 b] w fun e w' => e = .returned (.bool t) ∧ w' = w := by
  cases t with
  | true => exact l1In_yes v a b (ht.1 rfl).1 (ht.1 rfl).2 w
  | false =>
    have : ¬ InP v a b := fun h => by have := ht.2 h; cases this
    exact l1In_no v a b (by unfold InP at this; omega) w
theorem below_rg {W w' : World} (h : ∃ p : Regrown, w' = Go.Sort.grow (redrawn W p.d) p.os) : Below W.heap.size W w' := by
  obtain ⟨p, rfl⟩ := h
  exact below_regrown W p.d p.os
/-- the walk in the text's order, behind a wall (what is behind it is not looked into) -/
structure WQ (P : Program) (ops : Array Oper) (C : World → Prop) (Q : Act → Prop) (l : List Oper) (a : Act) : Prop where
  out : wpQuiet P ops C Q l a
theorem WQ.skip {P : Program} {ops : Array Oper} {C : World → Prop} {Q : Act → Prop} {a : Act} {o : Oper} {rest : List Oper} (hw : Region.wanted o (yielded ops a.tmps) = false)
    (h : ∀ K : Act → Prop, (∀ a, WQ P ops C Q rest a → K a) → K (a.put o.dst undef)) : WQ P ops C Q (o :: rest) a := by
  refine ⟨?_⟩
  unfold wpQuiet
  rw [if_neg (by rw [hw]; decide)]
  exact (h _ (fun _ h => h)).out
theorem WQ.want {P : Program} {ops : Array Oper} {C : World → Prop} {Q : Act → Prop} {a : Act} {o : Oper} {rest : List Oper} (hw : Region.wanted o (yielded ops a.tmps) = true)
    (h : ∀ K : Act → Prop, (∀ a, WQ P ops C Q rest a → K a) → o.quiet P a C K) : WQ P ops C Q (o :: rest) a := by
  refine ⟨?_⟩
  unfold wpQuiet
  rw [if_pos hw]
  exact Oper.quiet_mono (fun a h => h.out) (h _ (fun _ h => h))
theorem WQ.nil {P : Program} {ops : Array Oper} {C : World → Prop} {Q : Act → Prop} {a : Act} (h : Q a) : WQ P ops C Q [] a := ⟨wpQuiet_nil h⟩
theorem WQ.region {P : Program} {id : Nat} {Q : Exit → Act → World → Prop} {a : Act} {w : World} {l : List Oper} (hm : P.follows .mixedOrders = true) (hB : Region.lexB .any l.toArray = true)
    (h : WQ P l.toArray (fun w' => ∃ p : Regrown, w' = Go.Sort.grow (redrawn w p.d) p.os) (fun a' => ∀ w', (∃ p : Regrown, w' = Go.Sort.grow (redrawn w p.d) p.os) → Q .normal a' w') l a) : (Code.region id l.toArray true).wp P Q a w := wp_region_quiet_below hm hB h.out
end Go.Proofs.Ytlppdepihchnkaa

namespace Go.Proofs.Ytlppdepihchnkaa
open Go.RowKit F256
set_option linter.unusedVariables false
set_option linter.unusedSimpArgs false

def blankB : BlockD := ⟨0, (4, fun _ => 0)⟩
def freshD (rows : Nat) : DriveD := ⟨false, (rows, fun _ => blankB)⟩
theorem ownB_T {w : World} {lo hi n : Nat} {v : Value} {f : Nat → Nat} (h : Own w lo hi v n f) (hh : hi ≤ w.heap.size) (kf : ∀ i, f i < 256) : OwnT layBytes w lo hi (n, f) [v] := by
  refine ⟨v.ownBlock.toList, ⟨v, rfl, rfl, h.weaken (Nat.zero_le _) hh, kf⟩, ?_, fun b hb => ?_⟩
  · cases v.ownBlock <;> simp
  · have hb' : v.ownBlock = some b := by simpa using hb
    exact ⟨(h.1.lt b hb').1, h.2 b hb'⟩
theorem OwnT.fin1 {α : Type} {A : Lay α} {w : World} {s : Nat} {a : α} {cs : List Value} (h : OwnT A w (s + 1) w.heap.size a cs) (o : Nat) (l : List Value) (w' : World) (e : w' = Go.Proofs.Ytlppdepihchnkaa.stN w s o l) : OwnT A w' s w'.heap.size a cs := by
  subst e
  exact (h.stN s o l (by omega)).weaken (by omega) (by rw [stN_size]; exact Nat.le_refl _)
/-- an element's info -/
theorem el_Block : ElInfo layBlock 57 91 32 [.int .i64 0, .slice none 0 0] := ⟨by decide, rfl, Try.underlying57, by kernel_rfl, by decide⟩
theorem el_Drive : ElInfo layDrive 56 59 32 [.bool false, .slice none 0 0] := ⟨by decide, rfl, Try.underlying56, by kernel_rfl, by decide⟩
theorem el_DriveS : ElInfo (layDrive.slice 59) 25 56 24 [.slice none 0 0] := ⟨by decide, rfl, Try.underlying25, by kernel_rfl, by decide⟩

set_option maxHeartbeats 4000000 in
theorem l5Blank_any (w : World) : Calls Try.prog 67 #[] w fun e w' => ∃ cs, e = .returned (.agg cs.toArray) ∧ OwnT layBlock w' w.heap.size w'.heap.size blankB cs ∧ Below w.heap.size w w' := by
  have T0 := one_new w #[.int .i64 0, .slice none 0 0] 91
  go_enter Try.func67, Try.ntmps67
  go_wp2_with (at_make; refine wp_makeB _ rfl _ _ rfl _ _ 4 rfl rfl rfl rfl (by omega) ?_; intro w1 o1 b1 l1; have T1 := T0.call b1; have z0 : w1.cell? ⟨w.heap.size, 0, none⟩ = some (.int .i64 0) := T1.b1.cell 0; have z1 : w1.cell? ⟨w.heap.size, 1, none⟩ = some (.slice none 0 0) := T1.b1.cell 1; have zf0 : w1.frozen? ⟨w.heap.size, 0, none⟩ = false := T1.b1.frozen 0; have zf1 : w1.frozen? ⟨w.heap.size, 1, none⟩ = false := T1.b1.frozen 1)
  have O1 : OwnT layBytes w1 (w.heap.size + 1) w1.heap.size (4, fun _ => 0) [.slice (some ⟨w.heap.size + 1, 0, none⟩) 4 4] := by
    have := ownB_T o1 (Nat.le_refl _) (fun _ => by decide)
    simpa using this
  have F : OwnT layBlock w1 (w.heap.size + 1) w1.heap.size blankB ([.int .i64 0] ++ [.slice (some ⟨w.heap.size + 1, 0, none⟩) 4 4]) := OwnT.conv (OwnT.pre (A := layI) (a := 0) (c := [.int .i64 0]) ⟨rfl, by omega, rfl⟩ O1)
  refine bodyPost_ret (v := .agg #[.int .i64 0, .slice (some ⟨w.heap.size + 1, 0, none⟩) 4 4]) (by simp [results, Try.results67, go_sem, z0, z1]) rfl ?_
  refine ⟨[.int .i64 0, .slice (some ⟨w.heap.size + 1, 0, none⟩) 4 4], rfl, ?_, ?_⟩
  · exact OwnT.fin1 F 0 [.int .i64 0, .slice (some ⟨w.heap.size + 1, 0, none⟩) 4 4] _ rfl
  · exact T1.bel.trans (stN_below (Nat.le_refl _) [.int .i64 0, .slice (some ⟨w.heap.size + 1, 0, none⟩) 4 4] 0)
theorem Three.low {w wc w' : World} {c1 c2 c3 : Array Value} {t1 t2 t3 : TypeId} (h : Three w wc c1 c2 c3 t1 t2 t3) (hb : Below (w.heap.size + 1 + 1 + 1) wc w') : Three w w' c1 c2 c3 t1 t2 t3 :=
  ⟨h.b1.below hb (by omega), h.b2.below hb (by omega), h.b3.below hb (by omega), h.bel.trans (hb.mono (by omega))⟩
set_option maxHeartbeats 8000000 in
set_option maxRecDepth 20000 in
theorem l5Fresh_any (s : Nat → Int) (hok : OkShape s) (w : World) : Calls Try.prog 25 #[shapeV s] w fun e w' => ∃ cs, e = .returned (.agg cs.toArray) ∧ OwnT layDrive w' w.heap.size w'.heap.size (freshD (s 4).toNat) cs ∧ Below w.heap.size w w' := by
  obtain ⟨R, hR, hR1⟩ : ∃ R : Nat, s 4 = (R : Int) ∧ R ≤ 6 := by
    obtain ⟨_, _, ⟨h1, h2⟩, _⟩ := hok
    exact ⟨(s 4).toNat, by omega, by omega⟩
  clear hok
  have HR : Hid (s 4 = (R : Int)) := hR
  have hRa : s 4 ≤ (R : Int) := by omega
  have hRb : (R : Int) ≤ s 4 := by omega
  clear hR
  unfold shapeV
  have T0 := three_newb w #[.int .i64 (s 0), .int .i64 (s 1), .int .i64 (s 2), .int .i64 (s 3), .int .i64 (s 4), .int .i64 (s 5), .int .i64 (s 6), .int .i64 (s 7), .int .i64 (s 8)] #[.bool false, .slice none 0 0] #[.bool false, .slice none 0 0] 24 59 59
  go_enter Try.func25, Try.ntmps25
  go_wp2
  go_loopw [4] (fun i wr => ∃ (k : Nat) (ao : Option Addr) (cap : Nat), k ≤ R ∧ i = .int .i64 k ∧ Three w wr #[.int .i64 (s 0), .int .i64 (s 1), .int .i64 (s 2), .int .i64 (s 3), .int .i64 (s 4), .int .i64 (s 5), .int .i64 (s 6), .int .i64 (s 7), .int .i64 (s 8)] #[.bool false, .slice none 0 0] #[.bool false, .slice ao k cap] 24 59 59 ∧ Gat layBlock 91 wr (w.heap.size + 1 + 1 + 1) (.slice ao k cap) k (fun _ => blankB)) (fun i _ => R - (intOf i).toNat)
  case atStart => exact ⟨0, none, 0, Nat.zero_le _, rfl, T0, Gat.nil _ _ _⟩
  case round =>
    clear T0
    obtain ⟨k, ao, cap, hk, rfl, T1, G1⟩ := hrel
    obtain ⟨wo, rfl⟩ : ∃ x, x = wr := ⟨_, rfl⟩
    have HT1 : Hid (Three w wo #[.int .i64 (s 0), .int .i64 (s 1), .int .i64 (s 2), .int .i64 (s 3), .int .i64 (s 4), .int .i64 (s 5), .int .i64 (s 6), .int .i64 (s 7), .int .i64 (s 8)] #[.bool false, .slice none 0 0] #[.bool false, .slice ao k cap] 24 59 59) := T1
    have HG1 : Hid (Gat layBlock 91 wo (w.heap.size + 1 + 1 + 1) (.slice ao k cap) k (fun _ => blankB)) := G1
    have z1 : w.heap.size + 1 + 1 + 1 ≤ wo.heap.size := T1.lt
    have x4 : wo.cell? ⟨w.heap.size, 4, none⟩ = some (.int .i64 (s 4)) := T1.b1.cell 4
    have y0 : wo.cell? ⟨w.heap.size + 1 + 1, 0, none⟩ = some (.bool false) := T1.b3.cell 0
    have y1 : wo.cell? ⟨w.heap.size + 1 + 1, 1, none⟩ = some (.slice ao k cap) := T1.b3.cell 1
    by_cases hlt : k < R
    · have hd : decide ((k : Int) < s 4) = true := decide_eq_true (by omega)
      clear T1 G1
      go_upto_region 5 with fail
      go_region_law (first | (refine step_call rfl 67 _ _ rfl #[] ?_ Try.func67 (by kernel_rfl) (by kernel_rfl) (l5Blank_any _) ?_; (simp [Act.eval, Act.put]); rintro ee w5 ⟨c5, rfl, o5, b5⟩; obtain ⟨bo, bc, rfl⟩ := Block_cells o5; replace b5 : Below wo.heap.size wo w5 := ⟨b5.os, b5.tape, b5.output, b5.size, b5.block⟩; have q1 : w5.cell? ⟨w.heap.size + 1 + 1, 1, none⟩ = some (.slice ao k cap) := (HT1.out.call b5).b3.cell 1; have q3 := (cell_alloc_old w5 (.cells #[.int .i64 blankB.stamp, .slice bo blankB.bytes.1 bc] 91) (w.heap.size + 1 + 1) 1 (by have := b5.size; omega)).trans q1; refine ⟨_, rfl, ?_⟩) | (refine step_appendN el_Block rfl (.tmp 13) (.tmp 15) rfl (lo := w.heap.size + 1 + 1 + 1) (n := k) (v := .slice ao k cap) (x := fun _ => blankB) ?_ HG1.out b5 o5 ?_ w5.heap.size 1 ?_ (fun j _ => cells_new w5 _ _ j) (by omega) (by omega) ?_; (simp [Act.eval, Act.put]); (exact (Below.refl _ _).alloc (Nat.le_refl _) _); (simp [Act.eval, Act.put]); intro v4 w4 g4 b4; obtain ⟨ao4, cap4, rfl⟩ := g4.form; have T4 := HT1.out.low b4; have p1 : w4.cell? ⟨w.heap.size + 1 + 1, 1, none⟩ = some (.slice ao k cap) := T4.b3.cell 1; have p2 : w4.frozen? ⟨w.heap.size + 1 + 1, 1, none⟩ = false := T4.b3.frozen 1))
      all_goals
        go_wp2
        go_roundw
        case rel => exact ⟨k + 1, ao4, cap4, by omega, by go_num, T4.st3 1 [.slice ao4 (k + 1) cap4] rfl, (g4.set _ _ _ (by omega)).congr (fun i _ => by rw [show upd (fun _ => blankB) k blankB = fun _ => blankB from upd_self (fun _ => blankB) k])⟩
        case measure => simp [intOf]; omega
    · obtain rfl : k = R := by omega
      have hd : decide ((k : Int) < s 4) = false := decide_eq_false (by omega)
      have r0 : wo.cell? ⟨w.heap.size + 1, 0, none⟩ = some (.bool false) := T1.b2.cell 0
      have r1 : wo.cell? ⟨w.heap.size + 1, 1, none⟩ = some (.slice none 0 0) := T1.b2.cell 1
      have rf0 : wo.frozen? ⟨w.heap.size + 1, 0, none⟩ = false := T1.b2.frozen 0
      have rf1 : wo.frozen? ⟨w.heap.size + 1, 1, none⟩ = false := T1.b2.frozen 1
      clear T1 G1
      go_wp2
      refine bodyPost_ret (v := .agg #[.bool false, .slice ao k cap]) (by simp [results, Try.results25, go_sem, r0, r1]) rfl ?_
      have F : OwnT layDrive wo (w.heap.size + 1 + 1 + 1) wo.heap.size (freshD (s 4).toNat) ([.bool false] ++ [.slice ao k cap]) := by
        have e : (s 4).toNat = k := by have := HR.out; omega
        rw [e]
        exact OwnT.conv (OwnT.pre (A := layB) (a := false) (c := [.bool false]) ⟨rfl, trivial, rfl⟩ HG1.out.own)
      refine ⟨[.bool false, .slice ao k cap], rfl, ?_, ?_⟩
      · exact OwnT.fin1 (F.weaken (by omega) (Nat.le_refl _)) 0 [.bool false, .slice ao k cap] _ rfl |>.weaken (by omega) (Nat.le_refl _)
      · exact HT1.out.bel.trans (stN_below (by omega) [.bool false, .slice ao k cap] 0)
end Go.Proofs.Ytlppdepihchnkaa

namespace Go.Proofs.Ytlppdepihchnkaa
open Go.RowKit F256
set_option linter.unusedVariables false
section
variable {α : Type} {E : Lay α} {t : TypeId} {w w1 : World} {lo g cap n k : Nat} {x : Nat → α} {ce : Nat → List Value} {Ls : Nat → List Nat}
/-- a store into an element that is not laid yet -/
theorem SlP.poke (h : SlP E t w lo g cap n k x ce Ls) {i j : Nat} (hk : k ≤ i) (hi : i < n) (hj : j < E.sz) (u : Value) : SlP E t (w.setCell ⟨g, i * E.sz + j, none⟩ u) lo g cap n k x (upd ce i ((ce i).set j u)) Ls := by
  refine ⟨?_, fun m hm => ?_, fun m hm => ?_, h.nd, h.low⟩
  · have := (h.row.stored (i * E.sz + j) u).1
    rw [catN_set h.lens hi hj] at this
    exact this
  · by_cases c : m = i
    · subst c; rw [upd_at, List.length_set]; exact h.lens m hm
    · rw [upd_ne ce _ c]; exact h.lens m hm
  · rw [upd_ne ce _ (by omega)]
    exact E.own_kept (h.each m hm) (fun b hb => heap_setCell_other w _ b u (fun hh => (List.nodup_cons.1 h.nd).1 (by rw [← show b = g from hh]; exact mem_catN.2 ⟨m, hm, hb⟩)))
/-- the element k is laid now; w1: a world in which the others were there and none of its blocks -/
theorem SlP.count {x1 : Nat → α} {ce1 : Nat → List Value} (h1 : SlP E t w1 lo g cap n k x1 ce1 Ls) (h : SlP E t w lo g cap n k x ce Ls) {a : α} {K : List Nat} (ha : E.own w a (ce k) K) (hnd : K.Nodup) (hK : ∀ b, b ∈ K → w1.heap.size ≤ b) (hlo : lo ≤ w1.heap.size) :
    SlP E t w lo g cap n (k + 1) (upd x k a) ce (upd Ls k K) := by
  have eL : catN (k + 1) (upd Ls k K) = catN k Ls ++ K := by
    rw [catN_succ, upd_at, catN_congr (g := Ls) (fun i hi => upd_ne Ls K (by omega))]
  refine ⟨h.row, h.lens, fun i hi => ?_, ?_, ?_⟩
  · by_cases c : i = k
    · subst c; rw [upd_at, upd_at]; exact ha
    · rw [upd_ne x a c, upd_ne Ls K c]; exact h.each i (by omega)
  · rw [eL]
    refine List.nodup_cons.2 ⟨fun hb => ?_, List.nodup_append.2 ⟨(List.nodup_cons.1 h.nd).2, hnd, fun b hb c hc hh => ?_⟩⟩
    · rcases List.mem_append.1 hb with h3 | h3
      · exact (List.nodup_cons.1 h.nd).1 h3
      · have := hK g h3; have := h1.lt; omega
    · subst hh
      have k1 := h1.mem_lt b hb
      have k2 := hK b hc
      omega
  · rw [eL]
    intro b hb
    rcases List.mem_append.1 hb with h3 | h3
    · exact h.low b h3
    · have := hK b h3; omega
/-- a store into the element k, which lays it -/
theorem SlP.fill (h1 : SlP E t w1 lo g cap n k x ce Ls) (hb : Below w1.heap.size w1 w) (hk : k < n) {j : Nat} (hj : j < E.sz) (u : Value) {a : α} {cs : List Value} (hcs : (ce k).set j u = cs) (ha : OwnT E w w1.heap.size w.heap.size a cs) (hlo : lo ≤ w1.heap.size) :
    ∃ ce' Ls', SlP E t (w.setCell ⟨g, k * E.sz + j, none⟩ u) lo g cap n (k + 1) (upd x k a) ce' Ls' ∧ ∀ i, k < i → ce' i = ce i := by
  subst hcs
  obtain ⟨K, a1, a2, a3⟩ := ha
  have hg := h1.lt
  refine ⟨_, _, h1.count ((h1.below hb).poke (Nat.le_refl k) hk hj u) (K := K) ?_ a2 (fun b hb => (a3 b hb).1) hlo, fun i hi => upd_ne ce _ (by omega)⟩
  rw [upd_at]
  exact E.own_kept a1 (fun b hb => heap_setCell_other w _ b u (fun hh => by have := (a3 b hb).1; have h5 : b = g := hh; omega))
theorem SlP.congr {y : Nat → α} (h : SlP E t w lo g cap n k x ce Ls) (hy : ∀ i, i < k → x i = y i) : SlP E t w lo g cap n k y ce Ls := ⟨h.row, h.lens, fun i hi => by rw [← hy i hi]; exact h.each i hi, h.nd, h.low⟩
/-- all elements zero and without memory -/
theorem SlP.zero {zs : List Value} {a : α} (h : SlP E t w lo g cap n 0 x (fun _ => zs) Ls) (hz : E.own w a zs []) (hg : lo ≤ g) : OwnT (E.slice t) w lo w.heap.size (n, fun _ => a) [.slice (Option.some ⟨g, 0, none⟩) n cap] := by
  have e : ∀ m, catN m (fun _ => ([] : List Nat)) = [] := fun m => by
    induction m with
    | zero => rfl
    | succ m ih => rw [catN_succ, ih]; rfl
  have h2 : SlP E t w lo g cap n n (fun _ => a) (fun _ => zs) (fun _ => []) := ⟨h.row, h.lens, fun i _ => hz, by rw [e]; simp, fun b hb => by rw [e] at hb; cases hb⟩
  exact h2.done hg
end
/-- make([]E, n), as it runs -/
theorem run_makeT {α : Type} {E : Lay α} {T e : TypeId} {by_ : Nat} {zs : List Value} (I : ElInfo E T e by_ zs) (x : Nat → α) (Ls : Nat → List Nat) (w : World) (n : Nat) (hn : n ≤ 10000000) :
    ∃ w', (Instr.makeSlice T (.int .i64 (n : Int)) (.int .i64 (n : Int))).run Try.prog w = .ok (.slice (some ⟨w.heap.size, 0, none⟩) n n) w' ∧ SlP E e w' w.heap.size w.heap.size n n 0 x (fun _ => zs) Ls ∧ Below w.heap.size w w' := by
  obtain ⟨hs, hzs, hu, hi, few⟩ := I
  obtain ⟨i0, hi0⟩ : ∃ i0, Try.prog.info? e = some i0 := by
    cases h : Try.prog.info? e with
    | none => rw [h] at hi; cases hi
    | some i0 => exact ⟨i0, rfl⟩
  rw [hi0] at hi
  simp only [Option.map_some, Option.some.injEq, Prod.mk.injEq] at hi
  obtain ⟨h1, h2, h3⟩ := hi
  obtain ⟨z, hz, hzc⟩ : ∃ z, i0.zero = some z ∧ z.cells = zs.toArray := by
    cases h : i0.zero with
    | none => rw [h] at h1; cases h1
    | some z => rw [h] at h1; exact ⟨z, rfl, by simpa using h1⟩
  obtain ⟨w', hrun, hown, hgrow⟩ := run_make_full (P := Try.prog) w w.heap.size T e i0 z E.sz hu hi0 hz h2 .i64 .i64 n (by
    rw [h3]
    have : by_ * n ≤ 1000 * 10000000 := Nat.mul_le_mul few hn
    omega) (by unfold maxLen; omega) (Nat.le_refl _)
  rw [hzc, ← hzs, catN_made zs (by omega)] at hown
  rw [hzs] at hown
  exact ⟨w', hrun, ⟨hown, fun _ _ => hzs, fun i hi => by omega, by simp [catN_zero], fun b hb => by rw [catN_zero] at hb; cases hb⟩, below_of_grown hgrow⟩
end Go.Proofs.Ytlppdepihchnkaa

namespace Go.Proofs.Ytlppdepihchnkaa
open Go.RowKit F256
set_option linter.unusedVariables false
def noRec : RecD := ⟨0, 0, ByteArray.empty, 0, 0, 0, (0, fun _ => 0), (0, fun _ => 0), (0, fun _ => 0)⟩
def zeroT : TapeD := ⟨false, (0, fun _ => noRec)⟩
def zeroW : WorldD := ⟨fun _ => 0, (0, fun _ => (0, fun _ => freshD 0)), (0, fun _ => 0), (0, fun _ => zeroT), 0, 0, false⟩
def newW (s : Nat → Int) : WorldD := ⟨s, ((s 0 + s 1).toNat, fun _ => ((s 2 + s 3).toNat, fun _ => freshD (s 4).toNat)), (0, fun _ => 0), (2, fun _ => zeroT), 0, -1, false⟩
def NewAns (s : Nat → Int) (d : WorldResultD) : Prop := (¬ OkShape s ∧ d = ⟨3, zeroW⟩) ∨ (OkShape s ∧ d = ⟨0, newW s⟩)
theorem NewAns.one {s : Nat → Int} {d e : WorldResultD} (h : NewAns s d) (k : NewAns s e) : d = e := by
  rcases h with ⟨h1, h2⟩ | ⟨h1, h2⟩ <;> rcases k with ⟨k1, k2⟩ | ⟨k1, k2⟩
  · rw [h2, k2]
  · exact absurd k1 h1
  · exact absurd h1 k1
  · rw [h2, k2]
theorem new_ex (s : Nat → Int) : ∃ d, NewAns s d := by
  by_cases h : OkShape s
  · exact ⟨_, .inr ⟨h, rfl⟩⟩
  · exact ⟨_, .inl ⟨h, rfl⟩⟩
/-- a world's result is told: memory of its own -/
def ResPost (P : WorldResultD → Prop) (w : World) (e : Ending) (w' : World) : Prop := ∃ d cs, e = .returned (.agg cs.toArray) ∧ P d ∧ OwnT layWorldResult w' w.heap.size w'.heap.size d cs ∧ Below w.heap.size w w'
theorem el_Tape : ElInfo layTape 27 80 32 [.bool false, .slice none 0 0] := ⟨by decide, rfl, Try.underlying27, by kernel_rfl, by decide⟩
theorem own_noInts (w : World) (f : Nat → Int) (h : ∀ i, -9223372036854775808 ≤ f i ∧ f i ≤ 9223372036854775807) : layInts.own w (0, f) [.slice none 0 0] [] := ⟨_, rfl, rfl, ⟨⟨rfl, .inl ⟨rfl, rfl⟩⟩, fun k hk => by cases hk⟩, h⟩
theorem own_noSl {α : Type} {E : Lay α} {t : TypeId} (w : World) (x : Nat → α) : (E.slice t).own w (0, x) [.slice none 0 0] [] := ⟨_, fun _ => [], fun _ => [], rfl, rfl, World.ownsRow_nil w 0 t E.sz, fun i hi => by omega⟩
theorem own_zeroT (w : World) : layTape.own w zeroT [.bool false, .slice none 0 0] [] := ⟨_, _, [], [], rfl, rfl, ⟨rfl, trivial, rfl⟩, own_noSl w _⟩
theorem own_zeroW (w : World) : layWorld.own w zeroW [.int .i64 0, .int .i64 0, .int .i64 0, .int .i64 0, .int .i64 0, .int .i64 0, .int .i64 0, .int .i64 0, .int .i64 0, .slice none 0 0, .slice none 0 0, .slice none 0 0, .int .i64 0, .int .i64 0, .bool false] [] := by
  have h := World_mk (w := w) zeroW (ao1 := none) (ao2 := none) (ao3 := none) (cap1 := 0) (cap2 := 0) (cap3 := 0) (own_noSl w _) (own_noInts w _ (fun _ => by decide)) (own_noSl w _) (fun i => show (-9223372036854775808 : Int) ≤ 0 ∧ (0 : Int) ≤ 9223372036854775807 by decide) (show (-9223372036854775808 : Int) ≤ 0 ∧ (0 : Int) ≤ 9223372036854775807 by decide) (show (-9223372036854775808 : Int) ≤ 0 ∧ (0 : Int) ≤ 9223372036854775807 by decide)
  exact h
theorem own_resOf {w : World} {lo hi : Nat} {d : WorldD} {cs : List Value} (c : Int) (hc : -9223372036854775808 ≤ c ∧ c ≤ 9223372036854775807) (h : OwnT layWorld w lo hi d cs) : OwnT layWorldResult w lo hi ⟨c, d⟩ (.int .i64 c :: cs) :=
  OwnT.conv (OwnT.pre (A := layI) (a := c) (c := [.int .i64 c]) ⟨rfl, hc, rfl⟩ h)
theorem own_resCode (w : World) (c : Int) (hc : -9223372036854775808 ≤ c ∧ c ≤ 9223372036854775807) (lo hi : Nat) : OwnT layWorldResult w lo hi ⟨c, zeroW⟩ (.int .i64 c :: [.int .i64 0, .int .i64 0, .int .i64 0, .int .i64 0, .int .i64 0, .int .i64 0, .int .i64 0, .int .i64 0, .int .i64 0, .slice none 0 0, .slice none 0 0, .slice none 0 0, .int .i64 0, .int .i64 0, .bool false]) := own_resOf c hc (OwnT.nil (own_zeroW w) lo hi)
theorem Box.chgl {w w' : World} {b : Nat} {cs : Array Value} {t : TypeId} {K : List Nat} (h : Box w b cs t) (hc : ChgL K w w') (hb : b ∉ K) : Box w' b cs t := (hc.block b h.lt hb).trans h
theorem ChgL.bel {K : List Nat} {w w' : World} {B : Nat} (hc : ChgL K w w') (hK : ∀ b, b ∈ K → B ≤ b) (hB : B ≤ w.heap.size) : Below B w w' := ⟨hc.os, hc.tape, hc.output, hc.size, fun k hk => hc.block k (by omega) (fun h => by have := hK k h; omega)⟩
theorem ChgL.after {K : List Nat} {a b c : World} (h : ChgL K a b) (k : Below a.heap.size b c) : ChgL K a c := ⟨k.os.trans h.os, k.tape.trans h.tape, k.output.trans h.output, Nat.le_trans h.size k.size, fun i hi hn => (k.block i hi).trans (h.block i hi hn)⟩
theorem Two.chgl {w wc w' : World} {c1 c2 : Array Value} {t1 t2 : TypeId} {P : Nat} (h : Two w wc c1 c2 t1 t2) (hc : ChgL [P] wc w') (hP : w.heap.size + 1 < P) : Two w w' c1 c2 t1 t2 :=
  ⟨h.b1.chgl hc (by simp; omega), h.b2.chgl hc (by simp; omega), h.bel.trans (hc.bel (fun b hb => by simp at hb; omega) h.bel.size)⟩
theorem own_st {α : Type} {A : Lay α} {w : World} {a : α} {cs : List Value} {K : List Nat} {g off : Nat} {l : List Value} (h : A.own w a cs K) (hg : g ∉ K) : A.own (Go.Proofs.Ytlppdepihchnkaa.stN w g off l) a cs K := A.own_kept h (fun b hb => stN_heap g b (fun hh => hg (by rw [← hh]; exact hb)) l w off)
theorem OwnT.finb {α : Type} {A : Lay α} {w : World} {lo b : Nat} {a : α} {cs : List Value} (h : OwnT A w lo w.heap.size a cs) (hb : b < lo) {lo' : Nat} (hl : lo' ≤ lo) (o : Nat) (l : List Value) (w' : World) (e : w' = Go.Proofs.Ytlppdepihchnkaa.stN w b o l) : OwnT A w' lo' w'.heap.size a cs := by
  subst e
  exact (h.stN b o l hb).weaken hl (by rw [stN_size]; exact Nat.le_refl _)
/-- a world's box and its two tapes, new -/
structure NewBx (cs : Array Value) (w1 wx : World) (P t : Nat) : Prop where
  box : Box wx P cs 29
  tp : (layTape.slice 80).own wx (2, fun _ => zeroT) [.slice (some ⟨t, 0, none⟩) 2 2] [t]
  p1 : w1.heap.size ≤ P
  t1 : w1.heap.size ≤ t
  ne : t ≠ P
  bel : Below w1.heap.size w1 wx
theorem tape_own {wx : World} {lo hi t : Nat} (h : OwnT (layTape.slice 80) wx lo hi (2, fun _ => zeroT) [.slice (some ⟨t, 0, none⟩) 2 2]) (hz : ∀ L, (layTape.slice 80).own wx (2, fun _ => zeroT) [.slice (some ⟨t, 0, none⟩) 2 2] L → L = [t]) : (layTape.slice 80).own wx (2, fun _ => zeroT) [.slice (some ⟨t, 0, none⟩) 2 2] [t] := by
  obtain ⟨L, h1, _⟩ := h
  have := hz L h1
  subst this
  exact h1
theorem SlP.two {w : World} {lo t cap : Nat} {x : Nat → TapeD} {Ls : Nat → List Nat} (h : SlP layTape 80 w lo t cap 2 0 x (fun _ => [.bool false, .slice none 0 0]) Ls) : (layTape.slice 80).own w (2, fun _ => zeroT) [.slice (Option.some ⟨t, 0, none⟩) 2 cap] [t] := by
  refine ⟨_, fun _ => [.bool false, .slice none 0 0], fun _ => [], rfl, rfl, ⟨h.row.1, ?_⟩, fun i _ => own_zeroT w⟩
  rcases h.row.2 with ⟨hn, _⟩ | ⟨g', cap', cur, he, hbg, rest⟩
  · cases hn
  · exact .inr ⟨g', cap', cur, he, Nat.zero_le _, rest⟩
end Go.Proofs.Ytlppdepihchnkaa

namespace Go.Proofs.Ytlppdepihchnkaa
open Go.RowKit F256
set_option linter.unusedVariables false
set_option linter.unusedSimpArgs false

/-- the sum of a name's first bytes -/
def nameSum (b : ByteArray) : Nat → Nat
  | 0 => 0
  | k + 1 => nameSum b k + nameByte b k
theorem nameSum_lt (b : ByteArray) (k : Nat) : nameSum b k ≤ 255 * k := by
  induction k with
  | zero => exact Nat.le_refl _
  | succ k ih => have := nameByte_lt b k; simp only [nameSum]; omega

/-- what HomeOf answers -/
def HoAns (s : Nat → Int) (b : ByteArray) (x c : Int) : Prop :=
  (¬ OkShape s ∧ c = 3 ∧ x = 0) ∨ (OkShape s ∧ ¬ OkName b ∧ c = 5 ∧ x = 0) ∨ (OkShape s ∧ OkName b ∧ c = 0 ∧ x = (nameSum b b.size : Int) % s 0)
theorem HoAns.one {s : Nat → Int} {b : ByteArray} {x c y d : Int} (h : HoAns s b x c) (k : HoAns s b y d) : x = y ∧ c = d := by
  rcases h with ⟨h1, rfl, rfl⟩ | ⟨h1, h2, rfl, rfl⟩ | ⟨h1, h2, rfl, rfl⟩ <;> rcases k with ⟨k1, rfl, rfl⟩ | ⟨k1, k2, rfl, rfl⟩ | ⟨k1, k2, rfl, rfl⟩ <;>
    first | exact ⟨rfl, rfl⟩ | exact absurd h1 k1 | exact absurd k1 h1 | exact absurd h2 k2 | exact absurd k2 h2

theorem two_new {w w1 : World} {cs ds : Array Value} {t u : TypeId} (h : Below ((w.alloc (.cells cs t)).alloc (.cells ds u)).heap.size ((w.alloc (.cells cs t)).alloc (.cells ds u)) w1) :
    Box w1 w.heap.size cs t ∧ Box w1 (w.heap.size + 1) ds u ∧ Below w.heap.size w w1 ∧ w.heap.size + 1 < w1.heap.size := by
  have h2 := bnew h
  have e : (w.alloc (.cells cs t)).heap.size = w.heap.size + 1 := by simp
  have k2 := box_new (w.alloc (.cells cs t)) ds u
  rw [e] at k2
  have z := bsize h
  rw [e] at z
  exact ⟨(box_new w cs t).below h2 (by simp), k2.below h (by simp), bnew h2, z⟩

end Go.Proofs.Ytlppdepihchnkaa

namespace Go.Proofs.Ytlppdepihchnkaa
open Go.RowKit F256
set_option linter.unusedVariables false
set_option linter.unusedSimpArgs false

set_option maxHeartbeats 4000000 in
theorem l4Wide_any (s : Nat → Int) (h1 : 1 ≤ s 2) (h2 : s 2 ≤ 1000) (w : World) :
    Calls Try.prog 37 #[shapeV s] w fun e w' => e = .returned (.int .i64 (s 2 * 4)) ∧ Below w.heap.size w w' := by
  unfold shapeV
  obtain ⟨a2, h0⟩ : ∃ a, a = s 2 := ⟨_, rfl⟩
  rw [← h0] at h1 h2 ⊢
  clear h0
  have B0 : Below w.heap.size w (w.alloc (.cells #[.int .i64 (s 0), .int .i64 (s 1), .int .i64 a2, .int .i64 (s 3), .int .i64 (s 4), .int .i64 (s 5), .int .i64 (s 6), .int .i64 (s 7), .int .i64 (s 8)] 24)) := bnew (Below.refl _ _)
  go_enter Try.func37, Try.ntmps37
  go_wp2
  go_ret
  exact ⟨rfl, B0⟩

theorem box_new9 {w w1 : World} {cs : Array Value} {t : TypeId} (h : Below (w.alloc (.cells cs t)).heap.size (w.alloc (.cells cs t)) w1) :
    Box w1 w.heap.size cs t ∧ Below w.heap.size w w1 ∧ w.heap.size < w1.heap.size :=
  ⟨(box_new w cs t).below h (by simp), bnew h, bsize h⟩

theorem keep9 {B : Nat} {w W w2 : World} {cs : Array Value} {t : TypeId} (hX : Box W B cs t) (hB : Below B w W) (hb : Below W.heap.size W w2) : Box w2 B cs t ∧ Below B w w2 :=
  ⟨hX.below hb hX.lt, hB.trans (hb.mono (Nat.le_of_lt hX.lt))⟩

set_option maxHeartbeats 4000000 in
theorem l4Parts_any (s : Nat → Int) (h1 : 1 ≤ s 2) (h2 : s 2 ≤ 1000) (l : Int) (h3 : 0 ≤ l) (h4 : l ≤ 1000000000) (w : World) :
    Calls Try.prog 76 #[shapeV s, .int .i64 l] w fun e w' => e = .returned (.int .i64 ((l + s 2 * 4 - 1) / (s 2 * 4))) ∧ Below w.heap.size w w' := by
  have CL := l4Wide_any s h1 h2
  unfold shapeV
  have K0 : Hid (Box (w.alloc (.cells #[.int .i64 (s 0), .int .i64 (s 1), .int .i64 (s 2), .int .i64 (s 3), .int .i64 (s 4), .int .i64 (s 5), .int .i64 (s 6), .int .i64 (s 7), .int .i64 (s 8)] 24)) w.heap.size #[.int .i64 (s 0), .int .i64 (s 1), .int .i64 (s 2), .int .i64 (s 3), .int .i64 (s 4), .int .i64 (s 5), .int .i64 (s 6), .int .i64 (s 7), .int .i64 (s 8)] 24) := box_new w _ _
  have KB : Hid (Below w.heap.size w (w.alloc (.cells #[.int .i64 (s 0), .int .i64 (s 1), .int .i64 (s 2), .int .i64 (s 3), .int .i64 (s 4), .int .i64 (s 5), .int .i64 (s 6), .int .i64 (s 7), .int .i64 (s 8)] 24))) := bnew (Below.refl _ _)
  obtain ⟨S, hS⟩ : ∃ S, S = s 2 * 4 := ⟨_, rfl⟩
  rw [← hS]
  rw [← hS] at CL
  have q1 : 4 ≤ S := by omega
  have q2 : S ≤ 4000 := by omega
  have q3 : 0 ≤ l + S - 1 := by omega
  clear hS
  go_enter Try.func76, Try.ntmps76
  go_wp2_with fail
  go_region_with (go_at_call 37; refine (CL _).mono ?_; rintro ee w2 ⟨rfl, hb2⟩; (first | (obtain ⟨hX2, hB2⟩ := keep9 hX hB ⟨hb2.os, hb2.tape, hb2.output, hb2.size, hb2.block⟩; clear hb2; obtain ⟨x0, x1, x2, x3, x4, x5, x6, x7, x8⟩ := box9 hX2) | (obtain ⟨hX, hB⟩ := keep9 K0.out KB.out ⟨hb2.os, hb2.tape, hb2.output, hb2.size, hb2.block⟩; clear hb2; obtain ⟨x0, x1, x2, x3, x4, x5, x6, x7, x8⟩ := box9 hX)))
  all_goals
    clear hX hX2
    go_wp2
    go_ret
    exact ⟨rfl, hB2⟩

set_option maxHeartbeats 4000000 in
theorem l4Long_any (s : Nat → Int) (h1 : 1 ≤ s 2) (h2 : s 2 ≤ 1000) (l : Int) (w : World) :
    Calls Try.prog 75 #[shapeV s, .int .i64 l] w fun e w' => ∃ c, e = .returned (.int .i64 c) ∧ ((l < 1 ∧ c = 6) ∨ (1 ≤ l ∧ 3 * (s 2 * 4) < l ∧ c = 2) ∨ (1 ≤ l ∧ l ≤ 3 * (s 2 * 4) ∧ c = 0)) ∧ Below w.heap.size w w' := by
  have CL := l4Wide_any s h1 h2
  have KB : Hid (Below w.heap.size w (w.alloc (.cells #[.int .i64 (s 0), .int .i64 (s 1), .int .i64 (s 2), .int .i64 (s 3), .int .i64 (s 4), .int .i64 (s 5), .int .i64 (s 6), .int .i64 (s 7), .int .i64 (s 8)] 24))) := bnew (Below.refl _ _)
  obtain ⟨S, hS⟩ : ∃ S, S = s 2 * 4 := ⟨_, rfl⟩
  rw [← hS]
  rw [← hS] at CL
  have q1 : 4 ≤ S := by omega
  have q2 : S ≤ 4000 := by omega
  clear hS
  unfold shapeV
  by_cases c1 : l < 1
  · go_enter Try.func75, Try.ntmps75
    go_wp2
    go_ret
    exact ⟨6, rfl, .inl ⟨c1, rfl⟩, KB.out⟩
  · by_cases c2 : 3 * S < l
    · go_enter Try.func75, Try.ntmps75
      go_wp2_with fail
      refine (CL _).mono ?_
      rintro e w2 ⟨rfl, hb2⟩
      have B := bnew hb2
      clear hb2
      go_wp2
      go_ret
      exact ⟨2, rfl, .inr (.inl ⟨by omega, c2, rfl⟩), B⟩
    · go_enter Try.func75, Try.ntmps75
      go_wp2_with fail
      refine (CL _).mono ?_
      rintro e w2 ⟨rfl, hb2⟩
      have B := bnew hb2
      clear hb2
      go_wp2
      go_ret
      exact ⟨0, rfl, .inr (.inr ⟨by omega, by omega, rfl⟩), B⟩

/-- what PartsFor answers -/
def PfAns (s : Nat → Int) (l x c : Int) : Prop :=
  (¬ OkShape s ∧ c = 3 ∧ x = 0) ∨ (OkShape s ∧ l < 1 ∧ c = 6 ∧ x = 0) ∨ (OkShape s ∧ 1 ≤ l ∧ 3 * (s 2 * 4) < l ∧ c = 2 ∧ x = 0) ∨ (OkShape s ∧ 1 ≤ l ∧ l ≤ 3 * (s 2 * 4) ∧ c = 0 ∧ x = (l + s 2 * 4 - 1) / (s 2 * 4))
theorem PfAns.one {s : Nat → Int} {l x c y d : Int} (h : PfAns s l x c) (k : PfAns s l y d) : x = y ∧ c = d := by
  rcases h with ⟨h1, rfl, rfl⟩ | ⟨h1, h2, rfl, rfl⟩ | ⟨h1, h2, h3, rfl, rfl⟩ | ⟨h1, h2, h3, rfl, rfl⟩ <;> rcases k with ⟨k1, rfl, rfl⟩ | ⟨k1, k2, rfl, rfl⟩ | ⟨k1, k2, k3, rfl, rfl⟩ | ⟨k1, k2, k3, rfl, rfl⟩ <;>
    first | exact ⟨rfl, rfl⟩ | exact absurd h1 k1 | exact absurd k1 h1 | (exfalso; omega)

end Go.Proofs.Ytlppdepihchnkaa

namespace Go.Proofs.Ytlppdepihchnkaa
open Go.RowKit F256
set_option linter.unusedVariables false
set_option linter.unusedSimpArgs false

theorem RdI.part {w : World} {hi : Nat} {b off n cap k : Nat} {g : Nat → Int} (r : RdI w hi (.slice (some ⟨b, off, none⟩) n cap) n g) (h : k ≤ n) (h0 : n ≠ 0) : RdI w hi (.slice (some ⟨b, off, none⟩) k cap) k g := by
  obtain ⟨ao, cap', e, hm, hc⟩ := r
  cases e
  obtain ⟨b', off', e, h1, h2⟩ := hc h0
  cases e
  exact ⟨_, _, rfl, by omega, fun _ => ⟨b, off, rfl, h1, fun i hi => h2 i (by omega)⟩⟩
theorem RdI.mx {w : World} {hi : Nat} {v : Value} {n : Nat} {g : Nat → Int} (r : RdI w hi v n g) : n ≤ maxLen := by
  obtain ⟨ao, cap', e, hm, hc⟩ := r
  exact hm

set_option maxHeartbeats 4000000 in
theorem l5Apart_any (v : Value) (n : Nat) (g : Nat → Int) (hi : Nat) (most : Int) (w : World) (r : RdI w hi v n g) (hcp : CapP v n) (hhi : hi ≤ w.heap.size) :
    Calls Try.prog 53 #[v, .int .i64 most] w (BoolP (ApartP n g most) w) := by
  have HR : Hid (RdI w hi v n g) := r
  obtain ⟨ao, cap, rfl, hm, hc⟩ := r
  obtain ⟨_, _, e, hcp⟩ := hcp
  cases e
  unfold maxLen at hm
  go_enter Try.func53, Try.ntmps53
  go_wp2
  go_loopw [5] (fun i wr => ∃ k : Nat, k ≤ n ∧ i = .int .i64 k ∧ ApartP k g most ∧ Below w.heap.size w wr) (fun i _ => n - (intOf i).toNat)
  case atStart => exact ⟨0, Nat.zero_le _, rfl, fun i hi => by omega, Below.refl _ _⟩
  case round =>
    obtain ⟨k, hk, rfl, hall, hb⟩ := hrel
    have HALL : Hid (ApartP k g most) := hall
    clear hall
    by_cases hlt : k < n
    · obtain ⟨b, off, rfl, hblt, hcell⟩ := hc (by omega)
      have hck : wr.cell? ⟨b, off + k, none⟩ = some (.int .i64 (g k)) := (hb.cell (p := ⟨b, off + k, none⟩) (by show b < w.heap.size; omega)).trans (hcell k hlt)
      have k0 := cell_regrown hck
      obtain ⟨t1, h1⟩ := exB (InP (g k) 0 most)
      obtain ⟨t2, h2⟩ := exB (HasP k g (g k))
      have zr := hb.size
      have cA := q_same (W := wr) (fun w' => l1In_b h1 w')
      have cB := q_below (W := wr) (fun w' hw' => det_b (l1Has_any (.slice (some ⟨b, off, none⟩) k cap) k g hi (g k) w' (((HR.out.part hk (by omega)).below hb hhi).below hw' (by omega))) h2)
      have kcp : k ≤ cap := by omega
      have H1 : Hid (t1 = true ↔ InP (g k) 0 most) := h1
      have H2 : Hid (t2 = true ↔ HasP k g (g k)) := h2
      obtain ⟨y, hy⟩ : ∃ y, y = g k := ⟨_, rfl⟩
      have HY : Hid (y = g k) := hy
      rw [← hy] at hck k0 cA cB
      clear hc hcell h1 h2 hy
      have HB : Hid (Below w.heap.size w wr) := hb
      clear hb
      go_wp2
      have hs : t1 = false ∨ (t1 = true ∧ t2 = false) ∨ (t1 = true ∧ t2 = true) := by cases t1 <;> cases t2 <;> simp
      rcases hs with rfl | ⟨rfl, rfl⟩ | ⟨rfl, rfl⟩
      all_goals
        refine WQ.region (by kernel_rfl) (by kernel_rfl) ?_
        repeat (first | (apply WQ.skip; (case hw => rfl); intro K hK; go_simp; apply hK; clear hK K) | (apply WQ.want; (case hw => rfl); intro K hK; go_simp; first | (apply hK; clear hK K) | (apply Exists.intro; apply And.intro; (case left => intro p; (first | (go_at_call 34; exact cA _ _) | (go_at_call 88; exact cB _ _))); apply hK; clear hK K)))
        refine WQ.nil ?_
        intro w2 hw2
        have HB2 : Hid (Below w.heap.size w w2) := HB.out.trans ((below_rg hw2).mono HB.out.size)
        clear hw2
        go_wp2
      · go_ret
        exact boolNo rfl (fun h => by
          have := H1.out.2 (h k hlt).1
          cases this) HB2.out
      · go_roundw
        case rel => exact ⟨k + 1, by omega, by go_num, fun i hi => by
                      by_cases c : i = k
                      · subst c
                        exact ⟨H1.out.1 (by simp), fun t ht e => by
                          have := H2.out.2 ⟨t, ht, e⟩
                          cases this⟩
                      · exact HALL.out i (by omega), HB2.out⟩
        case measure => simp [intOf]; omega
      · go_ret
        exact boolNo rfl (fun h => by
          obtain ⟨t, ht, e⟩ := H2.out.1 (by simp)
          exact (h k hlt).2 t ht e) HB2.out
    · obtain rfl : k = n := by omega
      go_wp2
      go_ret
      exact boolYes rfl HALL.out hb

/-- a record's value -/
def recC (r : RecD) (v6 v7 v8 : Value) : Array Value := #[.int .i64 r.kind, .int .i64 r.seq, .string r.name, .int .i64 r.length, .int .i64 r.group, .int .i64 r.row, v6, v7, v8]
theorem rec_val {w : World} {hi : Nat} {r : RecD} {cs : List Value} (h : layRec.rd w hi r cs) : ∃ ao6 cap6 ao7 cap7 ao8 cap8, cs.toArray = recC r (.slice ao6 r.rows.1 cap6) (.slice ao7 r.data.1 cap7) (.slice ao8 r.delta.1 cap8) := by
  obtain ⟨ao6, cap6, ao7, cap7, ao8, cap8, rfl, _⟩ := Rec_rd h
  exact ⟨ao6, cap6, ao7, cap7, ao8, cap8, rfl⟩
theorem nm_iff (b : ByteArray) : b.toList.isEmpty = true ↔ b = ByteArray.empty := by
  have e : b.toList = b.data.toList := ByteArray.toList_eq b
  rw [e]
  cases b with | mk x =>
  constructor
  · intro h
    have : x = #[] := by simpa using h
    subst this
    rfl
  · intro h
    have : x = #[] := congrArg ByteArray.data h
    subst this
    rfl
/-- nothing is in these fields -/
def EmptyQ (nm : ByteArray) (ln gr rw_ : Int) (n6 n7 n8 : Nat) : Prop := nm = ByteArray.empty ∧ ln = 0 ∧ gr = 0 ∧ rw_ = 0 ∧ n6 = 0 ∧ n7 = 0 ∧ n8 = 0
set_option maxHeartbeats 4000000 in
theorem l5Empty_any (kd sq ln gr rw_ : Int) (nm : ByteArray) (ao6 ao7 ao8 : Option Addr) (n6 n7 n8 cap6 cap7 cap8 : Nat) (w : World) :
    Calls Try.prog 40 #[.agg #[.int .i64 kd, .int .i64 sq, .string nm, .int .i64 ln, .int .i64 gr, .int .i64 rw_, .slice ao6 n6 cap6, .slice ao7 n7 cap7, .slice ao8 n8 cap8]] w (BoolP (EmptyQ nm ln gr rw_ n6 n7 n8) w) := by
  have B0 : Hid (Below w.heap.size w (w.alloc (.cells #[.int .i64 kd, .int .i64 sq, .string nm, .int .i64 ln, .int .i64 gr, .int .i64 rw_, .slice ao6 n6 cap6, .slice ao7 n7 cap7, .slice ao8 n8 cap8] 42))) := (Below.refl _ _).alloc (Nat.le_refl _) _
  obtain ⟨b0, h0⟩ : ∃ b, nm.toList.isEmpty = b := ⟨_, rfl⟩
  obtain ⟨b1, h1⟩ : ∃ b, (ln == 0) = b := ⟨_, rfl⟩
  obtain ⟨b2, h2⟩ : ∃ b, (gr == 0) = b := ⟨_, rfl⟩
  obtain ⟨b3, h3⟩ : ∃ b, (rw_ == 0) = b := ⟨_, rfl⟩
  obtain ⟨b4, h4⟩ : ∃ b, ((n6 : Int) == 0) = b := ⟨_, rfl⟩
  obtain ⟨b5, h5⟩ : ∃ b, ((n7 : Int) == 0) = b := ⟨_, rfl⟩
  obtain ⟨b6, h6⟩ : ∃ b, ((n8 : Int) == 0) = b := ⟨_, rfl⟩
  have HE : Hid (EmptyQ nm ln gr rw_ n6 n7 n8 ↔ (b0 = true ∧ b1 = true ∧ b2 = true ∧ b3 = true ∧ b4 = true ∧ b5 = true ∧ b6 = true)) := by
    show EmptyQ nm ln gr rw_ n6 n7 n8 ↔ _
    rw [← h0, ← h1, ← h2, ← h3, ← h4, ← h5, ← h6, nm_iff]
    unfold EmptyQ
    simp
  have hs : b0 = false ∨ (b0 = true ∧ b1 = false) ∨ (b0 = true ∧ b1 = true ∧ b2 = false) ∨ (b0 = true ∧ b1 = true ∧ b2 = true ∧ b3 = false) ∨ (b0 = true ∧ b1 = true ∧ b2 = true ∧ b3 = true ∧ b4 = false) ∨ (b0 = true ∧ b1 = true ∧ b2 = true ∧ b3 = true ∧ b4 = true ∧ b5 = false) ∨ (b0 = true ∧ b1 = true ∧ b2 = true ∧ b3 = true ∧ b4 = true ∧ b5 = true ∧ b6 = false) ∨ (b0 = true ∧ b1 = true ∧ b2 = true ∧ b3 = true ∧ b4 = true ∧ b5 = true ∧ b6 = true) := by
    clear HE h0 h1 h2 h3 h4 h5 h6
    cases b0 <;> simp
    cases b1 <;> simp
    cases b2 <;> simp
    cases b3 <;> simp
    cases b4 <;> simp
    cases b5 <;> simp
  go_enter Try.func40, Try.ntmps40
  rcases hs with rfl | ⟨rfl, rfl⟩ | ⟨rfl, rfl, rfl⟩ | ⟨rfl, rfl, rfl, rfl⟩ | ⟨rfl, rfl, rfl, rfl, rfl⟩ | ⟨rfl, rfl, rfl, rfl, rfl, rfl⟩ | ⟨rfl, rfl, rfl, rfl, rfl, rfl, rfl⟩ | ⟨rfl, rfl, rfl, rfl, rfl, rfl, rfl⟩
  all_goals
    go_wp2
    go_ret
    first
      | exact boolNo rfl (fun h => by have := HE.out.1 h; simp at this) B0.out
      | exact boolYes rfl (HE.out.2 (by simp)) B0.out
end Go.Proofs.Ytlppdepihchnkaa

namespace Go.Proofs.Ytlppdepihchnkaa
open Go.RowKit F256
set_option linter.unusedVariables false
set_option linter.unusedSimpArgs false

theorem l5All_any (s : Nat → Int) (h : OkShape s) (w : World) :
    Calls Try.prog 23 #[shapeV s] w fun e w' => e = .returned (.int .i64 (s 0 + s 1)) ∧ Below w.heap.size w w' := by
  obtain ⟨h1, h2, _⟩ := h
  unfold Shp3 at h1
  have B0 := (one_new w #[.int .i64 (s 0), .int .i64 (s 1), .int .i64 (s 2), .int .i64 (s 3), .int .i64 (s 4), .int .i64 (s 5), .int .i64 (s 6), .int .i64 (s 7), .int .i64 (s 8)] 24).bel
  unfold shapeV
  have hw : -9223372036854775808 ≤ s 0 + s 1 ∧ s 0 + s 1 ≤ 9223372036854775807 := by omega
  go_enter Try.func23, Try.ntmps23
  go_wp2
  go_ret
  exact ⟨rfl, B0⟩
theorem l5Drives_any (s : Nat → Int) (h : OkShape s) (w : World) :
    Calls Try.prog 24 #[shapeV s] w fun e w' => e = .returned (.int .i64 (s 2 + s 3)) ∧ Below w.heap.size w w' := by
  obtain ⟨h1, h2, _⟩ := h
  unfold Shp at h2
  have B0 := (one_new w #[.int .i64 (s 0), .int .i64 (s 1), .int .i64 (s 2), .int .i64 (s 3), .int .i64 (s 4), .int .i64 (s 5), .int .i64 (s 6), .int .i64 (s 7), .int .i64 (s 8)] 24).bel
  unfold shapeV
  have hw : -9223372036854775808 ≤ s 2 + s 3 ∧ s 2 + s 3 ≤ 9223372036854775807 := by omega
  go_enter Try.func24, Try.ntmps24
  go_wp2
  go_ret
  exact ⟨rfl, B0⟩

set_option maxHeartbeats 8000000 in
theorem l5Weights_any (s : Nat → Int) (hs : OkShape s) (r : RecD) (cs : List Value) (hi : Nat) (w : World) (h : layRec.rd w hi r cs) (hhi : hi ≤ w.heap.size) (hg : InP r.group 0 (s 0 + s 1 - 1)) (hr : RiseP r.rows.1 r.rows.2 (s 0 + s 1 - 1)) :
    Calls Try.prog 39 #[shapeV s, .agg cs.toArray] w (BoolP (WeightsP s r) w) := by
  obtain ⟨ao6, cap6, ao7, cap7, ao8, cap8, rfl, g6, g7, g8, -⟩ := Rec_rd h
  clear h
  have HS : Hid (OkShape s) := hs
  have hall : 0 ≤ s 0 + s 1 ∧ s 0 + s 1 ≤ 100 := by
    obtain ⟨h1, _⟩ := hs
    unfold Shp3 at h1
    omega
  clear hs
  obtain ⟨v6, e6, ⟨⟨_, _, e6', hm6, hc6⟩, _⟩, _⟩ := g6
  cases e6
  cases e6'
  obtain ⟨v8, e8, ⟨_, _, e8', hm8, hc8⟩, hk8⟩ := g8
  cases e8
  cases e8'
  have HC6 : Hid (r.rows.1 ≠ 0 → ∃ b off, ao6 = some ⟨b, off, none⟩ ∧ b < hi ∧ ∀ i, i < r.rows.1 → w.cell? ⟨b, off + i, none⟩ = some (.int .i64 (r.rows.2 i))) := hc6
  have HC8 : Hid (r.delta.1 ≠ 0 → ∃ b off, ao8 = some ⟨b, off, none⟩ ∧ b < hi ∧ ∀ i, i < r.delta.1 → w.cell? ⟨b, off + i, none⟩ = some (.int .u8 (r.delta.2 i))) := hc8
  unfold maxLen at hm6 hm8
  unfold InP at hg
  have HR : Hid (RiseP r.rows.1 r.rows.2 (s 0 + s 1 - 1)) := hr
  clear g7 hc6 hc8 hr hk8
  unfold shapeV
  go_enter Try.func39, Try.ntmps39
  go_wp2_with fail
  have T0 := two_newb w #[.int .i64 (s 0), .int .i64 (s 1), .int .i64 (s 2), .int .i64 (s 3), .int .i64 (s 4), .int .i64 (s 5), .int .i64 (s 6), .int .i64 (s 7), .int .i64 (s 8)] #[.int .i64 r.kind, .int .i64 r.seq, .string r.name, .int .i64 r.length, .int .i64 r.group, .int .i64 r.row, .slice ao6 r.rows.1 cap6, .slice ao7 r.data.1 cap7, .slice ao8 r.delta.1 cap8] 24 42
  obtain ⟨W, hW⟩ : ∃ W, W = (w.alloc (.cells #[.int .i64 (s 0), .int .i64 (s 1), .int .i64 (s 2), .int .i64 (s 3), .int .i64 (s 4), .int .i64 (s 5), .int .i64 (s 6), .int .i64 (s 7), .int .i64 (s 8)] 24)).alloc (.cells #[.int .i64 r.kind, .int .i64 r.seq, .string r.name, .int .i64 r.length, .int .i64 r.group, .int .i64 r.row, .slice ao6 r.rows.1 cap6, .slice ao7 r.data.1 cap7, .slice ao8 r.delta.1 cap8] 42) := ⟨_, rfl⟩
  rw [← hW] at T0 ⊢
  clear hW
  have cA := q_below (W := W) (fun w' _ => l5All_any s HS.out w')
  unfold shapeV at cA
  have zW := T0.b2.lt
  have x0_0 : W.cell? ⟨w.heap.size, 0, none⟩ = some (.int .i64 (s 0)) := T0.b1.cell 0
  have kx0_0 := cell_regrown x0_0
  have x0_1 : W.cell? ⟨w.heap.size, 1, none⟩ = some (.int .i64 (s 1)) := T0.b1.cell 1
  have kx0_1 := cell_regrown x0_1
  have x0_2 : W.cell? ⟨w.heap.size, 2, none⟩ = some (.int .i64 (s 2)) := T0.b1.cell 2
  have kx0_2 := cell_regrown x0_2
  have x0_3 : W.cell? ⟨w.heap.size, 3, none⟩ = some (.int .i64 (s 3)) := T0.b1.cell 3
  have kx0_3 := cell_regrown x0_3
  have x0_4 : W.cell? ⟨w.heap.size, 4, none⟩ = some (.int .i64 (s 4)) := T0.b1.cell 4
  have kx0_4 := cell_regrown x0_4
  have x0_5 : W.cell? ⟨w.heap.size, 5, none⟩ = some (.int .i64 (s 5)) := T0.b1.cell 5
  have kx0_5 := cell_regrown x0_5
  have x0_6 : W.cell? ⟨w.heap.size, 6, none⟩ = some (.int .i64 (s 6)) := T0.b1.cell 6
  have kx0_6 := cell_regrown x0_6
  have x0_7 : W.cell? ⟨w.heap.size, 7, none⟩ = some (.int .i64 (s 7)) := T0.b1.cell 7
  have kx0_7 := cell_regrown x0_7
  have x0_8 : W.cell? ⟨w.heap.size, 8, none⟩ = some (.int .i64 (s 8)) := T0.b1.cell 8
  have kx0_8 := cell_regrown x0_8
  have y0_0 : W.cell? ⟨w.heap.size + 1, 0, none⟩ = some (.int .i64 r.kind) := T0.b2.cell 0
  have ky0_0 := cell_regrown y0_0
  have y0_1 : W.cell? ⟨w.heap.size + 1, 1, none⟩ = some (.int .i64 r.seq) := T0.b2.cell 1
  have ky0_1 := cell_regrown y0_1
  have y0_2 : W.cell? ⟨w.heap.size + 1, 2, none⟩ = some (.string r.name) := T0.b2.cell 2
  have ky0_2 := cell_regrown y0_2
  have y0_3 : W.cell? ⟨w.heap.size + 1, 3, none⟩ = some (.int .i64 r.length) := T0.b2.cell 3
  have ky0_3 := cell_regrown y0_3
  have y0_4 : W.cell? ⟨w.heap.size + 1, 4, none⟩ = some (.int .i64 r.group) := T0.b2.cell 4
  have ky0_4 := cell_regrown y0_4
  have y0_5 : W.cell? ⟨w.heap.size + 1, 5, none⟩ = some (.int .i64 r.row) := T0.b2.cell 5
  have ky0_5 := cell_regrown y0_5
  have y0_6 : W.cell? ⟨w.heap.size + 1, 6, none⟩ = some (.slice ao6 r.rows.1 cap6) := T0.b2.cell 6
  have ky0_6 := cell_regrown y0_6
  have y0_7 : W.cell? ⟨w.heap.size + 1, 7, none⟩ = some (.slice ao7 r.data.1 cap7) := T0.b2.cell 7
  have ky0_7 := cell_regrown y0_7
  have y0_8 : W.cell? ⟨w.heap.size + 1, 8, none⟩ = some (.slice ao8 r.delta.1 cap8) := T0.b2.cell 8
  have ky0_8 := cell_regrown y0_8
  have HT : Hid (Two w W #[.int .i64 (s 0), .int .i64 (s 1), .int .i64 (s 2), .int .i64 (s 3), .int .i64 (s 4), .int .i64 (s 5), .int .i64 (s 6), .int .i64 (s 7), .int .i64 (s 8)] #[.int .i64 r.kind, .int .i64 r.seq, .string r.name, .int .i64 r.length, .int .i64 r.group, .int .i64 r.row, .slice ao6 r.rows.1 cap6, .slice ao7 r.data.1 cap7, .slice ao8 r.delta.1 cap8] 24 42) := T0
  clear T0
  by_cases hlen : (r.delta.1 : Int) = s 0 + s 1
  · obtain ⟨b8, off8, he8, hb8, hcell8⟩ := HC8.out (by omega)
    subst he8
    obtain ⟨G, hG⟩ : ∃ G : Nat, r.group = (G : Int) := ⟨r.group.toNat, by omega⟩
    have hGl : G < r.delta.1 := by omega
    have d0 : W.cell? ⟨b8, off8 + G, none⟩ = some (.int .u8 (r.delta.2 G)) := (HT.out.bel.cell (p := ⟨b8, off8 + G, none⟩) (by show b8 < w.heap.size; omega)).trans (hcell8 G hGl)
    have kd0 := cell_regrown d0
    have hne : ((r.delta.1 : Int) != s 0 + s 1) = false := by simpa using hlen
    rw [hG] at y0_4 ky0_4
    have HCE : Hid (∀ i, i < r.delta.1 → w.cell? ⟨b8, off8 + i, none⟩ = some (.int .u8 (r.delta.2 i))) := hcell8
    have HLEN : Hid ((r.delta.1 : Int) = s 0 + s 1) := hlen
    have HG : Hid (r.group = (G : Int)) := hG
    clear hcell8 hlen hG
    obtain ⟨x0, hx0⟩ : ∃ x, x = r.delta.2 G := ⟨_, rfl⟩
    have HX0 : Hid (x0 = r.delta.2 G) := hx0
    rw [← hx0] at d0 kd0
    clear hx0
    by_cases hz : x0 = 0
    · subst hz
      refine WQ.region (by kernel_rfl) (by kernel_rfl) ?_
      repeat (first | (apply WQ.skip; (case hw => rfl); intro K hK; go_simp; apply hK; clear hK K) | (apply WQ.want; (case hw => rfl); intro K hK; go_simp; first | (apply hK; clear hK K) | (apply Exists.intro; apply And.intro; (case left => intro p; (first | (go_at_call 23; exact cA _ _))); apply hK; clear hK K)))
      refine WQ.nil ?_
      intro w1 hw1
      have T1 := HT.out.call (below_rg hw1)
      have H1 : Hid (Two w w1 #[.int .i64 (s 0), .int .i64 (s 1), .int .i64 (s 2), .int .i64 (s 3), .int .i64 (s 4), .int .i64 (s 5), .int .i64 (s 6), .int .i64 (s 7), .int .i64 (s 8)] #[.int .i64 r.kind, .int .i64 r.seq, .string r.name, .int .i64 r.length, .int .i64 r.group, .int .i64 r.row, .slice ao6 r.rows.1 cap6, .slice ao7 r.data.1 cap7, .slice (some ⟨b8, off8, none⟩) r.delta.1 cap8] 24 42) := T1
      clear hw1 T1 d0 kd0
      go_wp2
      go_loopw [5] (fun i wr => ∃ k : Nat, k ≤ r.rows.1 ∧ i = .int .i64 k ∧ (∀ i, i < k → r.delta.2 (r.rows.2 i).toNat ≠ 0) ∧ Two w wr #[.int .i64 (s 0), .int .i64 (s 1), .int .i64 (s 2), .int .i64 (s 3), .int .i64 (s 4), .int .i64 (s 5), .int .i64 (s 6), .int .i64 (s 7), .int .i64 (s 8)] #[.int .i64 r.kind, .int .i64 r.seq, .string r.name, .int .i64 r.length, .int .i64 r.group, .int .i64 r.row, .slice ao6 r.rows.1 cap6, .slice ao7 r.data.1 cap7, .slice (some ⟨b8, off8, none⟩) r.delta.1 cap8] 24 42) (fun i _ => r.rows.1 - (intOf i).toNat)
      case atStart => exact ⟨0, Nat.zero_le _, rfl, fun i hi => by omega, H1.out⟩
      case round =>
        obtain ⟨k, hk, rfl, hal, T2⟩ := hrel
        have HAL : Hid (∀ i, i < k → r.delta.2 (r.rows.2 i).toNat ≠ 0) := hal
        have H2 : Hid (Two w wr #[.int .i64 (s 0), .int .i64 (s 1), .int .i64 (s 2), .int .i64 (s 3), .int .i64 (s 4), .int .i64 (s 5), .int .i64 (s 6), .int .i64 (s 7), .int .i64 (s 8)] #[.int .i64 r.kind, .int .i64 r.seq, .string r.name, .int .i64 r.length, .int .i64 r.group, .int .i64 r.row, .slice ao6 r.rows.1 cap6, .slice ao7 r.data.1 cap7, .slice (some ⟨b8, off8, none⟩) r.delta.1 cap8] 24 42) := T2
        clear hal
        have y2_6 : wr.cell? ⟨w.heap.size + 1, 6, none⟩ = some (.slice ao6 r.rows.1 cap6) := T2.b2.cell 6
        have y2_8 : wr.cell? ⟨w.heap.size + 1, 8, none⟩ = some (.slice (some ⟨b8, off8, none⟩) r.delta.1 cap8) := T2.b2.cell 8
        by_cases hlt : k < r.rows.1
        · obtain ⟨b6, off6, he6, hb6, hcell6⟩ := HC6.out (by omega)
          subst he6
          have hrk := HR.out k hlt
          obtain ⟨Y, hY⟩ : ∃ Y : Nat, r.rows.2 k = (Y : Int) := ⟨(r.rows.2 k).toNat, by omega⟩
          have hYl : Y < r.delta.1 := by have := HLEN.out; omega
          have c6 : wr.cell? ⟨b6, off6 + k, none⟩ = some (.int .i64 (Y : Int)) := by
            rw [← hY]
            exact (T2.bel.cell (p := ⟨b6, off6 + k, none⟩) (by show b6 < w.heap.size; omega)).trans (hcell6 k hlt)
          have c8 : wr.cell? ⟨b8, off8 + Y, none⟩ = some (.int .u8 (r.delta.2 Y)) := (T2.bel.cell (p := ⟨b8, off8 + Y, none⟩) (by show b8 < w.heap.size; omega)).trans (HCE.out Y hYl)
          have q6 := cell_regrown c6
          have q8 := cell_regrown c8
          have p6 := cell_regrown y2_6
          have p8 := cell_regrown y2_8
          have HY : Hid (r.rows.2 k = (Y : Int)) := hY
          clear hcell6 hrk hY T2
          obtain ⟨z0, hz0⟩ : ∃ x, x = r.delta.2 Y := ⟨_, rfl⟩
          have HZ0 : Hid (z0 = r.delta.2 Y) := hz0
          rw [← hz0] at c8 q8
          clear hz0
          by_cases hz : z0 = 0
          · subst hz
            go_wp2
            refine WQ.region (by kernel_rfl) (by kernel_rfl) ?_
            repeat (first | (apply WQ.skip; (case hw => rfl); intro K hK; go_simp; apply hK; clear hK K) | (apply WQ.want; (case hw => rfl); intro K hK; go_simp; first | (apply hK; clear hK K) | (apply Exists.intro; apply And.intro; (case left => intro p; (first | fail)); apply hK; clear hK K)))
            refine WQ.nil ?_
            intro w3 hw3
            have HB3 : Hid (Below w.heap.size w w3) := (H2.out.call (below_rg hw3)).bel
            clear hw3
            go_wp2
            go_ret
            exact boolNo rfl (fun h => h.2.2 k hlt (by rw [HY.out]; exact HZ0.out.symm)) HB3.out
          · have hz' : ((z0 : Int) == 0) = false := by simp; omega
            go_wp2
            refine WQ.region (by kernel_rfl) (by kernel_rfl) ?_
            repeat (first | (apply WQ.skip; (case hw => rfl); intro K hK; go_simp; apply hK; clear hK K) | (apply WQ.want; (case hw => rfl); intro K hK; go_simp; first | (apply hK; clear hK K) | (apply Exists.intro; apply And.intro; (case left => intro p; (first | fail)); apply hK; clear hK K)))
            refine WQ.nil ?_
            intro w3 hw3
            have HT3 : Hid (Two w w3 #[.int .i64 (s 0), .int .i64 (s 1), .int .i64 (s 2), .int .i64 (s 3), .int .i64 (s 4), .int .i64 (s 5), .int .i64 (s 6), .int .i64 (s 7), .int .i64 (s 8)] #[.int .i64 r.kind, .int .i64 r.seq, .string r.name, .int .i64 r.length, .int .i64 r.group, .int .i64 r.row, .slice (some ⟨b6, off6, none⟩) r.rows.1 cap6, .slice ao7 r.data.1 cap7, .slice (some ⟨b8, off8, none⟩) r.delta.1 cap8] 24 42) := H2.out.call (below_rg hw3)
            clear hw3
            go_wp2
            go_roundw
            case rel => exact ⟨k + 1, by omega, by go_num, fun i hi => by
                          by_cases c : i = k
                          · subst c
                            rw [HY.out, Int.toNat_natCast, ← HZ0.out]
                            exact hz
                          · exact HAL.out i (by omega), HT3.out⟩
            case measure => simp [intOf]; omega
        · obtain rfl : k = r.rows.1 := by omega
          go_wp2
          go_ret
          exact boolYes rfl ⟨HLEN.out, by rw [HG.out, Int.toNat_natCast]; exact HX0.out.symm, HAL.out⟩ H2.out.bel
    · have hz' : ((x0 : Int) != 0) = true := by simp; omega
      refine WQ.region (by kernel_rfl) (by kernel_rfl) ?_
      repeat (first | (apply WQ.skip; (case hw => rfl); intro K hK; go_simp; apply hK; clear hK K) | (apply WQ.want; (case hw => rfl); intro K hK; go_simp; first | (apply hK; clear hK K) | (apply Exists.intro; apply And.intro; (case left => intro p; (first | (go_at_call 23; exact cA _ _))); apply hK; clear hK K)))
      refine WQ.nil ?_
      intro w1 hw1
      have HB1 : Hid (Below w.heap.size w w1) := (HT.out.call (below_rg hw1)).bel
      clear hw1 d0 kd0
      go_wp2
      go_ret
      exact boolNo rfl (fun h => hz (by rw [HX0.out, ← h.2.1, HG.out, Int.toNat_natCast])) HB1.out
  · have hne : ((r.delta.1 : Int) != s 0 + s 1) = true := by simpa using hlen
    have HN : Hid (¬ (r.delta.1 : Int) = s 0 + s 1) := hlen
    clear hlen
    refine WQ.region (by kernel_rfl) (by kernel_rfl) ?_
    repeat (first | (apply WQ.skip; (case hw => rfl); intro K hK; go_simp; apply hK; clear hK K) | (apply WQ.want; (case hw => rfl); intro K hK; go_simp; first | (apply hK; clear hK K) | (apply Exists.intro; apply And.intro; (case left => intro p; (first | (go_at_call 23; exact cA _ _))); apply hK; clear hK K)))
    refine WQ.nil ?_
    intro w1 hw1
    have HB1 : Hid (Below w.heap.size w w1) := (HT.out.call (below_rg hw1)).bel
    clear hw1
    go_wp2
    go_ret
    exact boolNo rfl (fun h => HN.out h.1) HB1.out
end Go.Proofs.Ytlppdepihchnkaa

namespace Go.Proofs.Ytlppdepihchnkaa
open Go.RowKit F256
set_option linter.unusedVariables false
set_option linter.unusedSimpArgs false
theorem own_newW {s : Nat → Int} (hs : ∀ i, -9223372036854775808 ≤ s i ∧ s i ≤ 9223372036854775807) {w : World} {g D R lo lt t cap : Nat} {ao : Option Addr} (hg : (s 0 + s 1).toNat = g) (hD : (s 2 + s 3).toNat = D) (hR : (s 4).toNat = R)
    (h1 : OwnT ((layDrive.slice 59).slice 56) w lo w.heap.size (g, fun _ => (D, fun _ => freshD R)) [.slice ao g cap]) (h3 : (layTape.slice 80).own w (2, fun _ => zeroT) [.slice (some ⟨t, 0, none⟩) 2 2] [t]) (hlt : t < lo) (ht : lt ≤ t) (hlo : lo ≤ w.heap.size) :
    OwnT layWorld w lt w.heap.size (newW s) [.int .i64 (s 0), .int .i64 (s 1), .int .i64 (s 2), .int .i64 (s 3), .int .i64 (s 4), .int .i64 (s 5), .int .i64 (s 6), .int .i64 (s 7), .int .i64 (s 8), .slice ao g cap, .slice none 0 0, .slice (some ⟨t, 0, none⟩) 2 2, .int .i64 0, .int .i64 (-1), .bool false] := by
  subst hg hD hR
  obtain ⟨K, a1, a2, a3⟩ := h1
  refine ⟨K ++ ([] ++ ([t] ++ [])), World_mk (newW s) a1 (own_noInts w _ (fun _ => show (-9223372036854775808 : Int) ≤ 0 ∧ (0 : Int) ≤ 9223372036854775807 by decide)) h3 hs (show (-9223372036854775808 : Int) ≤ 0 ∧ (0 : Int) ≤ 9223372036854775807 by decide) (show (-9223372036854775808 : Int) ≤ -1 ∧ (-1 : Int) ≤ 9223372036854775807 by decide), ?_, ?_⟩
  · simp only [List.nil_append, List.append_nil]
    refine List.nodup_append.2 ⟨a2, by simp, fun b hb c hc hh => ?_⟩
    have := (a3 b hb).1
    simp at hc
    omega
  · intro b hb
    simp only [List.nil_append, List.append_nil] at hb
    rcases List.mem_append.1 hb with h | h
    · have := a3 b h; omega
    · simp at h; omega
theorem newBx_A {s : Nat → Int} {w1 w2 : World} (h : (layTape.slice 80).own w2 (2, fun _ => zeroT) [.slice (some ⟨w1.heap.size, 0, none⟩) 2 2] [w1.heap.size]) (hb : Below w1.heap.size w1 w2) (hz : w1.heap.size < w2.heap.size) :
    NewBx #[.int .i64 (s 0), .int .i64 (s 1), .int .i64 (s 2), .int .i64 (s 3), .int .i64 (s 4), .int .i64 (s 5), .int .i64 (s 6), .int .i64 (s 7), .int .i64 (s 8), .slice none 0 0, .slice none 0 0, .slice (some ⟨w1.heap.size, 0, none⟩) 2 2, .int .i64 0, .int .i64 (-1), .bool false] w1 (w2.alloc (.cells #[.int .i64 (s 0), .int .i64 (s 1), .int .i64 (s 2), .int .i64 (s 3), .int .i64 (s 4), .int .i64 (s 5), .int .i64 (s 6), .int .i64 (s 7), .int .i64 (s 8), .slice none 0 0, .slice none 0 0, .slice (some ⟨w1.heap.size, 0, none⟩) 2 2, .int .i64 0, .int .i64 (-1), .bool false] 29)) w2.heap.size w1.heap.size :=
  ⟨box_new _ _ _, (layTape.slice 80).own_kept h (fun b hb => Below.heap_alloc w2 _ b (by simp at hb; omega)), hb.size, Nat.le_refl _, by omega, hb.alloc hb.size _⟩
theorem newBx_B {s : Nat → Int} {w1 w3 : World} (hX : Box w3 w1.heap.size #[.int .i64 0, .int .i64 0, .int .i64 0, .int .i64 0, .int .i64 0, .int .i64 0, .int .i64 0, .int .i64 0, .int .i64 0, .slice none 0 0, .slice none 0 0, .slice none 0 0, .int .i64 0, .int .i64 0, .bool false] 29) (h : (layTape.slice 80).own w3 (2, fun _ => zeroT) [.slice (some ⟨w1.heap.size + 1, 0, none⟩) 2 2] [w1.heap.size + 1]) (hb : Below w1.heap.size w1 w3) :
    NewBx #[.int .i64 (s 0), .int .i64 (s 1), .int .i64 (s 2), .int .i64 (s 3), .int .i64 (s 4), .int .i64 (s 5), .int .i64 (s 6), .int .i64 (s 7), .int .i64 (s 8), .slice none 0 0, .slice none 0 0, .slice (some ⟨w1.heap.size + 1, 0, none⟩) 2 2, .int .i64 0, .int .i64 (-1), .bool false] w1 (stN w3 w1.heap.size 0 [.int .i64 (s 0), .int .i64 (s 1), .int .i64 (s 2), .int .i64 (s 3), .int .i64 (s 4), .int .i64 (s 5), .int .i64 (s 6), .int .i64 (s 7), .int .i64 (s 8), .slice none 0 0, .slice none 0 0, .slice (some ⟨w1.heap.size + 1, 0, none⟩) 2 2, .int .i64 0, .int .i64 (-1), .bool false]) w1.heap.size (w1.heap.size + 1) :=
  ⟨hX.stL [.int .i64 (s 0), .int .i64 (s 1), .int .i64 (s 2), .int .i64 (s 3), .int .i64 (s 4), .int .i64 (s 5), .int .i64 (s 6), .int .i64 (s 7), .int .i64 (s 8), .slice none 0 0, .slice none 0 0, .slice (some ⟨w1.heap.size + 1, 0, none⟩) 2 2, .int .i64 0, .int .i64 (-1), .bool false] 0, own_st h (by simp), Nat.le_refl _, by omega, by omega, hb.trans (stN_below (Nat.le_refl _) _ 0)⟩
set_option maxHeartbeats 16000000 in
set_option maxRecDepth 20000 in
theorem specNew_bad (s : Nat → Int) (hbad : ¬ OkShape s) (hs : ∀ i, -9223372036854775808 ≤ s i ∧ s i ≤ 9223372036854775807) (w : World) :
    Calls Try.prog 6 #[shapeV s] w (ResPost (NewAns s) w) := by
  have HS : Hid (∀ i, -9223372036854775808 ≤ s i ∧ s i ≤ 9223372036854775807) := hs
  clear hs
  have T0 := two_newb w #[.int .i64 (s 0), .int .i64 (s 1), .int .i64 (s 2), .int .i64 (s 3), .int .i64 (s 4), .int .i64 (s 5), .int .i64 (s 6), .int .i64 (s 7), .int .i64 (s 8)] #[.int .i64 0, .int .i64 0, .int .i64 0, .int .i64 0, .int .i64 0, .int .i64 0, .int .i64 0, .int .i64 0, .int .i64 0, .int .i64 0, .slice none 0 0, .slice none 0 0, .slice none 0 0, .int .i64 0, .int .i64 0, .bool false] 24 31
  have CSh := fun w' => specShape_any s w'
  unfold shapeV at CSh ⊢
  go_enter Try.func6, Try.ntmps6
  go_wp2_with fail
  refine (CSh _).mono ?_
  rintro e w1 ⟨x, rfl, hx, b1⟩
  have T1 : Two w w1 #[.int .i64 (s 0), .int .i64 (s 1), .int .i64 (s 2), .int .i64 (s 3), .int .i64 (s 4), .int .i64 (s 5), .int .i64 (s 6), .int .i64 (s 7), .int .i64 (s 8)] #[.int .i64 0, .int .i64 0, .int .i64 0, .int .i64 0, .int .i64 0, .int .i64 0, .int .i64 0, .int .i64 0, .int .i64 0, .int .i64 0, .slice none 0 0, .slice none 0 0, .slice none 0 0, .int .i64 0, .int .i64 0, .bool false] 24 31 := T0.call b1
  have HT1 : Hid (Two w w1 #[.int .i64 (s 0), .int .i64 (s 1), .int .i64 (s 2), .int .i64 (s 3), .int .i64 (s 4), .int .i64 (s 5), .int .i64 (s 6), .int .i64 (s 7), .int .i64 (s 8)] #[.int .i64 0, .int .i64 0, .int .i64 0, .int .i64 0, .int .i64 0, .int .i64 0, .int .i64 0, .int .i64 0, .int .i64 0, .int .i64 0, .slice none 0 0, .slice none 0 0, .slice none 0 0, .int .i64 0, .int .i64 0, .bool false] 24 31) := T1
  have z1 : w.heap.size + 1 < w1.heap.size := T1.b2.lt
  clear b1 T0 CSh
  have x1_0 : w1.cell? ⟨w.heap.size, 0, none⟩ = some (.int .i64 (s 0)) := T1.b1.cell 0
  have x1_1 : w1.cell? ⟨w.heap.size, 1, none⟩ = some (.int .i64 (s 1)) := T1.b1.cell 1
  have x1_2 : w1.cell? ⟨w.heap.size, 2, none⟩ = some (.int .i64 (s 2)) := T1.b1.cell 2
  have x1_3 : w1.cell? ⟨w.heap.size, 3, none⟩ = some (.int .i64 (s 3)) := T1.b1.cell 3
  have x1_4 : w1.cell? ⟨w.heap.size, 4, none⟩ = some (.int .i64 (s 4)) := T1.b1.cell 4
  have x1_5 : w1.cell? ⟨w.heap.size, 5, none⟩ = some (.int .i64 (s 5)) := T1.b1.cell 5
  have x1_6 : w1.cell? ⟨w.heap.size, 6, none⟩ = some (.int .i64 (s 6)) := T1.b1.cell 6
  have x1_7 : w1.cell? ⟨w.heap.size, 7, none⟩ = some (.int .i64 (s 7)) := T1.b1.cell 7
  have x1_8 : w1.cell? ⟨w.heap.size, 8, none⟩ = some (.int .i64 (s 8)) := T1.b1.cell 8
  rcases hx with ⟨rfl, hno⟩ | ⟨rfl, hok⟩
  · have HNO : Hid (¬ OkShape s) := hno
    clear hno
    have r1_0 : w1.cell? ⟨w.heap.size + 1, 0, none⟩ = some (.int .i64 0) := T1.b2.cell 0
    have r1f_0 : w1.frozen? ⟨w.heap.size + 1, 0, none⟩ = false := T1.b2.frozen 0
    have r1_1 : w1.cell? ⟨w.heap.size + 1, 1, none⟩ = some (.int .i64 0) := T1.b2.cell 1
    have r1f_1 : w1.frozen? ⟨w.heap.size + 1, 1, none⟩ = false := T1.b2.frozen 1
    have r1_2 : w1.cell? ⟨w.heap.size + 1, 2, none⟩ = some (.int .i64 0) := T1.b2.cell 2
    have r1f_2 : w1.frozen? ⟨w.heap.size + 1, 2, none⟩ = false := T1.b2.frozen 2
    have r1_3 : w1.cell? ⟨w.heap.size + 1, 3, none⟩ = some (.int .i64 0) := T1.b2.cell 3
    have r1f_3 : w1.frozen? ⟨w.heap.size + 1, 3, none⟩ = false := T1.b2.frozen 3
    have r1_4 : w1.cell? ⟨w.heap.size + 1, 4, none⟩ = some (.int .i64 0) := T1.b2.cell 4
    have r1f_4 : w1.frozen? ⟨w.heap.size + 1, 4, none⟩ = false := T1.b2.frozen 4
    have r1_5 : w1.cell? ⟨w.heap.size + 1, 5, none⟩ = some (.int .i64 0) := T1.b2.cell 5
    have r1f_5 : w1.frozen? ⟨w.heap.size + 1, 5, none⟩ = false := T1.b2.frozen 5
    have r1_6 : w1.cell? ⟨w.heap.size + 1, 6, none⟩ = some (.int .i64 0) := T1.b2.cell 6
    have r1f_6 : w1.frozen? ⟨w.heap.size + 1, 6, none⟩ = false := T1.b2.frozen 6
    have r1_7 : w1.cell? ⟨w.heap.size + 1, 7, none⟩ = some (.int .i64 0) := T1.b2.cell 7
    have r1f_7 : w1.frozen? ⟨w.heap.size + 1, 7, none⟩ = false := T1.b2.frozen 7
    have r1_8 : w1.cell? ⟨w.heap.size + 1, 8, none⟩ = some (.int .i64 0) := T1.b2.cell 8
    have r1f_8 : w1.frozen? ⟨w.heap.size + 1, 8, none⟩ = false := T1.b2.frozen 8
    have r1_9 : w1.cell? ⟨w.heap.size + 1, 9, none⟩ = some (.int .i64 0) := T1.b2.cell 9
    have r1f_9 : w1.frozen? ⟨w.heap.size + 1, 9, none⟩ = false := T1.b2.frozen 9
    have r1_10 : w1.cell? ⟨w.heap.size + 1, 10, none⟩ = some (.slice none 0 0) := T1.b2.cell 10
    have r1f_10 : w1.frozen? ⟨w.heap.size + 1, 10, none⟩ = false := T1.b2.frozen 10
    have r1_11 : w1.cell? ⟨w.heap.size + 1, 11, none⟩ = some (.slice none 0 0) := T1.b2.cell 11
    have r1f_11 : w1.frozen? ⟨w.heap.size + 1, 11, none⟩ = false := T1.b2.frozen 11
    have r1_12 : w1.cell? ⟨w.heap.size + 1, 12, none⟩ = some (.slice none 0 0) := T1.b2.cell 12
    have r1f_12 : w1.frozen? ⟨w.heap.size + 1, 12, none⟩ = false := T1.b2.frozen 12
    have r1_13 : w1.cell? ⟨w.heap.size + 1, 13, none⟩ = some (.int .i64 0) := T1.b2.cell 13
    have r1f_13 : w1.frozen? ⟨w.heap.size + 1, 13, none⟩ = false := T1.b2.frozen 13
    have r1_14 : w1.cell? ⟨w.heap.size + 1, 14, none⟩ = some (.int .i64 0) := T1.b2.cell 14
    have r1f_14 : w1.frozen? ⟨w.heap.size + 1, 14, none⟩ = false := T1.b2.frozen 14
    have r1_15 : w1.cell? ⟨w.heap.size + 1, 15, none⟩ = some (.bool false) := T1.b2.cell 15
    have r1f_15 : w1.frozen? ⟨w.heap.size + 1, 15, none⟩ = false := T1.b2.frozen 15
    clear T1
    go_wp2
    refine bodyPost_ret (v := .agg #[.int .i64 3, .int .i64 0, .int .i64 0, .int .i64 0, .int .i64 0, .int .i64 0, .int .i64 0, .int .i64 0, .int .i64 0, .int .i64 0, .slice none 0 0, .slice none 0 0, .slice none 0 0, .int .i64 0, .int .i64 0, .bool false]) (by simp [results, Try.results6, go_sem, r1_0, r1_1, r1_2, r1_3, r1_4, r1_5, r1_6, r1_7, r1_8, r1_9, r1_10, r1_11, r1_12, r1_13, r1_14, r1_15]) rfl ?_
    refine ⟨⟨3, zeroW⟩, [.int .i64 3, .int .i64 0, .int .i64 0, .int .i64 0, .int .i64 0, .int .i64 0, .int .i64 0, .int .i64 0, .int .i64 0, .int .i64 0, .slice none 0 0, .slice none 0 0, .slice none 0 0, .int .i64 0, .int .i64 0, .bool false], rfl, .inl ⟨HNO.out, rfl⟩, ?_, ?_⟩
    · exact own_resCode _ 3 (by decide) _ _
    · exact HT1.out.bel.trans (stN_below (by omega) [.int .i64 3, .int .i64 0, .int .i64 0, .int .i64 0, .int .i64 0, .int .i64 0, .int .i64 0, .int .i64 0, .int .i64 0, .int .i64 0, .slice none 0 0, .slice none 0 0, .slice none 0 0, .int .i64 0, .int .i64 0, .bool false] 0)
  exact absurd hok hbad
set_option maxHeartbeats 16000000 in
set_option maxRecDepth 20000 in
theorem specNew_ok (s : Nat → Int) (hgood : OkShape s) (hs : ∀ i, -9223372036854775808 ≤ s i ∧ s i ≤ 9223372036854775807) (w : World) :
    Calls Try.prog 6 #[shapeV s] w (ResPost (NewAns s) w) := by
  have HS : Hid (∀ i, -9223372036854775808 ≤ s i ∧ s i ≤ 9223372036854775807) := hs
  clear hs
  have T0 := two_newb w #[.int .i64 (s 0), .int .i64 (s 1), .int .i64 (s 2), .int .i64 (s 3), .int .i64 (s 4), .int .i64 (s 5), .int .i64 (s 6), .int .i64 (s 7), .int .i64 (s 8)] #[.int .i64 0, .int .i64 0, .int .i64 0, .int .i64 0, .int .i64 0, .int .i64 0, .int .i64 0, .int .i64 0, .int .i64 0, .int .i64 0, .slice none 0 0, .slice none 0 0, .slice none 0 0, .int .i64 0, .int .i64 0, .bool false] 24 31
  have CSh := fun w' => specShape_any s w'
  unfold shapeV at CSh ⊢
  go_enter Try.func6, Try.ntmps6
  go_wp2_with fail
  refine (CSh _).mono ?_
  rintro e w1 ⟨x, rfl, hx, b1⟩
  have T1 : Two w w1 #[.int .i64 (s 0), .int .i64 (s 1), .int .i64 (s 2), .int .i64 (s 3), .int .i64 (s 4), .int .i64 (s 5), .int .i64 (s 6), .int .i64 (s 7), .int .i64 (s 8)] #[.int .i64 0, .int .i64 0, .int .i64 0, .int .i64 0, .int .i64 0, .int .i64 0, .int .i64 0, .int .i64 0, .int .i64 0, .int .i64 0, .slice none 0 0, .slice none 0 0, .slice none 0 0, .int .i64 0, .int .i64 0, .bool false] 24 31 := T0.call b1
  have HT1 : Hid (Two w w1 #[.int .i64 (s 0), .int .i64 (s 1), .int .i64 (s 2), .int .i64 (s 3), .int .i64 (s 4), .int .i64 (s 5), .int .i64 (s 6), .int .i64 (s 7), .int .i64 (s 8)] #[.int .i64 0, .int .i64 0, .int .i64 0, .int .i64 0, .int .i64 0, .int .i64 0, .int .i64 0, .int .i64 0, .int .i64 0, .int .i64 0, .slice none 0 0, .slice none 0 0, .slice none 0 0, .int .i64 0, .int .i64 0, .bool false] 24 31) := T1
  have z1 : w.heap.size + 1 < w1.heap.size := T1.b2.lt
  clear b1 T0 CSh
  have x1_0 : w1.cell? ⟨w.heap.size, 0, none⟩ = some (.int .i64 (s 0)) := T1.b1.cell 0
  have x1_1 : w1.cell? ⟨w.heap.size, 1, none⟩ = some (.int .i64 (s 1)) := T1.b1.cell 1
  have x1_2 : w1.cell? ⟨w.heap.size, 2, none⟩ = some (.int .i64 (s 2)) := T1.b1.cell 2
  have x1_3 : w1.cell? ⟨w.heap.size, 3, none⟩ = some (.int .i64 (s 3)) := T1.b1.cell 3
  have x1_4 : w1.cell? ⟨w.heap.size, 4, none⟩ = some (.int .i64 (s 4)) := T1.b1.cell 4
  have x1_5 : w1.cell? ⟨w.heap.size, 5, none⟩ = some (.int .i64 (s 5)) := T1.b1.cell 5
  have x1_6 : w1.cell? ⟨w.heap.size, 6, none⟩ = some (.int .i64 (s 6)) := T1.b1.cell 6
  have x1_7 : w1.cell? ⟨w.heap.size, 7, none⟩ = some (.int .i64 (s 7)) := T1.b1.cell 7
  have x1_8 : w1.cell? ⟨w.heap.size, 8, none⟩ = some (.int .i64 (s 8)) := T1.b1.cell 8
  obtain rfl : x = 0 := by
    rcases hx with ⟨_, h⟩ | ⟨h, _⟩
    · exact absurd hgood h
    · exact h
  have hok := hgood
  clear hx hgood
  have HOK : Hid (OkShape s) := hok
  obtain ⟨G, hG⟩ : ∃ G : Nat, s 0 + s 1 = (G : Int) := ⟨(s 0 + s 1).toNat, by obtain ⟨h1, _⟩ := hok; unfold Shp3 at h1; omega⟩
  obtain ⟨D, hD⟩ : ∃ D : Nat, s 2 + s 3 = (D : Int) := ⟨(s 2 + s 3).toNat, by obtain ⟨_, h2, _⟩ := hok; unfold Shp at h2; omega⟩
  have hGb : G ≤ 6 := by obtain ⟨h1, _⟩ := hok; unfold Shp3 at h1; omega
  have hDb : D ≤ 6 := by obtain ⟨_, h2, _⟩ := hok; unfold Shp at h2; omega
  have HG : Hid (s 0 + s 1 = (G : Int)) := hG
  have HD : Hid (s 2 + s 3 = (D : Int)) := hD
  have CA := fun w' => l5All_any s HOK.out w'
  have CD := fun w' => l5Drives_any s HOK.out w'
  have CF := fun w' => l5Fresh_any s HOK.out w'
  unfold shapeV at CA CD CF
  rw [hG] at CA
  rw [hD] at CD
  clear hok hG hD T1
  have HTA : Hid (Two w (w1.alloc (.cells #[.int .i64 0, .int .i64 0, .int .i64 0, .int .i64 0, .int .i64 0, .int .i64 0, .int .i64 0, .int .i64 0, .int .i64 0, .slice none 0 0, .slice none 0 0, .slice none 0 0, .int .i64 0, .int .i64 0, .bool false] 29)) #[.int .i64 (s 0), .int .i64 (s 1), .int .i64 (s 2), .int .i64 (s 3), .int .i64 (s 4), .int .i64 (s 5), .int .i64 (s 6), .int .i64 (s 7), .int .i64 (s 8)] #[.int .i64 0, .int .i64 0, .int .i64 0, .int .i64 0, .int .i64 0, .int .i64 0, .int .i64 0, .int .i64 0, .int .i64 0, .int .i64 0, .slice none 0 0, .slice none 0 0, .slice none 0 0, .int .i64 0, .int .i64 0, .bool false] 24 31) := HT1.out.call ((Below.refl _ _).alloc (Nat.le_refl _) _)
  have zA : (w1.alloc (.cells #[.int .i64 0, .int .i64 0, .int .i64 0, .int .i64 0, .int .i64 0, .int .i64 0, .int .i64 0, .int .i64 0, .int .i64 0, .slice none 0 0, .slice none 0 0, .slice none 0 0, .int .i64 0, .int .i64 0, .bool false] 29)).heap.size = w1.heap.size + 1 := by simp
  obtain ⟨wA, hWA⟩ : ∃ x, x = w1.alloc (.cells #[.int .i64 0, .int .i64 0, .int .i64 0, .int .i64 0, .int .i64 0, .int .i64 0, .int .i64 0, .int .i64 0, .int .i64 0, .slice none 0 0, .slice none 0 0, .slice none 0 0, .int .i64 0, .int .i64 0, .bool false] 29) := ⟨_, rfl⟩
  have XA : Box wA w1.heap.size #[.int .i64 0, .int .i64 0, .int .i64 0, .int .i64 0, .int .i64 0, .int .i64 0, .int .i64 0, .int .i64 0, .int .i64 0, .slice none 0 0, .slice none 0 0, .slice none 0 0, .int .i64 0, .int .i64 0, .bool false] 29 := by rw [hWA]; exact box_new _ _ _
  have bA : Below w1.heap.size w1 wA := by rw [hWA]; exact (Below.refl _ _).alloc (Nat.le_refl _) _
  rw [← hWA] at HTA zA
  obtain ⟨w2, hrun, sp2, b2'⟩ := run_makeT el_Tape (fun _ => zeroT) (fun _ => []) w1.drew 2 (by omega)
  obtain ⟨w3, hrun3, sp3, b3'⟩ := run_makeT el_Tape (fun _ => zeroT) (fun _ => []) wA.drew 2 (by omega)
  have hrun2 : (Instr.makeSlice 27 (.int .i64 2) (.int .i64 2)).run Try.prog w1.drew = .ok (.slice (some ⟨w1.heap.size, 0, none⟩) 2 2) w2 := hrun
  have zD : wA.drew.heap.size = w1.heap.size + 1 := zA
  rw [zD] at hrun3 sp3
  have hrun4 : (Instr.makeSlice 27 (.int .i64 2) (.int .i64 2)).run Try.prog (w1.alloc (.cells #[.int .i64 0, .int .i64 0, .int .i64 0, .int .i64 0, .int .i64 0, .int .i64 0, .int .i64 0, .int .i64 0, .int .i64 0, .slice none 0 0, .slice none 0 0, .slice none 0 0, .int .i64 0, .int .i64 0, .bool false] 29)).drew = .ok (.slice (some ⟨w1.heap.size + 1, 0, none⟩) 2 2) w3 := by rw [← hWA]; exact hrun3
  have b2 : Below w1.heap.size w1 w2 := ⟨b2'.os, b2'.tape, b2'.output, b2'.size, b2'.block⟩
  have b3 : Below wA.heap.size wA w3 := ⟨b3'.os, b3'.tape, b3'.output, b3'.size, b3'.block⟩
  have O2 := sp2.two
  have O3 := sp3.two
  obtain ⟨q0, q1, q2, q3, q4, q5, q6, q7, q8⟩ := box9 (HT1.out.call b2).b1
  obtain ⟨p0, p1, p2, p3, p4, p5, p6, p7, p8⟩ := box9 HTA.out.b1
  obtain ⟨v0, v1, v2, v3, v4, v5, v6, v7, v8⟩ := box9 ((HT1.out.call b2).call ((Below.refl _ _).alloc (Nat.le_refl _) (.cells #[.int .i64 0, .int .i64 0, .int .i64 0, .int .i64 0, .int .i64 0, .int .i64 0, .int .i64 0, .int .i64 0, .int .i64 0, .slice none 0 0, .slice none 0 0, .slice none 0 0, .int .i64 0, .int .i64 0, .bool false] 29))).b1
  obtain ⟨t0, t1, t2, t3, t4, t5, t6, t7, t8⟩ := box9 (HTA.out.call b3).b1
  have X3 := XA.call b3
  have y3_0 : w3.cell? ⟨w1.heap.size, 0, none⟩ = some (.int .i64 0) := X3.cell 0
  have y3f_0 : w3.frozen? ⟨w1.heap.size, 0, none⟩ = false := X3.frozen 0
  have y3_1 : w3.cell? ⟨w1.heap.size, 1, none⟩ = some (.int .i64 0) := X3.cell 1
  have y3f_1 : w3.frozen? ⟨w1.heap.size, 1, none⟩ = false := X3.frozen 1
  have y3_2 : w3.cell? ⟨w1.heap.size, 2, none⟩ = some (.int .i64 0) := X3.cell 2
  have y3f_2 : w3.frozen? ⟨w1.heap.size, 2, none⟩ = false := X3.frozen 2
  have y3_3 : w3.cell? ⟨w1.heap.size, 3, none⟩ = some (.int .i64 0) := X3.cell 3
  have y3f_3 : w3.frozen? ⟨w1.heap.size, 3, none⟩ = false := X3.frozen 3
  have y3_4 : w3.cell? ⟨w1.heap.size, 4, none⟩ = some (.int .i64 0) := X3.cell 4
  have y3f_4 : w3.frozen? ⟨w1.heap.size, 4, none⟩ = false := X3.frozen 4
  have y3_5 : w3.cell? ⟨w1.heap.size, 5, none⟩ = some (.int .i64 0) := X3.cell 5
  have y3f_5 : w3.frozen? ⟨w1.heap.size, 5, none⟩ = false := X3.frozen 5
  have y3_6 : w3.cell? ⟨w1.heap.size, 6, none⟩ = some (.int .i64 0) := X3.cell 6
  have y3f_6 : w3.frozen? ⟨w1.heap.size, 6, none⟩ = false := X3.frozen 6
  have y3_7 : w3.cell? ⟨w1.heap.size, 7, none⟩ = some (.int .i64 0) := X3.cell 7
  have y3f_7 : w3.frozen? ⟨w1.heap.size, 7, none⟩ = false := X3.frozen 7
  have y3_8 : w3.cell? ⟨w1.heap.size, 8, none⟩ = some (.int .i64 0) := X3.cell 8
  have y3f_8 : w3.frozen? ⟨w1.heap.size, 8, none⟩ = false := X3.frozen 8
  have y3_9 : w3.cell? ⟨w1.heap.size, 9, none⟩ = some (.slice none 0 0) := X3.cell 9
  have y3f_9 : w3.frozen? ⟨w1.heap.size, 9, none⟩ = false := X3.frozen 9
  have y3_10 : w3.cell? ⟨w1.heap.size, 10, none⟩ = some (.slice none 0 0) := X3.cell 10
  have y3f_10 : w3.frozen? ⟨w1.heap.size, 10, none⟩ = false := X3.frozen 10
  have y3_11 : w3.cell? ⟨w1.heap.size, 11, none⟩ = some (.slice none 0 0) := X3.cell 11
  have y3f_11 : w3.frozen? ⟨w1.heap.size, 11, none⟩ = false := X3.frozen 11
  have y3_12 : w3.cell? ⟨w1.heap.size, 12, none⟩ = some (.int .i64 0) := X3.cell 12
  have y3f_12 : w3.frozen? ⟨w1.heap.size, 12, none⟩ = false := X3.frozen 12
  have y3_13 : w3.cell? ⟨w1.heap.size, 13, none⟩ = some (.int .i64 0) := X3.cell 13
  have y3f_13 : w3.frozen? ⟨w1.heap.size, 13, none⟩ = false := X3.frozen 13
  have y3_14 : w3.cell? ⟨w1.heap.size, 14, none⟩ = some (.bool false) := X3.cell 14
  have y3f_14 : w3.frozen? ⟨w1.heap.size, 14, none⟩ = false := X3.frozen 14
  rw [hWA] at p0 p1 p2 p3 p4 p5 p6 p7 p8
  have HX3 : Hid (Box w3 w1.heap.size #[.int .i64 0, .int .i64 0, .int .i64 0, .int .i64 0, .int .i64 0, .int .i64 0, .int .i64 0, .int .i64 0, .int .i64 0, .slice none 0 0, .slice none 0 0, .slice none 0 0, .int .i64 0, .int .i64 0, .bool false] 29) := X3
  have HO2 : Hid ((layTape.slice 80).own w2 (2, fun _ => zeroT) [.slice (some ⟨w1.heap.size, 0, none⟩) 2 2] [w1.heap.size]) := O2
  have HO3 : Hid ((layTape.slice 80).own w3 (2, fun _ => zeroT) [.slice (some ⟨w1.heap.size + 1, 0, none⟩) 2 2] [w1.heap.size + 1]) := O3
  have HB2 : Hid (Below w1.heap.size w1 w2) := b2
  have HB3 : Hid (Below w1.heap.size w1 w3) := bA.trans (b3.mono bA.size)
  have z2 : w1.heap.size < w2.heap.size := sp2.lt
  clear O2 O3 b2 b3 b2' b3' sp2 sp3 hrun hrun3 XA X3 HTA zA zD bA
  go_upto_region 4 with fail
  go_cut [4] (fun v wx => ∃ P t, v = .pointer (some ⟨P, 0, none⟩) ∧ NewBx #[.int .i64 (s 0), .int .i64 (s 1), .int .i64 (s 2), .int .i64 (s 3), .int .i64 (s 4), .int .i64 (s 5), .int .i64 (s 6), .int .i64 (s 7), .int .i64 (s 8), .slice none 0 0, .slice none 0 0, .slice (some ⟨t, 0, none⟩) 2 2, .int .i64 0, .int .i64 (-1), .bool false] w1 wx P t)
  case first =>
    go_region
    all_goals
      go_wp2
      go_meet
      first
        | (refine ⟨w2.heap.size, w1.heap.size, rfl, ?_⟩; exact newBx_A HO2.out HB2.out (by omega))
        | (refine ⟨w1.heap.size, w1.heap.size + 1, rfl, ?_⟩; exact newBx_B HX3.out HO3.out HB3.out)
  case rest =>
    obtain ⟨P, t, rfl, NB⟩ := hcut
    obtain ⟨w5, rfl⟩ : ∃ x, x = wc := ⟨_, rfl⟩
    have HN5 : Hid (NewBx #[.int .i64 (s 0), .int .i64 (s 1), .int .i64 (s 2), .int .i64 (s 3), .int .i64 (s 4), .int .i64 (s 5), .int .i64 (s 6), .int .i64 (s 7), .int .i64 (s 8), .slice none 0 0, .slice none 0 0, .slice (some ⟨t, 0, none⟩) 2 2, .int .i64 0, .int .i64 (-1), .bool false] w1 w5 P t) := NB
    have HT5 : Hid (Two w w5 #[.int .i64 (s 0), .int .i64 (s 1), .int .i64 (s 2), .int .i64 (s 3), .int .i64 (s 4), .int .i64 (s 5), .int .i64 (s 6), .int .i64 (s 7), .int .i64 (s 8)] #[.int .i64 0, .int .i64 0, .int .i64 0, .int .i64 0, .int .i64 0, .int .i64 0, .int .i64 0, .int .i64 0, .int .i64 0, .int .i64 0, .slice none 0 0, .slice none 0 0, .slice none 0 0, .int .i64 0, .int .i64 0, .bool false] 24 31) := HT1.out.call NB.bel
    have zP : w1.heap.size ≤ P := NB.p1
    have zt : t < w5.heap.size := (layTape.slice 80).own_lt NB.tp t (by simp)
    have zP5 : P < w5.heap.size := NB.box.lt
    have z5 : w1.heap.size ≤ w5.heap.size := NB.bel.size
    clear x1_0 x1_1 x1_2 x1_3 x1_4 x1_5 x1_6 x1_7 x1_8 hrun2 hrun4 q0 q1 q2 q3 q4 q5 q6 q7 q8 p0 p1 p2 p3 p4 p5 p6 p7 p8 t0 t1 t2 t3 t4 t5 t6 t7 t8 v0 v1 v2 v3 v4 v5 v6 v7 v8 y3_0 y3f_0 y3_1 y3f_1 y3_2 y3f_2 y3_3 y3f_3 y3_4 y3f_4 y3_5 y3f_5 y3_6 y3f_6 y3_7 y3f_7 y3_8 y3f_8 y3_9 y3f_9 y3_10 y3f_10 y3_11 y3f_11 y3_12 y3f_12 y3_13 y3f_13 y3_14 y3f_14 HX3 HO2 HO3 HB2 HB3 z2 hWA NB
    obtain ⟨R, hRr⟩ : ∃ R, R = (s 4).toNat := ⟨_, rfl⟩
    rw [← hRr] at CF
    have HRr : Hid (R = (s 4).toNat) := hRr
    clear hRr
    go_wp2
    go_loopw [5] (fun i wr => ∃ (g : Nat) (ao : Option Addr) (cap : Nat), g ≤ G ∧ i = .int .i64 g ∧ Box wr P #[.int .i64 (s 0), .int .i64 (s 1), .int .i64 (s 2), .int .i64 (s 3), .int .i64 (s 4), .int .i64 (s 5), .int .i64 (s 6), .int .i64 (s 7), .int .i64 (s 8), .slice ao g cap, .slice none 0 0, .slice (some ⟨t, 0, none⟩) 2 2, .int .i64 0, .int .i64 (-1), .bool false] 29 ∧ Gat (layDrive.slice 59) 56 wr w5.heap.size (.slice ao g cap) g (fun _ => (D, fun _ => freshD R)) ∧ ChgL [P] w5 wr) (fun i _ => G - (intOf i).toNat)
    case atStart => exact ⟨0, none, 0, Nat.zero_le _, rfl, HN5.out.box, Gat.nil _ _ _, ChgL.refl _ _⟩
    case round =>
      obtain ⟨g, ao, cap, hg, rfl, X6, G6, C6⟩ := hrel
      obtain ⟨wo, rfl⟩ : ∃ x, x = wr := ⟨_, rfl⟩
      have T6 : Two w wo #[.int .i64 (s 0), .int .i64 (s 1), .int .i64 (s 2), .int .i64 (s 3), .int .i64 (s 4), .int .i64 (s 5), .int .i64 (s 6), .int .i64 (s 7), .int .i64 (s 8)] #[.int .i64 0, .int .i64 0, .int .i64 0, .int .i64 0, .int .i64 0, .int .i64 0, .int .i64 0, .int .i64 0, .int .i64 0, .int .i64 0, .slice none 0 0, .slice none 0 0, .slice none 0 0, .int .i64 0, .int .i64 0, .bool false] 24 31 := HT5.out.chgl C6 (by omega)
      have HT6 : Hid (Two w wo #[.int .i64 (s 0), .int .i64 (s 1), .int .i64 (s 2), .int .i64 (s 3), .int .i64 (s 4), .int .i64 (s 5), .int .i64 (s 6), .int .i64 (s 7), .int .i64 (s 8)] #[.int .i64 0, .int .i64 0, .int .i64 0, .int .i64 0, .int .i64 0, .int .i64 0, .int .i64 0, .int .i64 0, .int .i64 0, .int .i64 0, .slice none 0 0, .slice none 0 0, .slice none 0 0, .int .i64 0, .int .i64 0, .bool false] 24 31) := T6
      have HX6 : Hid (Box wo P #[.int .i64 (s 0), .int .i64 (s 1), .int .i64 (s 2), .int .i64 (s 3), .int .i64 (s 4), .int .i64 (s 5), .int .i64 (s 6), .int .i64 (s 7), .int .i64 (s 8), .slice ao g cap, .slice none 0 0, .slice (some ⟨t, 0, none⟩) 2 2, .int .i64 0, .int .i64 (-1), .bool false] 29) := X6
      have HG6 : Hid (Gat (layDrive.slice 59) 56 wo w5.heap.size (.slice ao g cap) g (fun _ => (D, fun _ => freshD R))) := G6
      have HC6 : Hid (ChgL [P] w5 wo) := C6
      have z6 : w5.heap.size ≤ wo.heap.size := C6.size
      obtain ⟨x0, x1, x2, x3, x4, x5, x6, x7, x8⟩ := box9 T6.b1
      clear T6 X6 G6 C6
      go_wp2_with fail
      refine (CA _).mono ?_
      rintro e wa ⟨rfl, ba⟩
      have HBA : Hid (Below wo.heap.size wo wa) := ba
      have HTA : Hid (Two w wa #[.int .i64 (s 0), .int .i64 (s 1), .int .i64 (s 2), .int .i64 (s 3), .int .i64 (s 4), .int .i64 (s 5), .int .i64 (s 6), .int .i64 (s 7), .int .i64 (s 8)] #[.int .i64 0, .int .i64 0, .int .i64 0, .int .i64 0, .int .i64 0, .int .i64 0, .int .i64 0, .int .i64 0, .int .i64 0, .int .i64 0, .slice none 0 0, .slice none 0 0, .slice none 0 0, .int .i64 0, .int .i64 0, .bool false] 24 31) := HT6.out.call ba
      have za : wo.heap.size ≤ wa.heap.size := ba.size
      clear ba x0 x1 x2 x3 x4 x5 x6 x7 x8
      by_cases hlt : g < G
      · have hd : decide ((g : Int) < (G : Int)) = true := decide_eq_true (by omega)
        go_wp2
        go_loopw [6, 7] (fun v i wx => ∃ (k : Nat) (ao' : Option Addr) (cap' : Nat), k ≤ D ∧ i = .int .i64 k ∧ v = .slice ao' k cap' ∧ Gat layDrive 59 wx wa.heap.size (.slice ao' k cap') k (fun _ => freshD R) ∧ Below wa.heap.size wa wx) (fun _ i _ => D - (intOf i).toNat)
        case atStart => exact ⟨0, _, _, Nat.zero_le _, rfl, rfl, gat_lit0 _ _, (Below.refl _ _).alloc (Nat.le_refl _) _⟩
        case round =>
          obtain ⟨k, ao', cap', hk, rfl, rfl, G7, B7⟩ := hrel
          obtain ⟨wx, rfl⟩ : ∃ x, x = wr := ⟨_, rfl⟩
          have T7 := HTA.out.call B7
          have HG7 : Hid (Gat layDrive 59 wx wa.heap.size (.slice ao' k cap') k (fun _ => freshD R)) := G7
          have HB7 : Hid (Below wa.heap.size wa wx) := B7
          have zx : wa.heap.size ≤ wx.heap.size := B7.size
          obtain ⟨x0, x1, x2, x3, x4, x5, x6, x7, x8⟩ := box9 T7.b1
          clear T7 G7 B7
          go_wp2_with fail
          refine (CD _).mono ?_
          rintro e wb ⟨rfl, bb⟩
          have HBB : Hid (Below wx.heap.size wx wb) := bb
          have T8 := (HTA.out.call HB7.out).call bb
          have zb : wx.heap.size ≤ wb.heap.size := bb.size
          clear bb x0 x1 x2 x3 x4 x5 x6 x7 x8
          by_cases hlk : k < D
          · have hd2 : decide ((k : Int) < (D : Int)) = true := decide_eq_true (by omega)
            obtain ⟨x0, x1, x2, x3, x4, x5, x6, x7, x8⟩ := box9 T8.b1
            clear T8
            go_wp2_with fail
            refine (CF _).mono ?_
            rintro e wf ⟨cf, rfl, of, bf⟩
            obtain ⟨fo, fc, rfl⟩ := Drive_cells of
            clear x0 x1 x2 x3 x4 x5 x6 x7 x8
            go_wp2_with (at_builtin; refine wp_appendN el_Drive rfl (.tmp 30) (.tmp 33) rfl (lo := wa.heap.size) (n := k) (v := .slice ao' k cap') (x := fun _ => freshD R) ?_ (HG7.out.below HBB.out) bf of ?_ wf.heap.size 1 ?_ (fun j _ => cells_new wf _ _ j) (by omega) (by omega) ?_; (simp [Act.eval]); (exact (Below.refl _ _).alloc (Nat.le_refl _) _); (simp [Act.eval]); intro v4 w4 g4 b4; obtain ⟨ao4, cap4, rfl⟩ := g4.form)
            go_roundw
            case rel => exact ⟨k + 1, ao4, cap4, by omega, by go_num, rfl, g4.congr (fun i _ => by rw [show upd (fun _ => freshD R) k (freshD R) = fun _ => freshD R from upd_self (fun _ => freshD R) k]), (HB7.out.trans (HBB.out.mono zx)).trans b4⟩
            case measure => simp [intOf]; omega
          · obtain rfl : k = D := by omega
            have hd2 : decide ((k : Int) < (k : Int)) = false := decide_eq_false (by omega)
            have c9 : wb.cell? ⟨P, 9, none⟩ = some (.slice ao g cap) := (((HX6.out.call HBA.out).call HB7.out).call HBB.out).cell 9
            have OD : OwnT (layDrive.slice 59) wb wo.heap.size wb.heap.size (k, fun _ => freshD R) [.slice ao' k cap'] := (HG7.out.below HBB.out).own.weaken za (Nat.le_refl _)
            have HOD : Hid (OwnT (layDrive.slice 59) wb wo.heap.size wb.heap.size (k, fun _ => freshD R) [.slice ao' k cap']) := OD
            have HBO : Hid (Below wo.heap.size wo wb) := (HBA.out.trans (HB7.out.mono za)).trans (HBB.out.mono (by omega))
            clear T8 OD
            have c9' := (cell_alloc_old wb (.cells #[.slice ao' k cap'] 56) P 9 (by omega)).trans c9
            go_wp2_with (at_builtin; refine wp_appendN el_DriveS rfl (.tmp 36) (.tmp 38) rfl (lo := w5.heap.size) (n := g) (v := .slice ao g cap) (x := fun _ => (k, fun _ => freshD R)) ?_ HG6.out HBO.out HOD.out ?_ wb.heap.size 1 ?_ (fun j _ => cells_new wb _ _ j) (by omega) (by omega) ?_; (simp [Act.eval]); (exact (Below.refl _ _).alloc (Nat.le_refl _) _); (simp [Act.eval]); intro v4 w4 g4 b4; obtain ⟨ao4, cap4, rfl⟩ := g4.form; have X9 := HX6.out.below b4 zP5; have d9 : w4.cell? ⟨P, 9, none⟩ = some (.slice ao g cap) := X9.cell 9; have d9f : w4.frozen? ⟨P, 9, none⟩ = false := X9.frozen 9)
            go_roundw
            case rel => exact ⟨g + 1, ao4, cap4, by omega, by go_num, X9.setc 9 (.slice ao4 (g + 1) cap4), (g4.set _ _ _ zP5).congr (fun i _ => by rw [show upd (fun _ => (k, fun _ => freshD R)) g (k, fun _ => freshD R) = fun _ => (k, fun _ => freshD R) from upd_self (fun _ => (k, fun _ => freshD R)) g]), (HC6.out.after b4).st P 9 _ (by simp)⟩
            case measure => simp [intOf]; omega
      · obtain rfl : g = G := by omega
        have hd : decide ((g : Int) < (g : Int)) = false := decide_eq_false (by omega)
        have XA := HX6.out.call HBA.out
        have TA := HTA.out
        have y_0 : wa.cell? ⟨P, 0, none⟩ = some (.int .i64 (s 0)) := XA.cell 0
        have y_1 : wa.cell? ⟨P, 1, none⟩ = some (.int .i64 (s 1)) := XA.cell 1
        have y_2 : wa.cell? ⟨P, 2, none⟩ = some (.int .i64 (s 2)) := XA.cell 2
        have y_3 : wa.cell? ⟨P, 3, none⟩ = some (.int .i64 (s 3)) := XA.cell 3
        have y_4 : wa.cell? ⟨P, 4, none⟩ = some (.int .i64 (s 4)) := XA.cell 4
        have y_5 : wa.cell? ⟨P, 5, none⟩ = some (.int .i64 (s 5)) := XA.cell 5
        have y_6 : wa.cell? ⟨P, 6, none⟩ = some (.int .i64 (s 6)) := XA.cell 6
        have y_7 : wa.cell? ⟨P, 7, none⟩ = some (.int .i64 (s 7)) := XA.cell 7
        have y_8 : wa.cell? ⟨P, 8, none⟩ = some (.int .i64 (s 8)) := XA.cell 8
        have y_9 : wa.cell? ⟨P, 9, none⟩ = some (.slice ao g cap) := XA.cell 9
        have y_10 : wa.cell? ⟨P, 10, none⟩ = some (.slice none 0 0) := XA.cell 10
        have y_11 : wa.cell? ⟨P, 11, none⟩ = some (.slice (some ⟨t, 0, none⟩) 2 2) := XA.cell 11
        have y_12 : wa.cell? ⟨P, 12, none⟩ = some (.int .i64 0) := XA.cell 12
        have y_13 : wa.cell? ⟨P, 13, none⟩ = some (.int .i64 (-1)) := XA.cell 13
        have y_14 : wa.cell? ⟨P, 14, none⟩ = some (.bool false) := XA.cell 14
        have r_0 : wa.cell? ⟨w.heap.size + 1, 0, none⟩ = some (.int .i64 0) := TA.b2.cell 0
        have rf_0 : wa.frozen? ⟨w.heap.size + 1, 0, none⟩ = false := TA.b2.frozen 0
        have r_1 : wa.cell? ⟨w.heap.size + 1, 1, none⟩ = some (.int .i64 0) := TA.b2.cell 1
        have rf_1 : wa.frozen? ⟨w.heap.size + 1, 1, none⟩ = false := TA.b2.frozen 1
        have r_2 : wa.cell? ⟨w.heap.size + 1, 2, none⟩ = some (.int .i64 0) := TA.b2.cell 2
        have rf_2 : wa.frozen? ⟨w.heap.size + 1, 2, none⟩ = false := TA.b2.frozen 2
        have r_3 : wa.cell? ⟨w.heap.size + 1, 3, none⟩ = some (.int .i64 0) := TA.b2.cell 3
        have rf_3 : wa.frozen? ⟨w.heap.size + 1, 3, none⟩ = false := TA.b2.frozen 3
        have r_4 : wa.cell? ⟨w.heap.size + 1, 4, none⟩ = some (.int .i64 0) := TA.b2.cell 4
        have rf_4 : wa.frozen? ⟨w.heap.size + 1, 4, none⟩ = false := TA.b2.frozen 4
        have r_5 : wa.cell? ⟨w.heap.size + 1, 5, none⟩ = some (.int .i64 0) := TA.b2.cell 5
        have rf_5 : wa.frozen? ⟨w.heap.size + 1, 5, none⟩ = false := TA.b2.frozen 5
        have r_6 : wa.cell? ⟨w.heap.size + 1, 6, none⟩ = some (.int .i64 0) := TA.b2.cell 6
        have rf_6 : wa.frozen? ⟨w.heap.size + 1, 6, none⟩ = false := TA.b2.frozen 6
        have r_7 : wa.cell? ⟨w.heap.size + 1, 7, none⟩ = some (.int .i64 0) := TA.b2.cell 7
        have rf_7 : wa.frozen? ⟨w.heap.size + 1, 7, none⟩ = false := TA.b2.frozen 7
        have r_8 : wa.cell? ⟨w.heap.size + 1, 8, none⟩ = some (.int .i64 0) := TA.b2.cell 8
        have rf_8 : wa.frozen? ⟨w.heap.size + 1, 8, none⟩ = false := TA.b2.frozen 8
        have r_9 : wa.cell? ⟨w.heap.size + 1, 9, none⟩ = some (.int .i64 0) := TA.b2.cell 9
        have rf_9 : wa.frozen? ⟨w.heap.size + 1, 9, none⟩ = false := TA.b2.frozen 9
        have r_10 : wa.cell? ⟨w.heap.size + 1, 10, none⟩ = some (.slice none 0 0) := TA.b2.cell 10
        have rf_10 : wa.frozen? ⟨w.heap.size + 1, 10, none⟩ = false := TA.b2.frozen 10
        have r_11 : wa.cell? ⟨w.heap.size + 1, 11, none⟩ = some (.slice none 0 0) := TA.b2.cell 11
        have rf_11 : wa.frozen? ⟨w.heap.size + 1, 11, none⟩ = false := TA.b2.frozen 11
        have r_12 : wa.cell? ⟨w.heap.size + 1, 12, none⟩ = some (.slice none 0 0) := TA.b2.cell 12
        have rf_12 : wa.frozen? ⟨w.heap.size + 1, 12, none⟩ = false := TA.b2.frozen 12
        have r_13 : wa.cell? ⟨w.heap.size + 1, 13, none⟩ = some (.int .i64 0) := TA.b2.cell 13
        have rf_13 : wa.frozen? ⟨w.heap.size + 1, 13, none⟩ = false := TA.b2.frozen 13
        have r_14 : wa.cell? ⟨w.heap.size + 1, 14, none⟩ = some (.int .i64 0) := TA.b2.cell 14
        have rf_14 : wa.frozen? ⟨w.heap.size + 1, 14, none⟩ = false := TA.b2.frozen 14
        have r_15 : wa.cell? ⟨w.heap.size + 1, 15, none⟩ = some (.bool false) := TA.b2.cell 15
        have rf_15 : wa.frozen? ⟨w.heap.size + 1, 15, none⟩ = false := TA.b2.frozen 15
        clear XA TA
        go_wp2
        refine bodyPost_ret (v := .agg #[.int .i64 0, .int .i64 (s 0), .int .i64 (s 1), .int .i64 (s 2), .int .i64 (s 3), .int .i64 (s 4), .int .i64 (s 5), .int .i64 (s 6), .int .i64 (s 7), .int .i64 (s 8), .slice ao g cap, .slice none 0 0, .slice (some ⟨t, 0, none⟩) 2 2, .int .i64 0, .int .i64 (-1), .bool false]) (by simp [results, Try.results6, go_sem, r_0, r_1, r_2, r_3, r_4, r_5, r_6, r_7, r_8, r_9, r_10, r_11, r_12, r_13, r_14, r_15, y_0, y_1, y_2, y_3, y_4, y_5, y_6, y_7, y_8, y_9, y_10, y_11, y_12, y_13, y_14]) rfl ?_
        refine ⟨⟨0, newW s⟩, [.int .i64 0, .int .i64 (s 0), .int .i64 (s 1), .int .i64 (s 2), .int .i64 (s 3), .int .i64 (s 4), .int .i64 (s 5), .int .i64 (s 6), .int .i64 (s 7), .int .i64 (s 8), .slice ao g cap, .slice none 0 0, .slice (some ⟨t, 0, none⟩) 2 2, .int .i64 0, .int .i64 (-1), .bool false], rfl, .inr ⟨HOK.out, rfl⟩, ?_, ?_⟩
        · have F := own_newW HS.out (show (s 0 + s 1).toNat = g by have := HG.out; omega) (show (s 2 + s 3).toNat = D by have := HD.out; omega) HRr.out.symm (HG6.out.below HBA.out).own ((layTape.slice 80).own_kept ((layTape.slice 80).own_kept HN5.out.tp (fun b hb => HC6.out.block b (by simp at hb; omega) (by have := HN5.out.ne; simp at hb ⊢; omega))) (fun b hb => HBA.out.block b (by simp at hb; omega))) zt (show w.heap.size + 1 + 1 ≤ t by have := HN5.out.t1; omega) (by omega)
          exact OwnT.finb (own_resOf 0 (by decide) F) (b := w.heap.size + 1) (by omega) (by omega) 0 [.int .i64 0, .int .i64 (s 0), .int .i64 (s 1), .int .i64 (s 2), .int .i64 (s 3), .int .i64 (s 4), .int .i64 (s 5), .int .i64 (s 6), .int .i64 (s 7), .int .i64 (s 8), .slice ao g cap, .slice none 0 0, .slice (some ⟨t, 0, none⟩) 2 2, .int .i64 0, .int .i64 (-1), .bool false] _ rfl
        · exact HTA.out.bel.trans (stN_below (by omega) [.int .i64 0, .int .i64 (s 0), .int .i64 (s 1), .int .i64 (s 2), .int .i64 (s 3), .int .i64 (s 4), .int .i64 (s 5), .int .i64 (s 6), .int .i64 (s 7), .int .i64 (s 8), .slice ao g cap, .slice none 0 0, .slice (some ⟨t, 0, none⟩) 2 2, .int .i64 0, .int .i64 (-1), .bool false] 0)
theorem specNew_any (s : Nat → Int) (hs : ∀ i, -9223372036854775808 ≤ s i ∧ s i ≤ 9223372036854775807) (w : World) : Calls Try.prog 6 #[shapeV s] w (ResPost (NewAns s) w) := by
  by_cases h : OkShape s
  · exact specNew_ok s h hs w
  · exact specNew_bad s h hs w
end Go.Proofs.Ytlppdepihchnkaa

namespace Go.Proofs.Ytlppdepihchnkaa
open Go.RowKit F256
set_option linter.unusedVariables false
set_option linter.unusedSimpArgs false

set_option maxHeartbeats 1000000 in
theorem index_any (v : Value) (n : Nat) (g : Nat → Int) (hi : Nat) (x : Int) (w : World) (r : RdI w hi v n g) :
    Calls Try.prog 118 #[v, .int .i64 x] w fun e w' => ∃ z : Int, e = .returned (.int .i64 z) ∧ (0 ≤ z ↔ ∃ t, t < n ∧ g t = x) ∧ w' = w := by
  obtain ⟨ao, cap, rfl, hm, hc⟩ := r
  unfold maxLen at hm
  go_enter Try.func118, Try.ntmps118
  go_wp2
  go_loop [8] (fun i => ∃ k : Nat, k ≤ n ∧ i = .int .i64 k ∧ ∀ i, i < k → g i ≠ x) (fun i => n - (intOf i).toNat)
  case atStart => exact ⟨0, Nat.zero_le _, rfl, fun i hi => by omega⟩
  case round =>
    obtain ⟨k, hk, rfl, hall⟩ := hrel
    have HALL : Hid (∀ i, i < k → g i ≠ x) := hall
    clear hall
    by_cases hlt : k < n
    · obtain ⟨b, off, rfl, hblt, hcell⟩ := hc (by omega)
      have hck : w.cell? ⟨b, off + k, none⟩ = some (.int .i64 (g k)) := hcell k hlt
      obtain ⟨y, hy⟩ : ∃ y, y = g k := ⟨_, rfl⟩
      have HY : Hid (y = g k) := hy
      rw [← hy] at hck
      clear hc hcell hy
      by_cases heq : x = y
      · have HP : Hid (0 ≤ (k : Int) ↔ ∃ t, t < n ∧ g t = x) := ⟨fun _ => ⟨k, hlt, by rw [← HY.out, heq]⟩, fun _ => by omega⟩
        have te : (x == y) = true := by simp [heq]
        clear heq
        go_wp2
        go_ret
        exact ⟨_, rfl, HP.out, rfl⟩
      · have te : (x == y) = false := by simp [heq]
        have HN : Hid (g k ≠ x) := by show g k ≠ x; rw [← HY.out]; exact fun h => heq h.symm
        clear heq
        go_wp2
        go_round
        case rel => exact ⟨k + 1, by omega, by go_num, fun i hi => by
                      by_cases c : i = k
                      · rw [c]; exact HN.out
                      · exact HALL.out i (by omega)⟩
        case measure => simp [intOf]; omega
    · obtain rfl : k = n := by omega
      have HP : Hid (0 ≤ (-1 : Int) ↔ ∃ t, t < k ∧ g t = x) := ⟨fun h => by omega, fun ⟨t, ht, he⟩ => absurd he (HALL.out t ht)⟩
      clear hc
      go_wp2
      go_ret
      exact ⟨-1, rfl, HP.out, rfl⟩

theorem contains_any (v : Value) (n : Nat) (g : Nat → Int) (hi : Nat) (x : Int) (w : World) (r : RdI w hi v n g) :
    Calls Try.prog 108 #[v, .int .i64 x] w (BoolP (∃ t, t < n ∧ g t = x) w) := by
  have C := index_any v n g hi x w r
  obtain ⟨ao, cap, rfl, hm, hc⟩ := r
  clear hc hm
  have HI : Hid (Calls Try.prog 118 #[.slice ao n cap, .int .i64 x] w fun e w' => ∃ z : Int, e = .returned (.int .i64 z) ∧ (0 ≤ z ↔ ∃ t, t < n ∧ g t = x) ∧ w' = w) := C
  clear C
  obtain ⟨P, hP⟩ : ∃ P : Prop, P = ∃ t, t < n ∧ g t = x := ⟨_, rfl⟩
  rw [← hP] at HI ⊢
  clear hP
  go_enter Try.func108, Try.ntmps108
  go_wp2_with fail
  refine HI.out.mono ?_
  rintro e w1 ⟨z, rfl, hz, hw1⟩
  obtain rfl := hw1.symm
  have HZ : Hid (0 ≤ z ↔ P) := hz
  clear hz HI
  by_cases h0 : 0 ≤ z
  · have HP : Hid P := HZ.out.mp h0
    go_wp2
    go_ret
    exact boolYes rfl HP.out (Below.refl _ _)
  · have HP : Hid (¬ P) := fun h => h0 (HZ.out.mpr h)
    have td : decide (0 ≤ z) = false := by simp; omega
    clear h0
    go_wp2
    go_ret
    exact boolNo rfl HP.out (Below.refl _ _)
end Go.Proofs.Ytlppdepihchnkaa

namespace Go.Proofs.Ytlppdepihchnkaa
open Go.RowKit

theorem Box.allocd {w : World} {b : Nat} {cs : Array Value} {t : TypeId} (h : Box w b cs t) (o : Obj) : Box (w.alloc o) b cs t := (Below.heap_alloc w o b h.lt).trans h
theorem box_first {w w1 : World} {cs : Array Value} {t : TypeId} (h : Below (w.alloc (.cells cs t)).heap.size (w.alloc (.cells cs t)) w1) : Box w1 w.heap.size cs t ∧ Below w.heap.size w w1 :=
  ⟨(box_new w cs t).below h (by simp), bnew h⟩
theorem box_on {B : Nat} {w w1 : World} {cs : Array Value} {t : TypeId} {o : Obj} (hX : Box w B cs t) (h : Below (w.alloc o).heap.size (w.alloc o) w1) : Box w1 B cs t := (hX.allocd o).below h (hX.allocd o).lt
end Go.Proofs.Ytlppdepihchnkaa
