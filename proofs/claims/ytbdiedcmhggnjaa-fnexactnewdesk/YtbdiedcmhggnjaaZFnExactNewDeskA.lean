/- For every shape the program's NewDesk answers as the specification's does, writes into nothing that it is handed, and its answer is memory of its own: the law FnExactNewDesk returns true at every input, and changes nothing that was there. No condition. -/
import Derived.Test.YtbdiedcmhggnjaaCells
import Derived.Test.YtbdiedcmhggnjaaWName
import Derived.Test.YtbdiedcmhggnjaaWRowF
import Derived.Test.YtbdiedcmhggnjaaWShape
import Derived.Test.YtbdiedcmhggnjaaProg
import Derived.Test.YtbdiedcmhggnjaaBits
import Derived.WalkLawsBesides
import Derived.Test.YtbdiedcmhggnjaaColDefs
import Derived.Test.YtbdiedcmhggnjaaWColA
import Derived.Test.YtbdiedcmhggnjaaWInts
import Derived.Lib.QuietBelow
import Derived.Test.YtbdiedcmhggnjaaWRowA
import Derived.Test.YtbdiedcmhggnjaaWNearB
import Derived.Test.YtbdiedcmhggnjaaLay4
import Derived.Test.YtbdiedcmhggnjaaLay5
import Derived.Test.YtbdiedcmhggnjaaLay7
import Derived.Test.YtbdiedcmhggnjaaRows
import Derived.Test.YtbdiedcmhggnjaaOpensD
namespace Go.Proofs.Ytbdiedcmhggnjaa
open Go.RowKit F256
set_option linter.unusedVariables false

def InP (x a b : Int) : Prop := a ≤ x ∧ x ≤ b
/-- numbers from 0 to most, no two alike -/
def ApartP (n : Nat) (g : Nat → Int) (most : Int) : Prop := ∀ i, i < n → InP (g i) 0 most ∧ ∀ t, t < i → g t ≠ g i
def ItemP (s : Nat → Int) (r : RecD) : Prop :=
  (r.length = -1 ∧ r.data.1 = 0 ∧ r.rows.1 = 0) ∨
  (r.length ≠ -1 ∧ 1 ≤ r.length ∧ r.length ≤ 3 * (s 2 * 4) ∧
    ((0 < r.data.1 ∧ (r.data.1 : Int) = r.length ∧ r.rows.1 = 0) ∨
     (r.data.1 = 0 ∧ (r.rows.1 : Int) = (r.length + s 2 * 4 - 1) / (s 2 * 4) ∧ ApartP r.rows.1 r.rows.2 (s 4 - 1))))
def MoveP (s : Nat → Int) (r : RecD) : Prop := InP r.group 0 (s 0 - 1) ∧ InP r.row 0 (s 4 - 1) ∧ (r.data.1 : Int) = s 2 * 4 ∧ (r.delta.1 : Int) = s 2 * 4
def DoneP (s : Nat → Int) (r : RecD) : Prop := InP r.group 0 (s 0 + s 1 - 1)
def WeightsP (s : Nat → Int) (r : RecD) : Prop := (r.delta.1 : Int) = s 0 + s 1 ∧ r.delta.2 r.group.toNat = 0 ∧ ∀ i, i < r.rows.1 → r.delta.2 (r.rows.2 i).toNat ≠ 0
def ShareP (s : Nat → Int) (r : RecD) : Prop := InP r.group 0 (s 0 + s 1 - 1) ∧ InP r.row 0 (s 4 - 1) ∧ RiseP r.rows.1 r.rows.2 (s 0 + s 1 - 1) ∧ (r.data.1 : Int) = s 2 * 4 ∧ WeightsP s r
def KindP (s : Nat → Int) (r : RecD) : Prop := (r.kind = 1 ∧ ItemP s r) ∨ (r.kind = 2 ∧ MoveP s r) ∨ (r.kind = 3 ∧ DoneP s r) ∨ (r.kind = 4 ∧ ShareP s r)
def noName (r : RecD) : Prop := r.name = ByteArray.empty ∧ r.length = 0
def BlankP (r : RecD) : Prop :=
  (r.kind = 1 ∧ r.group = 0 ∧ r.row = 0 ∧ r.delta.1 = 0) ∨ (r.kind = 2 ∧ noName r ∧ r.rows.1 = 0) ∨
  (r.kind = 3 ∧ noName r ∧ r.row = 0 ∧ r.rows.1 = 0 ∧ r.data.1 = 0 ∧ r.delta.1 = 0) ∨ (r.kind = 4 ∧ noName r)
def NamedP (r : RecD) : Prop := r.kind = 1 → OkName r.name
/-- codes asked one behind the other: the first that falls is told; behind them all K -/
def Stair : List (Prop × Int) → (Int → Prop) → Int → Prop
  | [], K, x => K x
  | (p, c) :: l, K, x => (¬ p ∧ x = c) ∨ (p ∧ Stair l K x)
theorem Stair.fall {p : Prop} {c : Int} {l : List (Prop × Int)} {K : Int → Prop} (h : ¬ p) : Stair ((p, c) :: l) K c := .inl ⟨h, rfl⟩
theorem Stair.pass {p : Prop} {c : Int} {l : List (Prop × Int)} {K : Int → Prop} {x : Int} (h : p) (k : Stair l K x) : Stair ((p, c) :: l) K x := .inr ⟨h, k⟩
theorem Stair.last {K : Int → Prop} {x : Int} (h : K x) : Stair [] K x := h
theorem Stair.one {K : Int → Prop} (hK : ∀ x y, K x → K y → x = y) : ∀ (l : List (Prop × Int)) {x y : Int}, Stair l K x → Stair l K y → x = y
  | [], x, y, h, k => hK x y h k
  | (p, c) :: l, x, y, h, k => by
    rcases h with ⟨h1, h2⟩ | ⟨h1, h2⟩ <;> rcases k with ⟨k1, k2⟩ | ⟨k1, k2⟩
    · rw [h2, k2]
    · exact absurd k1 h1
    · exact absurd h1 k1
    · exact Stair.one hK l h2 k2
def isZ (x : Int) : Prop := x = 0
theorem isZ_one (x y : Int) (h : isZ x) (k : isZ y) : x = y := by rw [show x = 0 from h, show y = 0 from k]
/-- what RecFault tells -/
def RecAns (s : Nat → Int) (r : RecD) (x : Int) : Prop :=
  Stair [(OkShape s, 3), (InP r.kind 1 4, 5), (InP r.seq 1 1000000000, 3), (NamedP r, 5), (KindP s r, 3), (BlankP r, 1)] isZ x
theorem RecAns.one {s : Nat → Int} {r : RecD} {x y : Int} (h : RecAns s r x) (k : RecAns s r y) : x = y := Stair.one isZ_one _ h k

/-- groups, drives and blocks as the shape has them -/
def BlockP (b : BlockD) : Prop := InP b.stamp 0 1000000000 ∧ b.bytes.1 = 4
def BlocksP (s : Nat → Int) (p : Nat × (Nat → BlockD)) : Prop := (p.1 : Int) = s 4 ∧ ∀ i, i < p.1 → BlockP (p.2 i)
def DrivesP (s : Nat → Int) (p : Nat × (Nat → DriveD)) : Prop := (p.1 : Int) = s 2 + s 3 ∧ ∀ i, i < p.1 → BlocksP s (p.2 i).blocks
def BuiltP (d : WorldD) : Prop := (d.groups.1 : Int) = d.shape 0 + d.shape 1 ∧ ∀ i, i < d.groups.1 → DrivesP d.shape (d.groups.2 i)
def OnP (d : WorldD) : Prop := ApartP d.on.1 d.on.2 (d.shape 0 + d.shape 1 - 1) ∧ (d.on.1 : Int) ≤ d.shape 5 ∧ (d.down = true → d.on.1 = 0)
def FormP (d : WorldD) : Prop := BuiltP d ∧ OnP d ∧ d.tapes.1 = 2
def FewP (d : WorldD) : Prop := ∀ t, t < d.tapes.1 → (d.tapes.2 t).recs.1 ≤ 200
/-- the first record that has a fault -/
def RecsAns (s : Nat → Int) (n : Nat) (x : Nat → TapeD) (c : Int) : Prop :=
  (c = 0 ∧ ∀ t, t < n → ∀ i, i < (x t).recs.1 → RecAns s ((x t).recs.2 i) 0) ∨
  (c ≠ 0 ∧ ∃ t i, t < n ∧ i < (x t).recs.1 ∧ RecAns s ((x t).recs.2 i) c ∧ (∀ k, k < i → RecAns s ((x t).recs.2 k) 0) ∧ ∀ u, u < t → ∀ k, k < (x u).recs.1 → RecAns s ((x u).recs.2 k) 0)
theorem RecsAns.one {s : Nat → Int} {n : Nat} {x : Nat → TapeD} {c e : Int} (h : RecsAns s n x c) (k : RecsAns s n x e) : c = e := by
  rcases h with ⟨rfl, h⟩ | ⟨hc, t, i, ht, hi, hr, hb, hu⟩ <;> rcases k with ⟨rfl, k⟩ | ⟨kc, t', i', kt, ki, kr, kb, ku⟩
  · rfl
  · exact absurd (kr.one (h t' kt i' ki)) kc
  · exact absurd (hr.one (k t ht i hi)) hc
  · rcases Nat.lt_trichotomy t t' with c1 | c1 | c1
    · exact absurd (hr.one (ku t c1 i hi)) hc
    · subst c1
      rcases Nat.lt_trichotomy i i' with c2 | c2 | c2
      · exact absurd (hr.one (kb i c2)) hc
      · subst c2; exact hr.one kr
      · exact absurd (kr.one (hb i' c2)) kc
    · exact absurd (kr.one (hu t' c1 i' ki)) kc
def CleanP (d : WorldD) : Prop := ∀ t, t < d.tapes.1 → (d.tapes.2 t).wiped = true → (d.tapes.2 t).recs.1 = 0
def CountP (d : WorldD) : Prop := InP d.writes 0 1000000000 ∧ InP d.stop (-1) 1000000000
/-- what WorldFault tells -/
def WldAns (d : WorldD) (x : Int) : Prop :=
  Stair [(OkShape d.shape, 3), (FormP d, 1), (FewP d, 2)] (fun x => (x ≠ 0 ∧ RecsAns d.shape d.tapes.1 d.tapes.2 x) ∨ (RecsAns d.shape d.tapes.1 d.tapes.2 0 ∧ Stair [(CleanP d, 1), (CountP d, 3)] isZ x)) x
theorem WldAns.one {d : WorldD} {x y : Int} (h : WldAns d x) (k : WldAns d y) : x = y := by
  refine Stair.one (fun x y h k => ?_) _ h k
  rcases h with ⟨h1, h2⟩ | ⟨h1, h2⟩ <;> rcases k with ⟨k1, k2⟩ | ⟨k1, k2⟩
  · exact h2.one k2
  · exact absurd (h2.one k1) h1
  · exact absurd (k2.one h1) k1
  · exact Stair.one isZ_one _ h2 k2
/-- a world without a fault -/
structure OkWorld (d : WorldD) : Prop where
  shape : OkShape d.shape
  form : FormP d
  few : FewP d
  recs : ∀ t, t < d.tapes.1 → ∀ i, i < (d.tapes.2 t).recs.1 → RecAns d.shape ((d.tapes.2 t).recs.2 i) 0
  clean : CleanP d
  count : CountP d
theorem WldAns.ok {d : WorldD} (h : WldAns d 0) : OkWorld d := by
  rcases h with ⟨_, h⟩ | ⟨h1, h⟩
  · omega
  rcases h with ⟨_, h⟩ | ⟨h2, h⟩
  · omega
  rcases h with ⟨_, h⟩ | ⟨h3, h⟩
  · omega
  rcases h with ⟨h, _⟩ | ⟨h4, h⟩
  · exact absurd rfl h
  rcases h with ⟨_, h⟩ | ⟨h5, h⟩
  · omega
  rcases h with ⟨_, h⟩ | ⟨h6, h⟩
  · omega
  rcases h4 with ⟨_, h4⟩ | ⟨h4, _⟩
  · exact ⟨h1, h2, h3, h4, h5, h6⟩
  · exact absurd rfl h4
theorem exB (P : Prop) : ∃ b : Bool, b = true ↔ P := by
  by_cases h : P
  · exact ⟨true, by simp [h]⟩
  · exact ⟨false, by simp [h]⟩
end Go.Proofs.Ytbdiedcmhggnjaa

namespace Go.Proofs.Ytbdiedcmhggnjaa
open Go.RowKit F256

/-- a result with a number in it -/
def intR (code value : Int) : Value := .agg #[.int .i64 code, .int .i64 value]

end Go.Proofs.Ytbdiedcmhggnjaa

namespace Go.Proofs.Ytbdiedcmhggnjaa
open Go.RowKit F256
set_option linter.unusedVariables false
set_option linter.unusedSimpArgs false

end Go.Proofs.Ytbdiedcmhggnjaa

namespace Go.Proofs.Ytbdiedcmhggnjaa
open Go.RowKit F256
set_option linter.unusedVariables false

theorem q_below {f : Nat} {args : Array Value} {W : World} {v : Value} (h : ∀ w', Below W.heap.size W w' → Calls Try.prog f args w' fun e w'' => e = .returned v ∧ Below w'.heap.size w' w'') :
    ∀ d os, Calls Try.prog f args (Go.Sort.grow (redrawn W d) os) fun e w'' => e = .returned v ∧ ∃ p : Regrown, w'' = Go.Sort.grow (redrawn W p.d) p.os := fun d os => Calls.regrown_of (h _ (below_regrown W d os))
theorem q_same {f : Nat} {args : Array Value} {W : World} {v : Value} (h : ∀ w', Calls Try.prog f args w' fun e w'' => e = .returned v ∧ w'' = w') :
    ∀ d os, Calls Try.prog f args (Go.Sort.grow (redrawn W d) os) fun e w'' => e = .returned v ∧ ∃ p : Regrown, w'' = Go.Sort.grow (redrawn W p.d) p.os :=
  q_below fun w' _ => (h w').mono fun e w'' ⟨h1, h2⟩ => ⟨h1, by rw [h2]; exact Below.refl _ _⟩
theorem det_b {f : Nat} {args : Array Value} {w : World} {P : Prop} {b : Bool} (h : Calls Try.prog f args w (BoolP P w)) (hb : b = true ↔ P) : Calls Try.prog f args w fun e w' => e = .returned (.bool b) ∧ Below w.heap.size w w' :=
  h.mono fun e w' ⟨b', h1, h2, h3⟩ => ⟨by rw [h1]; congr 2; cases b <;> cases b' <;> simp_all, h3⟩
/-- l1In, told by a bool -/
theorem l1In_b {v a b : Int} {t : Bool} (ht : t = true ↔ InP v a b) (w : World) :
    Calls Try.prog 16 #[.int .i64 v, .int .i64 a, .int .i64 b] w fun e w' => e = .returned (.bool t) ∧ w' = w := by
  cases t with
  | true => exact l1In_yes v a b (ht.1 rfl).1 (ht.1 rfl).2 w
  | false =>
    have : ¬ InP v a b := fun h => by have := ht.2 h; cases this
    exact l1In_no v a b (by unfold InP at this; omega) w
theorem below_rg {W w' : World} (h : ∃ p : Regrown, w' = Go.Sort.grow (redrawn W p.d) p.os) : Below W.heap.size W w' := by
  obtain ⟨p, rfl⟩ := h
  exact below_regrown W p.d p.os
/-- the walk in the text's order, behind a wall (what is behind it is not looked into) -/
structure WQ (P : Program) (ops : Array Oper) (C : World → Prop) (Q : Act → Prop) (l : List Oper) (a : Act) : Prop where
  out : wpQuiet P ops C Q l a
theorem WQ.skip {P : Program} {ops : Array Oper} {C : World → Prop} {Q : Act → Prop} {a : Act} {o : Oper} {rest : List Oper} (hw : Region.wanted o (yielded ops a.tmps) = false)
    (h : ∀ K : Act → Prop, (∀ a, WQ P ops C Q rest a → K a) → K (a.put o.dst undef)) : WQ P ops C Q (o :: rest) a := by
  refine ⟨?_⟩
  unfold wpQuiet
  rw [if_neg (by rw [hw]; decide)]
  exact (h _ (fun _ h => h)).out
theorem WQ.want {P : Program} {ops : Array Oper} {C : World → Prop} {Q : Act → Prop} {a : Act} {o : Oper} {rest : List Oper} (hw : Region.wanted o (yielded ops a.tmps) = true)
    (h : ∀ K : Act → Prop, (∀ a, WQ P ops C Q rest a → K a) → o.quiet P a C K) : WQ P ops C Q (o :: rest) a := by
  refine ⟨?_⟩
  unfold wpQuiet
  rw [if_pos hw]
  exact Oper.quiet_mono (fun a h => h.out) (h _ (fun _ h => h))
theorem WQ.nil {P : Program} {ops : Array Oper} {C : World → Prop} {Q : Act → Prop} {a : Act} (h : Q a) : WQ P ops C Q [] a := ⟨wpQuiet_nil h⟩
theorem WQ.region {P : Program} {id : Nat} {Q : Exit → Act → World → Prop} {a : Act} {w : World} {l : List Oper} (hm : P.follows .mixedOrders = true) (hB : Region.lexB .any l.toArray = true)
    (h : WQ P l.toArray (fun w' => ∃ p : Regrown, w' = Go.Sort.grow (redrawn w p.d) p.os) (fun a' => ∀ w', (∃ p : Regrown, w' = Go.Sort.grow (redrawn w p.d) p.os) → Q .normal a' w') l a) : (Code.region id l.toArray true).wp P Q a w := wp_region_quiet_below hm hB h.out
end Go.Proofs.Ytbdiedcmhggnjaa

namespace Go.Proofs.Ytbdiedcmhggnjaa
open Go.RowKit F256
set_option linter.unusedVariables false
set_option linter.unusedSimpArgs false

/-- the sum of a name's first bytes -/
def nameSum (b : ByteArray) : Nat → Nat
  | 0 => 0
  | k + 1 => nameSum b k + nameByte b k
theorem nameSum_lt (b : ByteArray) (k : Nat) : nameSum b k ≤ 255 * k := by
  induction k with
  | zero => exact Nat.le_refl _
  | succ k ih => have := nameByte_lt b k; simp only [nameSum]; omega

set_option maxHeartbeats 4000000 in
theorem specHome_in (s : Nat → Int) (b : ByteArray) (hb : b.size ≤ 8) (hg : 1 ≤ s 0) (hg2 : s 0 ≤ 1000) (w : World) :
    Calls Try.prog 18 #[shapeV s, .string b] w fun e w' => e = .returned (.int .i64 ((nameSum b b.size : Int) % s 0)) ∧ Below w.heap.size w w' := by
  unfold shapeV
  obtain ⟨a0, h0⟩ : ∃ a, a = s 0 := ⟨_, rfl⟩
  rw [← h0] at hg hg2 ⊢
  clear h0
  go_enter Try.func18, Try.ntmps18
  go_wp2
  have B0 : Below w.heap.size w (w.alloc (.cells #[.int .i64 a0, .int .i64 (s 1), .int .i64 (s 2), .int .i64 (s 3), .int .i64 (s 4), .int .i64 (s 5), .int .i64 (s 6), .int .i64 (s 7), .int .i64 (s 8)] 28)) := bnew (Below.refl _ _)
  go_loop [5, 6] (fun n i => ∃ k : Nat, k ≤ b.size ∧ n = .int .i64 (nameSum b k : Int) ∧ i = .int .i64 k) (fun n i => b.size - (intOf i).toNat)
  case atStart => exact ⟨0, Nat.zero_le _, rfl, rfl⟩
  case round =>
    obtain ⟨k, hk, rfl, rfl⟩ := hrel
    have hs1 := nameSum_lt b k
    by_cases hlt : k < b.size
    · have hik := index_name b k hlt
      have hz0 := nameByte_lt b k
      have HS : Hid (nameSum b (k + 1) = nameSum b k + nameByte b k) := rfl
      obtain ⟨z, hz⟩ : ∃ z, z = nameByte b k := ⟨_, rfl⟩
      rw [← hz] at hik HS hz0
      clear hz
      obtain ⟨m, hm⟩ : ∃ m, m = nameSum b k := ⟨_, rfl⟩
      rw [← hm] at hs1 HS ⊢
      clear hm
      go_wp2
      go_round
      case rel => exact ⟨k + 1, by omega, by rw [HS.out]; go_num, by go_num⟩
      case measure => simp [intOf]; omega
    · obtain rfl : k = b.size := by omega
      obtain ⟨m, hm⟩ : ∃ m, m = nameSum b b.size := ⟨_, rfl⟩
      rw [← hm] at hs1 ⊢
      have HM : Hid (m = nameSum b b.size) := hm
      clear hm
      go_wp2
      go_ret
      exact ⟨by rw [← HM.out]; rfl, B0⟩

/-- what HomeOf answers -/
def HoAns (s : Nat → Int) (b : ByteArray) (x c : Int) : Prop :=
  (¬ OkShape s ∧ c = 3 ∧ x = 0) ∨ (OkShape s ∧ ¬ OkName b ∧ c = 5 ∧ x = 0) ∨ (OkShape s ∧ OkName b ∧ c = 0 ∧ x = (nameSum b b.size : Int) % s 0)
theorem HoAns.one {s : Nat → Int} {b : ByteArray} {x c y d : Int} (h : HoAns s b x c) (k : HoAns s b y d) : x = y ∧ c = d := by
  rcases h with ⟨h1, rfl, rfl⟩ | ⟨h1, h2, rfl, rfl⟩ | ⟨h1, h2, rfl, rfl⟩ <;> rcases k with ⟨k1, rfl, rfl⟩ | ⟨k1, k2, rfl, rfl⟩ | ⟨k1, k2, rfl, rfl⟩ <;>
    first | exact ⟨rfl, rfl⟩ | exact absurd h1 k1 | exact absurd k1 h1 | exact absurd h2 k2 | exact absurd k2 h2

theorem two_new {w w1 : World} {cs ds : Array Value} {t u : TypeId} (h : Below ((w.alloc (.cells cs t)).alloc (.cells ds u)).heap.size ((w.alloc (.cells cs t)).alloc (.cells ds u)) w1) :
    Box w1 w.heap.size cs t ∧ Box w1 (w.heap.size + 1) ds u ∧ Below w.heap.size w w1 ∧ w.heap.size + 1 < w1.heap.size := by
  have h2 := bnew h
  have e : (w.alloc (.cells cs t)).heap.size = w.heap.size + 1 := by simp
  have k2 := box_new (w.alloc (.cells cs t)) ds u
  rw [e] at k2
  have z := bsize h
  rw [e] at z
  exact ⟨(box_new w cs t).below h2 (by simp), k2.below h (by simp), bnew h2, z⟩

end Go.Proofs.Ytbdiedcmhggnjaa

namespace Go.Proofs.Ytbdiedcmhggnjaa
open Go.RowKit F256
set_option linter.unusedVariables false
set_option linter.unusedSimpArgs false

theorem box_new9 {w w1 : World} {cs : Array Value} {t : TypeId} (h : Below (w.alloc (.cells cs t)).heap.size (w.alloc (.cells cs t)) w1) :
    Box w1 w.heap.size cs t ∧ Below w.heap.size w w1 ∧ w.heap.size < w1.heap.size :=
  ⟨(box_new w cs t).below h (by simp), bnew h, bsize h⟩

theorem keep9 {B : Nat} {w W w2 : World} {cs : Array Value} {t : TypeId} (hX : Box W B cs t) (hB : Below B w W) (hb : Below W.heap.size W w2) : Box w2 B cs t ∧ Below B w w2 :=
  ⟨hX.below hb hX.lt, hB.trans (hb.mono (Nat.le_of_lt hX.lt))⟩

/-- what PartsFor answers -/
def PfAns (s : Nat → Int) (l x c : Int) : Prop :=
  (¬ OkShape s ∧ c = 3 ∧ x = 0) ∨ (OkShape s ∧ l < 1 ∧ c = 6 ∧ x = 0) ∨ (OkShape s ∧ 1 ≤ l ∧ 3 * (s 2 * 4) < l ∧ c = 2 ∧ x = 0) ∨ (OkShape s ∧ 1 ≤ l ∧ l ≤ 3 * (s 2 * 4) ∧ c = 0 ∧ x = (l + s 2 * 4 - 1) / (s 2 * 4))
theorem PfAns.one {s : Nat → Int} {l x c y d : Int} (h : PfAns s l x c) (k : PfAns s l y d) : x = y ∧ c = d := by
  rcases h with ⟨h1, rfl, rfl⟩ | ⟨h1, h2, rfl, rfl⟩ | ⟨h1, h2, h3, rfl, rfl⟩ | ⟨h1, h2, h3, rfl, rfl⟩ <;> rcases k with ⟨k1, rfl, rfl⟩ | ⟨k1, k2, rfl, rfl⟩ | ⟨k1, k2, k3, rfl, rfl⟩ | ⟨k1, k2, k3, rfl, rfl⟩ <;>
    first | exact ⟨rfl, rfl⟩ | exact absurd h1 k1 | exact absurd k1 h1 | (exfalso; omega)

end Go.Proofs.Ytbdiedcmhggnjaa

namespace Go.Proofs.Ytbdiedcmhggnjaa
open Go.RowKit F256
set_option linter.unusedVariables false
set_option linter.unusedSimpArgs false

theorem RdI.part {w : World} {hi : Nat} {b off n cap k : Nat} {g : Nat → Int} (r : RdI w hi (.slice (some ⟨b, off, none⟩) n cap) n g) (h : k ≤ n) (h0 : n ≠ 0) : RdI w hi (.slice (some ⟨b, off, none⟩) k cap) k g := by
  obtain ⟨ao, cap', e, hm, hc⟩ := r
  cases e
  obtain ⟨b', off', e, h1, h2⟩ := hc h0
  cases e
  exact ⟨_, _, rfl, by omega, fun _ => ⟨b, off, rfl, h1, fun i hi => h2 i (by omega)⟩⟩
theorem RdI.mx {w : World} {hi : Nat} {v : Value} {n : Nat} {g : Nat → Int} (r : RdI w hi v n g) : n ≤ maxLen := by
  obtain ⟨ao, cap', e, hm, hc⟩ := r
  exact hm

/-- a record's value -/
def recC (r : RecD) (v6 v7 v8 : Value) : Array Value := #[.int .i64 r.kind, .int .i64 r.seq, .string r.name, .int .i64 r.length, .int .i64 r.group, .int .i64 r.row, v6, v7, v8]
theorem rec_val {w : World} {hi : Nat} {r : RecD} {cs : List Value} (h : layRec.rd w hi r cs) : ∃ ao6 cap6 ao7 cap7 ao8 cap8, cs.toArray = recC r (.slice ao6 r.rows.1 cap6) (.slice ao7 r.data.1 cap7) (.slice ao8 r.delta.1 cap8) := by
  obtain ⟨ao6, cap6, ao7, cap7, ao8, cap8, rfl, _⟩ := Rec_rd h
  exact ⟨ao6, cap6, ao7, cap7, ao8, cap8, rfl⟩
theorem nm_iff (b : ByteArray) : b.toList.isEmpty = true ↔ b = ByteArray.empty := by
  have e : b.toList = b.data.toList := ByteArray.toList_eq b
  rw [e]
  cases b with | mk x =>
  constructor
  · intro h
    have : x = #[] := by simpa using h
    subst this
    rfl
  · intro h
    have : x = #[] := congrArg ByteArray.data h
    subst this
    rfl
/-- nothing is in these fields -/
def EmptyQ (nm : ByteArray) (ln gr rw_ : Int) (n6 n7 n8 : Nat) : Prop := nm = ByteArray.empty ∧ ln = 0 ∧ gr = 0 ∧ rw_ = 0 ∧ n6 = 0 ∧ n7 = 0 ∧ n8 = 0
end Go.Proofs.Ytbdiedcmhggnjaa

namespace Go.Proofs.Ytbdiedcmhggnjaa
open Go.RowKit F256
set_option linter.unusedVariables false
set_option linter.unusedSimpArgs false

theorem l5All_any (s : Nat → Int) (h : OkShape s) (w : World) :
    Calls Try.prog 19 #[shapeV s] w fun e w' => e = .returned (.int .i64 (s 0 + s 1)) ∧ Below w.heap.size w w' := by
  obtain ⟨h1, h2, _⟩ := h
  unfold Shp3 at h1
  have B0 := (one_new w #[.int .i64 (s 0), .int .i64 (s 1), .int .i64 (s 2), .int .i64 (s 3), .int .i64 (s 4), .int .i64 (s 5), .int .i64 (s 6), .int .i64 (s 7), .int .i64 (s 8)] 28).bel
  unfold shapeV
  have hw : -9223372036854775808 ≤ s 0 + s 1 ∧ s 0 + s 1 ≤ 9223372036854775807 := by omega
  go_enter Try.func19, Try.ntmps19
  go_wp2
  go_ret
  exact ⟨rfl, B0⟩
end Go.Proofs.Ytbdiedcmhggnjaa

namespace Go.Proofs.Ytbdiedcmhggnjaa
open Go.RowKit F256
set_option linter.unusedVariables false
set_option linter.unusedSimpArgs false

end Go.Proofs.Ytbdiedcmhggnjaa

namespace Go.Proofs.Ytbdiedcmhggnjaa
open Go.RowKit F256
set_option linter.unusedVariables false
set_option linter.unusedSimpArgs false

end Go.Proofs.Ytbdiedcmhggnjaa

namespace Go.Proofs.Ytbdiedcmhggnjaa
open Go.RowKit F256
set_option linter.unusedVariables false
set_option linter.unusedSimpArgs false

theorem inBounds_b {x a b : Int} {t : Bool} (hab : a ≤ b) (ht : t = true ↔ InP x a b) (w : World) :
    Calls Try.prog 21 #[.int .i64 x, .int .i64 a, .int .i64 b] w fun e w' => e = .returned (.bool t) ∧ w' = w := by
  by_cases h1 : a ≤ x
  · by_cases h2 : x ≤ b
    · obtain rfl : t = true := ht.2 ⟨h1, h2⟩
      clear ht hab
      go_enter Try.func21, Try.ntmps21
      go_wp2
      go_ret
      exact ⟨rfl, rfl⟩
    · obtain rfl : t = false := by
        cases t with
        | false => rfl
        | true => exact absurd (ht.1 rfl).2 h2
      clear ht hab
      have hd : decide (x ≤ b) = false := decide_eq_false h2
      go_enter Try.func21, Try.ntmps21
      go_wp2
      go_ret
      exact ⟨rfl, rfl⟩
  · obtain rfl : t = false := by
      cases t with
      | false => rfl
      | true => exact absurd (ht.1 rfl).1 h1
    clear ht hab
    have hd : decide (a ≤ x) = false := decide_eq_false h1
    go_enter Try.func21, Try.ntmps21
    go_wp2
    go_ret
    exact ⟨rfl, rfl⟩
theorem groupCount_any (s : Nat → Int) (h : OkShape s) (w : World) :
    Calls Try.prog 24 #[shapeV s] w fun e w' => e = .returned (.int .i64 (s 0 + s 1)) ∧ Below w.heap.size w w' := by
  obtain ⟨h1, h2, _⟩ := h
  unfold Shp3 at h1
  have B0 := (one_new w #[.int .i64 (s 0), .int .i64 (s 1), .int .i64 (s 2), .int .i64 (s 3), .int .i64 (s 4), .int .i64 (s 5), .int .i64 (s 6), .int .i64 (s 7), .int .i64 (s 8)] 28).bel
  unfold shapeV
  have hw : -9223372036854775808 ≤ s 0 + s 1 ∧ s 0 + s 1 ≤ 9223372036854775807 := by omega
  go_enter Try.func24, Try.ntmps24
  go_wp2
  go_ret
  exact ⟨rfl, B0⟩
theorem okB {s : Nat → Int} (h : OkShape s) : 1 ≤ s 0 ∧ s 0 ≤ 4 ∧ 0 ≤ s 1 ∧ s 1 ≤ 2 ∧ 1 ≤ s 2 ∧ s 2 ≤ 3 ∧ 0 ≤ s 3 ∧ s 3 ≤ 2 ∧ 1 ≤ s 4 ∧ s 4 ≤ 6 ∧ 1 ≤ s 5 ∧ s 5 ≤ 6 := by
  obtain ⟨h1, h2, h3, h4, _⟩ := h
  unfold Shp3 at h1
  unfold Shp at h2
  omega
theorem isGroup_b {s : Nat → Int} (h : OkShape s) {x : Int} {t : Bool} (ht : t = true ↔ InP x 0 (s 0 + s 1 - 1)) (w : World) :
    Calls Try.prog 32 #[shapeV s, .int .i64 x] w fun e w' => e = .returned (.bool t) ∧ Below w.heap.size w w' := by
  have hb := okB h
  have C := groupCount_any s h
  have CB := fun w' => inBounds_b (w := w') (show 0 ≤ s 0 + s 1 - 1 by omega) ht
  have T0 := one_new w #[.int .i64 (s 0), .int .i64 (s 1), .int .i64 (s 2), .int .i64 (s 3), .int .i64 (s 4), .int .i64 (s 5), .int .i64 (s 6), .int .i64 (s 7), .int .i64 (s 8)] 28
  unfold shapeV at C ⊢
  clear ht h
  go_enter Try.func32, Try.ntmps32
  go_wp2_with fail
  refine (C _).mono ?_
  rintro e w1 ⟨rfl, b1⟩
  have HB : Hid (Below w.heap.size w w1) := (T0.call b1).bel
  clear b1 T0 C
  go_wp2_with fail
  refine (CB _).mono ?_
  rintro e w2 ⟨rfl, hw2⟩
  obtain rfl := hw2.symm
  go_wp2
  go_ret
  exact ⟨rfl, HB.out⟩
end Go.Proofs.Ytbdiedcmhggnjaa

namespace Go.Proofs.Ytbdiedcmhggnjaa
open Go.RowKit F256
set_option linter.unusedVariables false

/-- what is known of an element's type -/
structure ElInfo {α : Type} (E : Lay α) (T e : TypeId) (by_ : Nat) (zs : List Value) : Prop where
  hs : 0 < E.sz
  hzs : zs.length = E.sz
  hu : Try.prog.underlying T = some (.slice e)
  hi : (Try.prog.info? e).map (fun i => (i.zero.map (·.cells), i.size, i.bytes)) = some (some zs.toArray, E.sz, by_)
  few : by_ ≤ 1000
/-- gathered: n elements x in blocks from lo on -/
def Gat {α : Type} (E : Lay α) (t : TypeId) (w : World) (lo : Nat) (v : Value) (n : Nat) (x : Nat → α) : Prop := ∃ ce Ls, SlG E t w lo v n x ce Ls
section
variable {α : Type} {E : Lay α} {t : TypeId} {w w' : World} {lo n : Nat} {v : Value} {x : Nat → α}
theorem Gat.nil (x : Nat → α) (w : World) (lo : Nat) : Gat E t w lo (.slice none 0 0) 0 x := ⟨_, _, SlG.nil x w lo⟩
theorem Gat.form (h : Gat E t w lo v n x) : ∃ ao cap, v = .slice ao n cap := by
  obtain ⟨ce, Ls, h⟩ := h
  rcases h.row.2 with ⟨hv, hn⟩ | ⟨g, cap, cur, rfl, _⟩
  · exact ⟨none, 0, by rw [hv, hn]⟩
  · exact ⟨_, _, rfl⟩
theorem Gat.below (h : Gat E t w lo v n x) (hb : Below w.heap.size w w') : Gat E t w' lo v n x := by
  obtain ⟨ce, Ls, h⟩ := h
  exact ⟨ce, Ls, h.below hb⟩
theorem Gat.own (h : Gat E t w lo v n x) : OwnT (E.slice t) w lo w.heap.size (n, x) [v] := by
  obtain ⟨ce, Ls, h⟩ := h
  exact h.own
theorem Gat.congr {y : Nat → α} (h : Gat E t w lo v n x) (hy : ∀ i, i < n → x i = y i) : Gat E t w lo v n y := by
  obtain ⟨ce, Ls, h⟩ := h
  exact ⟨ce, Ls, h.row, fun i hi => by rw [← hy i hi]; exact h.each i hi, h.nd, h.low⟩
theorem SlG.mem_low {ce : Nat → List Value} {Ls : Nat → List Nat} (h : SlG E t w lo v n x ce Ls) : ∀ b, b ∈ v.ownBlock.toList ++ catN n Ls → lo ≤ b := fun b hb => by
  rcases List.mem_append.1 hb with h1 | h1
  · exact (h.row.lt b (by simpa using h1)).1
  · exact h.low b h1
/-- a store ahead of what is gathered -/
theorem Gat.set (h : Gat E t w lo v n x) (b j : Nat) (u : Value) (hb : b < lo) : Gat E t (w.setCell ⟨b, j, none⟩ u) lo v n x := by
  obtain ⟨ce, Ls, h⟩ := h
  exact ⟨ce, Ls, h.kept (fun k hk => heap_setCell_other w ⟨b, j, none⟩ k u (by have := h.mem_low k hk; show k ≠ b; omega))⟩
theorem Gat.weaken {lo' : Nat} (h : Gat E t w lo v n x) (hl : lo' ≤ lo) : Gat E t w lo' v n x := by
  obtain ⟨ce, Ls, h⟩ := h
  refine ⟨ce, Ls, ⟨h.row.1, ?_⟩, h.each, h.nd, fun b hb => Nat.le_trans hl (h.low b hb)⟩
  rcases h.row.2 with hn | ⟨g, cap, cur, rfl, hbg, rest⟩
  · exact .inl hn
  · exact .inr ⟨g, cap, cur, rfl, by omega, rest⟩
/-- []E{} -/
theorem gat_lit0 (x : Nat → α) (w : World) : Gat E t (w.alloc (.cells #[] t)) w.heap.size (.slice (some ⟨w.heap.size, 0, none⟩) 0 0) 0 x := by
  have h := World.ownsRow_lit (base := w.heap.size) (e := t) (size := E.sz) w #[] 0 (Nat.le_refl _) (Nat.zero_le _) (by simp)
  exact ⟨fun _ => [], fun _ => [], by simpa [catN_zero] using h, fun i hi => by omega, by simp [Value.ownBlock, catN_zero], fun b hb => by rw [catN_zero] at hb; cases hb⟩
end
theorem cells_new (w : World) (cs : List Value) (t : TypeId) (j : Nat) : (w.alloc (.cells cs.toArray t)).cell? ⟨w.heap.size, j, none⟩ = cs[j]? := by
  simp
/-- append(v, a), a made behind what is gathered and laid into a block of its own -/
theorem run_appendN {α : Type} {E : Lay α} {T e : TypeId} {by_ : Nat} {zs : List Value} (I : ElInfo E T e by_ zs) (ty : TypeId) {w1 w2 W : World} {lo n : Nat} {v : Value} {x : Nat → α} (hG : Gat E e w1 lo v n x)
    (hb : Below w1.heap.size w1 w2) {d : α} {cs : List Value} (ha : OwnT E w2 w1.heap.size w2.heap.size d cs) (hW : Below w2.heap.size w2 W) (b c : Nat) (hcell : ∀ j, j < E.sz → W.cell? ⟨b, j, none⟩ = cs[j]?) (hlo : lo ≤ w1.heap.size) (hn : n ≤ 10000000) :
    ∃ v' w', (Builtin.append_ #[T, T] ty #[v, .slice (some ⟨b, 0, none⟩) 1 c]).run Try.prog W = .ok v' w' ∧ Gat E e w' lo v' (n + 1) (upd x n d) ∧ Below lo w1 w' := by
  obtain ⟨hs, hzs, hu, hi, few⟩ := I
  obtain ⟨i0, hi0⟩ : ∃ i0, Try.prog.info? e = some i0 := by
    cases h : Try.prog.info? e with
    | none => rw [h] at hi; cases hi
    | some i0 => exact ⟨i0, rfl⟩
  rw [hi0] at hi
  simp only [Option.map_some, Option.some.injEq, Prod.mk.injEq] at hi
  obtain ⟨h1, h2, h3⟩ := hi
  obtain ⟨z, hz, hzc⟩ : ∃ z, i0.zero = some z ∧ z.cells = zs.toArray := by
    cases h : i0.zero with
    | none => rw [h] at h1; cases h1
    | some z => rw [h] at h1; exact ⟨z, rfl, by simpa using h1⟩
  obtain ⟨ce, Ls, hG1⟩ := hG
  have hbW : Below w1.heap.size w1 W := hb.trans (hW.mono hb.size)
  have hG2 : SlG E e W lo v n x ce Ls := hG1.below hbW
  obtain ⟨K, a1, a2, a3⟩ := ha
  have ha' : E.own W d cs K := E.own_kept a1 (fun k hk => hW.block k (E.own_lt a1 k hk))
  have hcs := E.own_len a1
  obtain ⟨v', w', hr, r1, r2, r3, r4⟩ := run_append_own_at (P := Try.prog) W lo T ty e i0 z E.sz by_ hu hi0 hz h2 h3 (by rw [hzc]; simpa using hzs) hs v n (catN n ce) hG2.row ⟨b, 0, none⟩ 1 c cs (by rw [hcs, Nat.one_mul])
    (fun j u hj => by
      have hlt : j < cs.length := (List.getElem?_eq_some_iff.1 hj).1
      have := hcell j (by omega)
      rw [hj] at this
      rw [add_o]
      exact this) (E.own_one ha') (by unfold maxLen; omega) (by
        have : (n + 1) * by_ ≤ 10000001 * 1000 := Nat.mul_le_mul (by omega) few
        omega) (Nat.le_trans hlo hbW.size)
  refine ⟨v', w', hr, ⟨_, _, hG2.grown ha' a2 (fun k hk => ?_) r1 r2 r4⟩, ?_⟩
  · have h5 := (a3 k hk).1
    exact ⟨by omega, fun hh => by have := hG1.mem_lt k hh; omega⟩
  · exact (hbW.mono hlo).grown r2 (Nat.le_trans hlo hbW.size) (fun k hk => (hG2.row.lt k hk).1)
theorem wp_appendN {α : Type} {E : Lay α} {T e : TypeId} {by_ : Nat} {zs : List Value} (I : ElInfo E T e by_ zs) {w1 w2 W : World} {ops : Array Oper} {rest : List Oper} {o : Oper} {a : Act} {Q : Exit → Act → World → Prop}
    (hg : o.guard = none) (s y : Operand) (hop : o.op = Op.call { callee := Callee.builtin Builtin.append, args := #[s, y], argTypes := #[T, T] })
    {lo n : Nat} {v : Value} {x : Nat → α} (hev : a.eval s = v) (hG : Gat E e w1 lo v n x)
    (hb : Below w1.heap.size w1 w2) {d : α} {cs : List Value} (ha : OwnT E w2 w1.heap.size w2.heap.size d cs) (hW : Below w2.heap.size w2 W) (b c : Nat) (hx : a.eval y = .slice (some ⟨b, 0, none⟩) 1 c) (hcell : ∀ j, j < E.sz → W.cell? ⟨b, j, none⟩ = cs[j]?) (hlo : lo ≤ w1.heap.size) (hn : n ≤ 10000000)
    (hK : ∀ v' w', Gat E e w' lo v' (n + 1) (upd x n d) → Below lo w1 w' → wpList Try.prog ops Q rest (a.put o.dst v') w') : wpList Try.prog ops Q (o :: rest) a W := by
  refine wpList_plain hg fun K hK' => ?_
  obtain ⟨v', w', hrun, r1, r2⟩ := run_appendN I o.type hG hb ha hW b c hcell hlo hn
  unfold Oper.wp
  simp [execOp, hop, resolve, invoke, builtin, hev, hx, hrun, Result.andThen]
  exact hK' _ _ (hK v' w' r1 r2)
theorem step_appendN {α : Type} {E : Lay α} {T e : TypeId} {by_ : Nat} {zs : List Value} (I : ElInfo E T e by_ zs) {w1 w2 W : World} {ops : Array Oper} {o : Oper} {a : Act} {K : Act → World → Prop} {Q : Exit → Act → World → Prop} {F : Prop}
    (hg : o.guard = none) (s y : Operand) (hop : o.op = Op.call { callee := Callee.builtin Builtin.append, args := #[s, y], argTypes := #[T, T] })
    {lo n : Nat} {v : Value} {x : Nat → α} (hev : a.eval s = v) (hG : Gat E e w1 lo v n x)
    (hb : Below w1.heap.size w1 w2) {d : α} {cs : List Value} (ha : OwnT E w2 w1.heap.size w2.heap.size d cs) (hW : Below w2.heap.size w2 W) (b c : Nat) (hx : a.eval y = .slice (some ⟨b, 0, none⟩) 1 c) (hcell : ∀ j, j < E.sz → W.cell? ⟨b, j, none⟩ = cs[j]?) (hlo : lo ≤ w1.heap.size) (hn : n ≤ 10000000)
    (hK : ∀ v' w', Gat E e w' lo v' (n + 1) (upd x n d) → Below lo w1 w' → K (a.put o.dst v') w') :
    if Region.wanted o (yielded ops a.tmps) = true then Oper.wp Try.prog o a W K Q else F := by
  have hw : Region.wanted o (yielded ops a.tmps) = true := by simp [Region.wanted, hg]
  rw [if_pos hw]
  obtain ⟨v', w', hrun, r1, r2⟩ := run_appendN I o.type hG hb ha hW b c hcell hlo hn
  unfold Oper.wp
  simp [execOp, hop, resolve, invoke, builtin, hev, hx, hrun, Result.andThen]
  exact hK v' w' r1 r2
end Go.Proofs.Ytbdiedcmhggnjaa

namespace Go.Proofs.Ytbdiedcmhggnjaa
open Go.RowKit F256
set_option linter.unusedVariables false
section
variable {α : Type} {E : Lay α} {t : TypeId} {w w1 : World} {lo g cap n k : Nat} {x : Nat → α} {ce : Nat → List Value} {Ls : Nat → List Nat}
/-- a store into an element that is not laid yet -/
theorem SlP.poke (h : SlP E t w lo g cap n k x ce Ls) {i j : Nat} (hk : k ≤ i) (hi : i < n) (hj : j < E.sz) (u : Value) : SlP E t (w.setCell ⟨g, i * E.sz + j, none⟩ u) lo g cap n k x (upd ce i ((ce i).set j u)) Ls := by
  refine ⟨?_, fun m hm => ?_, fun m hm => ?_, h.nd, h.low⟩
  · have := (h.row.stored (i * E.sz + j) u).1
    rw [catN_set h.lens hi hj] at this
    exact this
  · by_cases c : m = i
    · subst c; rw [upd_at, List.length_set]; exact h.lens m hm
    · rw [upd_ne ce _ c]; exact h.lens m hm
  · rw [upd_ne ce _ (by omega)]
    exact E.own_kept (h.each m hm) (fun b hb => heap_setCell_other w _ b u (fun hh => (List.nodup_cons.1 h.nd).1 (by rw [← show b = g from hh]; exact mem_catN.2 ⟨m, hm, hb⟩)))
/-- the element k is laid now; w1: a world in which the others were there and none of its blocks -/
theorem SlP.count {x1 : Nat → α} {ce1 : Nat → List Value} (h1 : SlP E t w1 lo g cap n k x1 ce1 Ls) (h : SlP E t w lo g cap n k x ce Ls) {a : α} {K : List Nat} (ha : E.own w a (ce k) K) (hnd : K.Nodup) (hK : ∀ b, b ∈ K → w1.heap.size ≤ b) (hlo : lo ≤ w1.heap.size) :
    SlP E t w lo g cap n (k + 1) (upd x k a) ce (upd Ls k K) := by
  have eL : catN (k + 1) (upd Ls k K) = catN k Ls ++ K := by
    rw [catN_succ, upd_at, catN_congr (g := Ls) (fun i hi => upd_ne Ls K (by omega))]
  refine ⟨h.row, h.lens, fun i hi => ?_, ?_, ?_⟩
  · by_cases c : i = k
    · subst c; rw [upd_at, upd_at]; exact ha
    · rw [upd_ne x a c, upd_ne Ls K c]; exact h.each i (by omega)
  · rw [eL]
    refine List.nodup_cons.2 ⟨fun hb => ?_, List.nodup_append.2 ⟨(List.nodup_cons.1 h.nd).2, hnd, fun b hb c hc hh => ?_⟩⟩
    · rcases List.mem_append.1 hb with h3 | h3
      · exact (List.nodup_cons.1 h.nd).1 h3
      · have := hK g h3; have := h1.lt; omega
    · subst hh
      have k1 := h1.mem_lt b hb
      have k2 := hK b hc
      omega
  · rw [eL]
    intro b hb
    rcases List.mem_append.1 hb with h3 | h3
    · exact h.low b h3
    · have := hK b h3; omega
/-- a store into the element k, which lays it -/
theorem SlP.fill (h1 : SlP E t w1 lo g cap n k x ce Ls) (hb : Below w1.heap.size w1 w) (hk : k < n) {j : Nat} (hj : j < E.sz) (u : Value) {a : α} {cs : List Value} (hcs : (ce k).set j u = cs) (ha : OwnT E w w1.heap.size w.heap.size a cs) (hlo : lo ≤ w1.heap.size) :
    ∃ ce' Ls', SlP E t (w.setCell ⟨g, k * E.sz + j, none⟩ u) lo g cap n (k + 1) (upd x k a) ce' Ls' ∧ ∀ i, k < i → ce' i = ce i := by
  subst hcs
  obtain ⟨K, a1, a2, a3⟩ := ha
  have hg := h1.lt
  refine ⟨_, _, h1.count ((h1.below hb).poke (Nat.le_refl k) hk hj u) (K := K) ?_ a2 (fun b hb => (a3 b hb).1) hlo, fun i hi => upd_ne ce _ (by omega)⟩
  rw [upd_at]
  exact E.own_kept a1 (fun b hb => heap_setCell_other w _ b u (fun hh => by have := (a3 b hb).1; have h5 : b = g := hh; omega))
theorem SlP.congr {y : Nat → α} (h : SlP E t w lo g cap n k x ce Ls) (hy : ∀ i, i < k → x i = y i) : SlP E t w lo g cap n k y ce Ls := ⟨h.row, h.lens, fun i hi => by rw [← hy i hi]; exact h.each i hi, h.nd, h.low⟩
/-- all elements zero and without memory -/
theorem SlP.zero {zs : List Value} {a : α} (h : SlP E t w lo g cap n 0 x (fun _ => zs) Ls) (hz : E.own w a zs []) (hg : lo ≤ g) : OwnT (E.slice t) w lo w.heap.size (n, fun _ => a) [.slice (Option.some ⟨g, 0, none⟩) n cap] := by
  have e : ∀ m, catN m (fun _ => ([] : List Nat)) = [] := fun m => by
    induction m with
    | zero => rfl
    | succ m ih => rw [catN_succ, ih]; rfl
  have h2 : SlP E t w lo g cap n n (fun _ => a) (fun _ => zs) (fun _ => []) := ⟨h.row, h.lens, fun i _ => hz, by rw [e]; simp, fun b hb => by rw [e] at hb; cases hb⟩
  exact h2.done hg
end
/-- make([]E, n), as it runs -/
theorem run_makeT {α : Type} {E : Lay α} {T e : TypeId} {by_ : Nat} {zs : List Value} (I : ElInfo E T e by_ zs) (x : Nat → α) (Ls : Nat → List Nat) (w : World) (n : Nat) (hn : n ≤ 10000000) :
    ∃ w', (Instr.makeSlice T (.int .i64 (n : Int)) (.int .i64 (n : Int))).run Try.prog w = .ok (.slice (some ⟨w.heap.size, 0, none⟩) n n) w' ∧ SlP E e w' w.heap.size w.heap.size n n 0 x (fun _ => zs) Ls ∧ Below w.heap.size w w' := by
  obtain ⟨hs, hzs, hu, hi, few⟩ := I
  obtain ⟨i0, hi0⟩ : ∃ i0, Try.prog.info? e = some i0 := by
    cases h : Try.prog.info? e with
    | none => rw [h] at hi; cases hi
    | some i0 => exact ⟨i0, rfl⟩
  rw [hi0] at hi
  simp only [Option.map_some, Option.some.injEq, Prod.mk.injEq] at hi
  obtain ⟨h1, h2, h3⟩ := hi
  obtain ⟨z, hz, hzc⟩ : ∃ z, i0.zero = some z ∧ z.cells = zs.toArray := by
    cases h : i0.zero with
    | none => rw [h] at h1; cases h1
    | some z => rw [h] at h1; exact ⟨z, rfl, by simpa using h1⟩
  obtain ⟨w', hrun, hown, hgrow⟩ := run_make_full (P := Try.prog) w w.heap.size T e i0 z E.sz hu hi0 hz h2 .i64 .i64 n (by
    rw [h3]
    have : by_ * n ≤ 1000 * 10000000 := Nat.mul_le_mul few hn
    omega) (by unfold maxLen; omega) (Nat.le_refl _)
  rw [hzc, ← hzs, catN_made zs (by omega)] at hown
  rw [hzs] at hown
  exact ⟨w', hrun, ⟨hown, fun _ _ => hzs, fun i hi => by omega, by simp [catN_zero], fun b hb => by rw [catN_zero] at hb; cases hb⟩, below_of_grown hgrow⟩
end Go.Proofs.Ytbdiedcmhggnjaa

namespace Go.Proofs.Ytbdiedcmhggnjaa
open Go.RowKit F256
set_option linter.unusedVariables false
set_option linter.unusedSimpArgs false

/-- n empty lists, one behind the other -/
def NilRow (w : World) (v : Value) (n : Nat) : Prop := n ≤ 6 ∧ ∃ ao cap, v = .slice ao n cap ∧ (n ≠ 0 → ∃ b off, ao = some ⟨b, off, none⟩ ∧ ∀ i, i < n → w.cell? ⟨b, off + i, none⟩ = some (.slice none 0 0))
theorem NilRow.below {w w' : World} {v : Value} {n : Nat} (h : NilRow w v n) (hb : Below w.heap.size w w') : NilRow w' v n := by
  obtain ⟨h1, ao, cap, rfl, h2⟩ := h
  refine ⟨h1, ao, cap, rfl, fun hn => ?_⟩
  obtain ⟨b, off, rfl, h3⟩ := h2 hn
  refine ⟨b, off, rfl, fun i hi => ?_⟩
  have := h3 i hi
  rw [hb.cell (block_lt_of_cell this)]
  exact this
theorem nilRow_stN {w : World} {b n cap : Nat} (h : NilRow w (.slice (some ⟨b, 0, none⟩) n cap) n) {g : Nat} (hg : g ≠ b) (off : Nat) (l : List Value) : NilRow (stN w g off l) (.slice (some ⟨b, 0, none⟩) n cap) n := by
  obtain ⟨h1, ao, cap', hv, h2⟩ := h
  cases hv
  refine ⟨h1, _, _, rfl, fun hn => ?_⟩
  obtain ⟨b', off', hb, h3⟩ := h2 hn
  cases hb
  refine ⟨_, _, rfl, fun i hi => ?_⟩
  have e : (stN w g off l).cell? ⟨b, 0 + i, none⟩ = w.cell? ⟨b, 0 + i, none⟩ := by
    unfold World.cell?
    simp only [stN_heap g b (Ne.symm hg) l w off]
  rw [e]
  exact h3 i hi
theorem nilRow_none (w : World) : NilRow w (.slice none 0 0) 0 := ⟨by omega, none, 0, rfl, fun h => absurd rfl h⟩
theorem nilRow_made {w : World} {lo g n : Nat} {x : Nat → Nat × (Nat → Int)} {Ls : Nat → List Nat} {t : TypeId} (hn : n ≤ 6) (h : SlP layInts t w lo g n n 0 x (fun _ => [.slice none 0 0]) Ls) : NilRow w (.slice (some ⟨g, 0, none⟩) n n) n := by
  refine ⟨hn, _, _, rfl, fun _ => ⟨g, 0, rfl, fun i hi => ?_⟩⟩
  have := h.cell hi (show 0 < layInts.sz by decide)
  rw [show layInts.sz = 1 from rfl, Nat.mul_one, Nat.add_zero] at this
  rw [Nat.zero_add]
  exact this
/-- what NewDesk answers: its code, the number of queues, the next Id -/
def NdAns (s : Nat → Int) (c : Int) (n : Nat) (x : Int) : Prop := (¬ OkShape s ∧ c = 3 ∧ n = 0 ∧ x = 0) ∨ (OkShape s ∧ c = 0 ∧ (n : Int) = s 0 + s 1 ∧ x = 1)
theorem NdAns.one {s : Nat → Int} {c c' : Int} {n n' : Nat} {x x' : Int} (h : NdAns s c n x) (k : NdAns s c' n' x') : c = c' ∧ n = n' ∧ x = x' := by
  rcases h with ⟨h1, rfl, rfl, rfl⟩ | ⟨h1, rfl, h2, rfl⟩ <;> rcases k with ⟨k1, rfl, rfl, rfl⟩ | ⟨k1, rfl, k2, rfl⟩ <;>
    first | exact absurd h1 k1 | exact absurd k1 h1 | exact ⟨rfl, rfl, rfl⟩ | exact ⟨rfl, by omega, rfl⟩
theorem nd_ex (s : Nat → Int) : ∃ c n x, NdAns s c n x := by
  by_cases h : OkShape s
  · have := okB h
    exact ⟨0, (s 0 + s 1).toNat, 1, .inr ⟨h, rfl, by omega, rfl⟩⟩
  · exact ⟨3, 0, 0, .inl ⟨h, rfl, rfl, rfl⟩⟩
theorem info_TS : (Try.prog.info? 34).map (fun i => (i.zero.map (·.cells), i.size, i.bytes)) = some (some #[.slice none 0 0], 1, 24) := by kernel_rfl
set_option maxHeartbeats 4000000 in
theorem specNewDesk_any (s : Nat → Int) (w : World) :
    Calls Try.prog 10 #[shapeV s] w fun e w' => ∃ c n x v, e = .returned (.agg #[.int .i64 c, v, .slice none 0 0, .slice none 0 0, .int .i64 0, .int .i64 x]) ∧ NdAns s c n x ∧ NilRow w' v n ∧ Below w.heap.size w w' := by
  have CS := specShape_any s
  have T0 := two_newb w #[.int .i64 (s 0), .int .i64 (s 1), .int .i64 (s 2), .int .i64 (s 3), .int .i64 (s 4), .int .i64 (s 5), .int .i64 (s 6), .int .i64 (s 7), .int .i64 (s 8)] #[.int .i64 0, .slice none 0 0, .slice none 0 0, .slice none 0 0, .int .i64 0, .int .i64 0] 28 39
  unfold shapeV at *
  go_enter Try.func10, Try.ntmps10
  go_wp2_with fail
  refine (CS _).mono ?_
  rintro e w1 ⟨x, rfl, hx, b1⟩
  have HT1 : Hid (Two w w1 #[.int .i64 (s 0), .int .i64 (s 1), .int .i64 (s 2), .int .i64 (s 3), .int .i64 (s 4), .int .i64 (s 5), .int .i64 (s 6), .int .i64 (s 7), .int .i64 (s 8)] #[.int .i64 0, .slice none 0 0, .slice none 0 0, .slice none 0 0, .int .i64 0, .int .i64 0] 28 39) := T0.call b1
  clear T0 b1 CS
  have T1 := HT1.out
  have z1 : w.heap.size + 1 < w1.heap.size := T1.b2.lt
  obtain ⟨x0, x1, x2, x3, x4, x5, x6, x7, x8⟩ := box9 T1.b1
  have y0 : w1.cell? ⟨w.heap.size + 1, 0, none⟩ = some (.int .i64 0) := T1.b2.cell 0
  have yf0 : w1.frozen? ⟨w.heap.size + 1, 0, none⟩ = false := T1.b2.frozen 0
  have y1 : w1.cell? ⟨w.heap.size + 1, 1, none⟩ = some (.slice none 0 0) := T1.b2.cell 1
  have yf1 : w1.frozen? ⟨w.heap.size + 1, 1, none⟩ = false := T1.b2.frozen 1
  have y2 : w1.cell? ⟨w.heap.size + 1, 2, none⟩ = some (.slice none 0 0) := T1.b2.cell 2
  have yf2 : w1.frozen? ⟨w.heap.size + 1, 2, none⟩ = false := T1.b2.frozen 2
  have y3 : w1.cell? ⟨w.heap.size + 1, 3, none⟩ = some (.slice none 0 0) := T1.b2.cell 3
  have yf3 : w1.frozen? ⟨w.heap.size + 1, 3, none⟩ = false := T1.b2.frozen 3
  have y4 : w1.cell? ⟨w.heap.size + 1, 4, none⟩ = some (.int .i64 0) := T1.b2.cell 4
  have yf4 : w1.frozen? ⟨w.heap.size + 1, 4, none⟩ = false := T1.b2.frozen 4
  have y5 : w1.cell? ⟨w.heap.size + 1, 5, none⟩ = some (.int .i64 0) := T1.b2.cell 5
  have yf5 : w1.frozen? ⟨w.heap.size + 1, 5, none⟩ = false := T1.b2.frozen 5
  clear T1
  rcases hx with ⟨rfl, hx⟩ | ⟨rfl, hx⟩
  · have HN : Hid (¬ OkShape s) := hx
    clear hx
    go_wp2
    refine bodyPost_ret (v := .agg #[.int .i64 3, .slice none 0 0, .slice none 0 0, .slice none 0 0, .int .i64 0, .int .i64 0]) (by simp [results, Try.results10, go_sem, y0, y1, y2, y3, y4, y5]) rfl ⟨3, 0, 0, _, rfl, .inl ⟨HN.out, rfl, rfl, rfl⟩, nilRow_none _, ?_⟩
    exact HT1.out.bel.trans (stN_below (w := w1) (g := w.heap.size + 1) (B := w.heap.size) (by omega) [.int .i64 3, .slice none 0 0, .slice none 0 0, .slice none 0 0, .int .i64 0, .int .i64 0] 0)
  · have HOK : Hid (OkShape s) := hx
    clear hx
    have CA := l5All_any s HOK.out
    unfold shapeV at CA
    go_wp2_with fail
    refine (CA _).mono ?_
    rintro e w2 ⟨rfl, b2⟩
    have HT2 : Hid (Two w w2 #[.int .i64 (s 0), .int .i64 (s 1), .int .i64 (s 2), .int .i64 (s 3), .int .i64 (s 4), .int .i64 (s 5), .int .i64 (s 6), .int .i64 (s 7), .int .i64 (s 8)] #[.int .i64 0, .slice none 0 0, .slice none 0 0, .slice none 0 0, .int .i64 0, .int .i64 0] 28 39) := HT1.out.call b2
    have hO := okB HOK.out
    obtain ⟨n, hn⟩ : ∃ n : Nat, s 0 + s 1 = (n : Int) := ⟨(s 0 + s 1).toNat, by omega⟩
    have hn6 : n ≤ 6 := by omega
    have HA : Hid (NdAns s 0 n 1) := .inr ⟨HOK.out, rfl, hn.symm, rfl⟩
    rw [hn]
    clear hn hO b2 x0 x1 x2 x3 x4 x5 x6 x7 x8 y0 y1 y2 y3 y4 y5 yf0 yf1 yf2 yf3 yf4 yf5 HT1 CA
    have hg : w.heap.size + 1 < w2.heap.size := HT2.out.b2.lt
    go_wp2_with (at_make; refine wp_makeT layInts [.slice none 0 0] _ 34 24 (by decide) rfl Try.underlying33 info_TS (fun _ => (0, fun _ => 0)) (fun _ => []) _ rfl _ _ rfl _ _ n rfl rfl rfl rfl (by omega) (by unfold maxLen; omega) ?_; intro w3 sp3 b3; have HR : Hid (NilRow w3 (.slice (some ⟨w2.heap.size, 0, none⟩) n n) n) := nilRow_made hn6 sp3; have T3 := HT2.out.call b3; have HB3 : Hid (Below w.heap.size w w3) := T3.bel; have y0 : w3.cell? ⟨w.heap.size + 1, 0, none⟩ = some (.int .i64 0) := T3.b2.cell 0; have yf0 : w3.frozen? ⟨w.heap.size + 1, 0, none⟩ = false := T3.b2.frozen 0; have y1 : w3.cell? ⟨w.heap.size + 1, 1, none⟩ = some (.slice none 0 0) := T3.b2.cell 1; have yf1 : w3.frozen? ⟨w.heap.size + 1, 1, none⟩ = false := T3.b2.frozen 1; have y2 : w3.cell? ⟨w.heap.size + 1, 2, none⟩ = some (.slice none 0 0) := T3.b2.cell 2; have yf2 : w3.frozen? ⟨w.heap.size + 1, 2, none⟩ = false := T3.b2.frozen 2; have y3 : w3.cell? ⟨w.heap.size + 1, 3, none⟩ = some (.slice none 0 0) := T3.b2.cell 3; have yf3 : w3.frozen? ⟨w.heap.size + 1, 3, none⟩ = false := T3.b2.frozen 3; have y4 : w3.cell? ⟨w.heap.size + 1, 4, none⟩ = some (.int .i64 0) := T3.b2.cell 4; have yf4 : w3.frozen? ⟨w.heap.size + 1, 4, none⟩ = false := T3.b2.frozen 4; have y5 : w3.cell? ⟨w.heap.size + 1, 5, none⟩ = some (.int .i64 0) := T3.b2.cell 5; have yf5 : w3.frozen? ⟨w.heap.size + 1, 5, none⟩ = false := T3.b2.frozen 5; clear T3 sp3 b3)
    refine bodyPost_ret (v := .agg #[.int .i64 0, .slice (some ⟨w2.heap.size, 0, none⟩) n n, .slice none 0 0, .slice none 0 0, .int .i64 0, .int .i64 1]) (by simp [results, Try.results10, go_sem, y0, y1, y2, y3, y4, y5]) rfl ⟨0, n, 1, _, rfl, HA.out, ?_, ?_⟩
    · exact nilRow_stN HR.out (g := w.heap.size + 1) (by omega) 0 [.int .i64 0, .slice (some ⟨w2.heap.size, 0, none⟩) n n, .slice none 0 0, .slice none 0 0, .int .i64 0, .int .i64 1]
    · exact HB3.out.trans (stN_below (w := w3) (g := w.heap.size + 1) (B := w.heap.size) (by omega) [.int .i64 0, .slice (some ⟨w2.heap.size, 0, none⟩) n n, .slice none 0 0, .slice none 0 0, .int .i64 0, .int .i64 1] 0)
set_option maxHeartbeats 4000000 in
theorem implNewDesk_any (s : Nat → Int) (w : World) :
    Calls Try.prog 11 #[shapeV s] w fun e w' => ∃ c n x v, e = .returned (.agg #[.int .i64 c, v, .slice none 0 0, .slice none 0 0, .int .i64 0, .int .i64 x]) ∧ NdAns s c n x ∧ NilRow w' v n ∧ Below w.heap.size w w' := by
  have CS := implShape_any s
  have T0 := two_newb w #[.int .i64 (s 0), .int .i64 (s 1), .int .i64 (s 2), .int .i64 (s 3), .int .i64 (s 4), .int .i64 (s 5), .int .i64 (s 6), .int .i64 (s 7), .int .i64 (s 8)] #[.int .i64 0, .slice none 0 0, .slice none 0 0, .slice none 0 0, .int .i64 0, .int .i64 0] 28 39
  unfold shapeV at *
  go_enter Try.func11, Try.ntmps11
  go_wp2_with fail
  refine (CS _).mono ?_
  rintro e w1 ⟨x, rfl, hx, b1⟩
  have HT1 : Hid (Two w w1 #[.int .i64 (s 0), .int .i64 (s 1), .int .i64 (s 2), .int .i64 (s 3), .int .i64 (s 4), .int .i64 (s 5), .int .i64 (s 6), .int .i64 (s 7), .int .i64 (s 8)] #[.int .i64 0, .slice none 0 0, .slice none 0 0, .slice none 0 0, .int .i64 0, .int .i64 0] 28 39) := T0.call b1
  clear T0 b1 CS
  have T1 := HT1.out
  have z1 : w.heap.size + 1 < w1.heap.size := T1.b2.lt
  obtain ⟨x0, x1, x2, x3, x4, x5, x6, x7, x8⟩ := box9 T1.b1
  have y0 : w1.cell? ⟨w.heap.size + 1, 0, none⟩ = some (.int .i64 0) := T1.b2.cell 0
  have yf0 : w1.frozen? ⟨w.heap.size + 1, 0, none⟩ = false := T1.b2.frozen 0
  have y1 : w1.cell? ⟨w.heap.size + 1, 1, none⟩ = some (.slice none 0 0) := T1.b2.cell 1
  have yf1 : w1.frozen? ⟨w.heap.size + 1, 1, none⟩ = false := T1.b2.frozen 1
  have y2 : w1.cell? ⟨w.heap.size + 1, 2, none⟩ = some (.slice none 0 0) := T1.b2.cell 2
  have yf2 : w1.frozen? ⟨w.heap.size + 1, 2, none⟩ = false := T1.b2.frozen 2
  have y3 : w1.cell? ⟨w.heap.size + 1, 3, none⟩ = some (.slice none 0 0) := T1.b2.cell 3
  have yf3 : w1.frozen? ⟨w.heap.size + 1, 3, none⟩ = false := T1.b2.frozen 3
  have y4 : w1.cell? ⟨w.heap.size + 1, 4, none⟩ = some (.int .i64 0) := T1.b2.cell 4
  have yf4 : w1.frozen? ⟨w.heap.size + 1, 4, none⟩ = false := T1.b2.frozen 4
  have y5 : w1.cell? ⟨w.heap.size + 1, 5, none⟩ = some (.int .i64 0) := T1.b2.cell 5
  have yf5 : w1.frozen? ⟨w.heap.size + 1, 5, none⟩ = false := T1.b2.frozen 5
  clear T1
  rcases hx with ⟨rfl, hx⟩ | ⟨rfl, hx⟩
  · have HN : Hid (¬ OkShape s) := hx
    clear hx
    go_wp2
    refine bodyPost_ret (v := .agg #[.int .i64 3, .slice none 0 0, .slice none 0 0, .slice none 0 0, .int .i64 0, .int .i64 0]) (by simp [results, Try.results11, go_sem, y0, y1, y2, y3, y4, y5]) rfl ⟨3, 0, 0, _, rfl, .inl ⟨HN.out, rfl, rfl, rfl⟩, nilRow_none _, ?_⟩
    exact HT1.out.bel.trans (stN_below (w := w1) (g := w.heap.size + 1) (B := w.heap.size) (by omega) [.int .i64 3, .slice none 0 0, .slice none 0 0, .slice none 0 0, .int .i64 0, .int .i64 0] 0)
  · have HOK : Hid (OkShape s) := hx
    clear hx
    have CA := groupCount_any s HOK.out
    unfold shapeV at CA
    go_wp2_with fail
    refine (CA _).mono ?_
    rintro e w2 ⟨rfl, b2⟩
    have HT2 : Hid (Two w w2 #[.int .i64 (s 0), .int .i64 (s 1), .int .i64 (s 2), .int .i64 (s 3), .int .i64 (s 4), .int .i64 (s 5), .int .i64 (s 6), .int .i64 (s 7), .int .i64 (s 8)] #[.int .i64 0, .slice none 0 0, .slice none 0 0, .slice none 0 0, .int .i64 0, .int .i64 0] 28 39) := HT1.out.call b2
    have hO := okB HOK.out
    obtain ⟨n, hn⟩ : ∃ n : Nat, s 0 + s 1 = (n : Int) := ⟨(s 0 + s 1).toNat, by omega⟩
    have hn6 : n ≤ 6 := by omega
    have HA : Hid (NdAns s 0 n 1) := .inr ⟨HOK.out, rfl, hn.symm, rfl⟩
    rw [hn]
    clear hn hO b2 x0 x1 x2 x3 x4 x5 x6 x7 x8 y0 y1 y2 y3 y4 y5 yf0 yf1 yf2 yf3 yf4 yf5 HT1 CA
    have hg : w.heap.size + 1 < w2.heap.size := HT2.out.b2.lt
    go_wp2_with (at_make; refine wp_makeT layInts [.slice none 0 0] _ 34 24 (by decide) rfl Try.underlying33 info_TS (fun _ => (0, fun _ => 0)) (fun _ => []) _ rfl _ _ rfl _ _ n rfl rfl rfl rfl (by omega) (by unfold maxLen; omega) ?_; intro w3 sp3 b3; have HR : Hid (NilRow w3 (.slice (some ⟨w2.heap.size, 0, none⟩) n n) n) := nilRow_made hn6 sp3; have T3 := HT2.out.call b3; have HB3 : Hid (Below w.heap.size w w3) := T3.bel; have y0 : w3.cell? ⟨w.heap.size + 1, 0, none⟩ = some (.int .i64 0) := T3.b2.cell 0; have yf0 : w3.frozen? ⟨w.heap.size + 1, 0, none⟩ = false := T3.b2.frozen 0; have y1 : w3.cell? ⟨w.heap.size + 1, 1, none⟩ = some (.slice none 0 0) := T3.b2.cell 1; have yf1 : w3.frozen? ⟨w.heap.size + 1, 1, none⟩ = false := T3.b2.frozen 1; have y2 : w3.cell? ⟨w.heap.size + 1, 2, none⟩ = some (.slice none 0 0) := T3.b2.cell 2; have yf2 : w3.frozen? ⟨w.heap.size + 1, 2, none⟩ = false := T3.b2.frozen 2; have y3 : w3.cell? ⟨w.heap.size + 1, 3, none⟩ = some (.slice none 0 0) := T3.b2.cell 3; have yf3 : w3.frozen? ⟨w.heap.size + 1, 3, none⟩ = false := T3.b2.frozen 3; have y4 : w3.cell? ⟨w.heap.size + 1, 4, none⟩ = some (.int .i64 0) := T3.b2.cell 4; have yf4 : w3.frozen? ⟨w.heap.size + 1, 4, none⟩ = false := T3.b2.frozen 4; have y5 : w3.cell? ⟨w.heap.size + 1, 5, none⟩ = some (.int .i64 0) := T3.b2.cell 5; have yf5 : w3.frozen? ⟨w.heap.size + 1, 5, none⟩ = false := T3.b2.frozen 5; clear T3 sp3 b3)
    refine bodyPost_ret (v := .agg #[.int .i64 0, .slice (some ⟨w2.heap.size, 0, none⟩) n n, .slice none 0 0, .slice none 0 0, .int .i64 0, .int .i64 1]) (by simp [results, Try.results11, go_sem, y0, y1, y2, y3, y4, y5]) rfl ⟨0, n, 1, _, rfl, HA.out, ?_, ?_⟩
    · exact nilRow_stN HR.out (g := w.heap.size + 1) (by omega) 0 [.int .i64 0, .slice (some ⟨w2.heap.size, 0, none⟩) n n, .slice none 0 0, .slice none 0 0, .int .i64 0, .int .i64 1]
    · exact HB3.out.trans (stN_below (w := w3) (g := w.heap.size + 1) (B := w.heap.size) (by omega) [.int .i64 0, .slice (some ⟨w2.heap.size, 0, none⟩) n n, .slice none 0 0, .slice none 0 0, .int .i64 0, .int .i64 1] 0)
theorem eqTicketS_nil (w : World) : Calls Try.prog 34 #[.slice none 0 0, .slice none 0 0] w fun e w' => e = .returned (.bool true) ∧ w' = w := by
  go_enter Try.func34, Try.ntmps34
  go_wp2
  go_loopw [5] (fun i wr => i = .int .i64 0 ∧ wr = w) (fun _ _ => 0)
  case atStart => exact ⟨rfl, rfl⟩
  case round =>
    obtain ⟨rfl, rfl⟩ := hrel
    go_wp2
    go_ret
    exact ⟨rfl, rfl⟩
theorem eqAnswerS_nil (w : World) : Calls Try.prog 35 #[.slice none 0 0, .slice none 0 0] w fun e w' => e = .returned (.bool true) ∧ w' = w := by
  go_enter Try.func35, Try.ntmps35
  go_wp2
  go_loopw [5] (fun i wr => i = .int .i64 0 ∧ wr = w) (fun _ _ => 0)
  case atStart => exact ⟨rfl, rfl⟩
  case round =>
    obtain ⟨rfl, rfl⟩ := hrel
    go_wp2
    go_ret
    exact ⟨rfl, rfl⟩
theorem markTicketS_nil (w : World) : Calls Try.prog 37 #[.slice none 0 0, .int .i64 1] w fun e w' => e = .returned (.int .i64 1) ∧ w' = w := by
  go_enter Try.func37, Try.ntmps37
  go_wp2
  go_loopw [1, 5] (fun k i wr => k = .int .i64 1 ∧ i = .int .i64 0 ∧ wr = w) (fun _ _ _ => 0)
  case atStart => exact ⟨rfl, rfl, rfl⟩
  case round =>
    obtain ⟨rfl, rfl, rfl⟩ := hrel
    go_wp2
    go_ret
    exact ⟨rfl, rfl⟩
theorem markAnswerS_nil (w : World) : Calls Try.prog 38 #[.slice none 0 0, .int .i64 1] w fun e w' => e = .returned (.int .i64 1) ∧ w' = w := by
  go_enter Try.func38, Try.ntmps38
  go_wp2
  go_loopw [1, 5] (fun k i wr => k = .int .i64 1 ∧ i = .int .i64 0 ∧ wr = w) (fun _ _ _ => 0)
  case atStart => exact ⟨rfl, rfl, rfl⟩
  case round =>
    obtain ⟨rfl, rfl, rfl⟩ := hrel
    go_wp2
    go_ret
    exact ⟨rfl, rfl⟩
theorem heldTicketS_nil (w : World) : Calls Try.prog 40 #[.slice none 0 0, .int .i64 1] w fun e w' => e = .returned (.int .i64 1) ∧ w' = w := by
  go_enter Try.func40, Try.ntmps40
  go_wp2
  go_loopw [1, 5] (fun k i wr => k = .int .i64 1 ∧ i = .int .i64 0 ∧ wr = w) (fun _ _ _ => 0)
  case atStart => exact ⟨rfl, rfl, rfl⟩
  case round =>
    obtain ⟨rfl, rfl, rfl⟩ := hrel
    go_wp2
    go_ret
    exact ⟨rfl, rfl⟩
theorem heldAnswerS_nil (w : World) : Calls Try.prog 41 #[.slice none 0 0, .int .i64 1] w fun e w' => e = .returned (.int .i64 1) ∧ w' = w := by
  go_enter Try.func41, Try.ntmps41
  go_wp2
  go_loopw [1, 5] (fun k i wr => k = .int .i64 1 ∧ i = .int .i64 0 ∧ wr = w) (fun _ _ _ => 0)
  case atStart => exact ⟨rfl, rfl, rfl⟩
  case round =>
    obtain ⟨rfl, rfl, rfl⟩ := hrel
    go_wp2
    go_ret
    exact ⟨rfl, rfl⟩
set_option maxHeartbeats 4000000 in
theorem eqTicketSS_nils {v1 v2 : Value} {n : Nat} {w : World} (r1 : NilRow w v1 n) (r2 : NilRow w v2 n) : Calls Try.prog 33 #[v1, v2] w fun e w' => e = .returned (.bool true) ∧ Below w.heap.size w w' := by
  obtain ⟨hn, ao, cap, rfl, hc⟩ := r1
  obtain ⟨-, ao', cap', rfl, hc'⟩ := r2
  go_enter Try.func33, Try.ntmps33
  go_wp2
  go_loopw [5] (fun i wr => ∃ k : Nat, k ≤ n ∧ i = .int .i64 k ∧ Below w.heap.size w wr) (fun i _ => n - (intOf i).toNat)
  case atStart => exact ⟨0, Nat.zero_le _, rfl, Below.refl _ _⟩
  case round =>
    obtain ⟨k, hk, rfl, hb⟩ := hrel
    by_cases hlt : k < n
    · obtain ⟨b, off, rfl, hel⟩ := hc (by omega)
      obtain ⟨b', off', rfl, hel'⟩ := hc' (by omega)
      have c0 : wr.cell? ⟨b, off + k, none⟩ = some (.slice none 0 0) := by
        have := hel k hlt
        rw [hb.cell (block_lt_of_cell this)]
        exact this
      have e0 : wr.cell? ⟨b', off' + k, none⟩ = some (.slice none 0 0) := by
        have := hel' k hlt
        rw [hb.cell (block_lt_of_cell this)]
        exact this
      have C1 := eqTicketS_nil (wr.drewN 1)
      clear hc hc' hel hel'
      go_wp2
      go_region_with (go_at_call 34; refine C1.mono ?_; rintro ee w2 ⟨rfl, hb2⟩)
      all_goals
        have R' : Below w.heap.size w (wr.drewN 1) := below_drewN hb 1
        clear hb2
        go_wp2
        go_roundw
        case rel => exact ⟨k + 1, by omega, by go_num, R'⟩
        case measure => simp [intOf]; omega
    · obtain rfl : k = n := by omega
      go_wp2
      go_ret
      exact ⟨rfl, hb⟩
set_option maxHeartbeats 4000000 in
theorem markTicketSS_nils {v : Value} {n : Nat} {w : World} (r : NilRow w v n) : Calls Try.prog 36 #[v, .int .i64 1] w fun e w' => e = .returned (.int .i64 1) ∧ Below w.heap.size w w' := by
  obtain ⟨hn, ao, cap, rfl, hc⟩ := r
  go_enter Try.func36, Try.ntmps36
  go_wp2
  go_loopw [1, 5] (fun q i wr => ∃ k : Nat, k ≤ n ∧ i = .int .i64 k ∧ q = .int .i64 1 ∧ Below w.heap.size w wr) (fun _ i _ => n - (intOf i).toNat)
  case atStart => exact ⟨0, Nat.zero_le _, rfl, rfl, Below.refl _ _⟩
  case round =>
    obtain ⟨k, hk, rfl, rfl, hb⟩ := hrel
    by_cases hlt : k < n
    · obtain ⟨b, off, rfl, hel⟩ := hc (by omega)
      have c0 : wr.cell? ⟨b, off + k, none⟩ = some (.slice none 0 0) := by
        have := hel k hlt
        rw [hb.cell (block_lt_of_cell this)]
        exact this
      clear hc hel
      go_wp2_with fail
      refine (markTicketS_nil _).mono ?_
      rintro e w2 ⟨rfl, hb2⟩
      have R' : Below w.heap.size w w2 := by rw [hb2]; exact hb
      clear hb2
      go_wp2
      go_roundw
      case rel => exact ⟨k + 1, by omega, by go_num, rfl, R'⟩
      case measure => simp [intOf]; omega
    · obtain rfl : k = n := by omega
      go_wp2
      go_ret
      exact ⟨rfl, hb⟩
set_option maxHeartbeats 4000000 in
theorem heldTicketSS_nils {v : Value} {n : Nat} {w : World} (r : NilRow w v n) : Calls Try.prog 39 #[v, .int .i64 1] w fun e w' => e = .returned (.int .i64 1) ∧ Below w.heap.size w w' := by
  obtain ⟨hn, ao, cap, rfl, hc⟩ := r
  go_enter Try.func39, Try.ntmps39
  go_wp2
  go_loopw [1, 5] (fun q i wr => ∃ k : Nat, k ≤ n ∧ i = .int .i64 k ∧ q = .int .i64 1 ∧ Below w.heap.size w wr) (fun _ i _ => n - (intOf i).toNat)
  case atStart => exact ⟨0, Nat.zero_le _, rfl, rfl, Below.refl _ _⟩
  case round =>
    obtain ⟨k, hk, rfl, rfl, hb⟩ := hrel
    by_cases hlt : k < n
    · obtain ⟨b, off, rfl, hel⟩ := hc (by omega)
      have c0 : wr.cell? ⟨b, off + k, none⟩ = some (.slice none 0 0) := by
        have := hel k hlt
        rw [hb.cell (block_lt_of_cell this)]
        exact this
      clear hc hel
      go_wp2_with fail
      refine (heldTicketS_nil _).mono ?_
      rintro e w2 ⟨rfl, hb2⟩
      have R' : Below w.heap.size w w2 := by rw [hb2]; exact hb
      clear hb2
      go_wp2
      go_roundw
      case rel => exact ⟨k + 1, by omega, by go_num, rfl, R'⟩
      case measure => simp [intOf]; omega
    · obtain rfl : k = n := by omega
      go_wp2
      go_ret
      exact ⟨rfl, hb⟩
set_option maxHeartbeats 4000000 in
theorem eqDesk_nils {v v' : Value} {n : Nat} {x : Int} {w : World} (r1 : NilRow w v n) (r2 : NilRow w v' n) : Calls Try.prog 25 #[.agg #[v, .slice none 0 0, .slice none 0 0, .int .i64 0, .int .i64 x], .agg #[v', .slice none 0 0, .slice none 0 0, .int .i64 0, .int .i64 x]] w fun e w' => e = .returned (.bool true) ∧ Below w.heap.size w w' := by
  have T0 := two_newb w #[v, .slice none 0 0, .slice none 0 0, .int .i64 0, .int .i64 x] #[v', .slice none 0 0, .slice none 0 0, .int .i64 0, .int .i64 x] 37 37
  have R1 := r1.below T0.bel
  have R2 := r2.below T0.bel
  obtain ⟨hn, ao, cap, rfl, -⟩ := r1
  obtain ⟨-, ao', cap', rfl, -⟩ := r2
  have C1 := eqTicketSS_nils R1 R2
  go_enter Try.func25, Try.ntmps25
  go_wp2_with fail
  refine C1.mono ?_
  rintro e w1 ⟨rfl, b1⟩
  have T1 := T0.call b1
  clear T0 b1 C1 R1 R2
  have x1_0 : w1.cell? ⟨w.heap.size, 0, none⟩ = some (.slice ao n cap) := T1.b1.cell 0
  have x1_1 : w1.cell? ⟨w.heap.size, 1, none⟩ = some (.slice none 0 0) := T1.b1.cell 1
  have x1_2 : w1.cell? ⟨w.heap.size, 2, none⟩ = some (.slice none 0 0) := T1.b1.cell 2
  have x1_3 : w1.cell? ⟨w.heap.size, 3, none⟩ = some (.int .i64 0) := T1.b1.cell 3
  have x1_4 : w1.cell? ⟨w.heap.size, 4, none⟩ = some (.int .i64 x) := T1.b1.cell 4
  have y1_0 : w1.cell? ⟨w.heap.size + 1, 0, none⟩ = some (.slice ao' n cap') := T1.b2.cell 0
  have y1_1 : w1.cell? ⟨w.heap.size + 1, 1, none⟩ = some (.slice none 0 0) := T1.b2.cell 1
  have y1_2 : w1.cell? ⟨w.heap.size + 1, 2, none⟩ = some (.slice none 0 0) := T1.b2.cell 2
  have y1_3 : w1.cell? ⟨w.heap.size + 1, 3, none⟩ = some (.int .i64 0) := T1.b2.cell 3
  have y1_4 : w1.cell? ⟨w.heap.size + 1, 4, none⟩ = some (.int .i64 x) := T1.b2.cell 4
  have HB : Hid (Below w.heap.size w w1) := T1.bel
  clear T1
  go_wp2_with (first | (go_at_call 34; refine (eqTicketS_nil _).mono ?_; rintro ee w2 ⟨rfl, hw2⟩; obtain rfl := hw2.symm) | (go_at_call 35; refine (eqAnswerS_nil _).mono ?_; rintro ee w2 ⟨rfl, hw2⟩; obtain rfl := hw2.symm))
  go_ret
  exact ⟨rfl, HB.out⟩
set_option maxHeartbeats 4000000 in
theorem eqDeskResult_nils {v v' : Value} {n : Nat} {c x : Int} {w : World} (r1 : NilRow w v n) (r2 : NilRow w v' n) : Calls Try.prog 12 #[.agg #[.int .i64 c, v, .slice none 0 0, .slice none 0 0, .int .i64 0, .int .i64 x], .agg #[.int .i64 c, v', .slice none 0 0, .slice none 0 0, .int .i64 0, .int .i64 x]] w fun e w' => e = .returned (.bool true) ∧ Below w.heap.size w w' := by
  have T0 := two_newb w #[.int .i64 c, v, .slice none 0 0, .slice none 0 0, .int .i64 0, .int .i64 x] #[.int .i64 c, v', .slice none 0 0, .slice none 0 0, .int .i64 0, .int .i64 x] 39 39
  have C1 := eqDesk_nils (x := x) (r1.below T0.bel) (r2.below T0.bel)
  obtain ⟨hn, ao, cap, rfl, -⟩ := r1
  obtain ⟨-, ao', cap', rfl, -⟩ := r2
  go_enter Try.func12, Try.ntmps12
  go_wp2_with fail
  refine C1.mono ?_
  rintro e w1 ⟨rfl, b1⟩
  have HB : Hid (Below w.heap.size w w1) := (T0.call b1).bel
  clear T0 b1 C1
  go_wp2
  go_ret
  exact ⟨rfl, HB.out⟩
set_option maxHeartbeats 4000000 in
theorem markDesk_nils {v : Value} {n : Nat} {x : Int} {w : World} (r : NilRow w v n) : Calls Try.prog 26 #[.agg #[v, .slice none 0 0, .slice none 0 0, .int .i64 0, .int .i64 x], .int .i64 1] w fun e w' => e = .returned (.int .i64 1) ∧ Below w.heap.size w w' := by
  have T0 := one_new w #[v, .slice none 0 0, .slice none 0 0, .int .i64 0, .int .i64 x] 37
  have C1 := markTicketSS_nils (r.below T0.bel)
  obtain ⟨hn, ao, cap, rfl, -⟩ := r
  go_enter Try.func26, Try.ntmps26
  go_wp2_with fail
  refine C1.mono ?_
  rintro e w1 ⟨rfl, b1⟩
  have T1 := T0.call b1
  clear T0 b1 C1
  have x1_0 : w1.cell? ⟨w.heap.size, 0, none⟩ = some (.slice ao n cap) := T1.b1.cell 0
  have x1_1 : w1.cell? ⟨w.heap.size, 1, none⟩ = some (.slice none 0 0) := T1.b1.cell 1
  have x1_2 : w1.cell? ⟨w.heap.size, 2, none⟩ = some (.slice none 0 0) := T1.b1.cell 2
  have x1_3 : w1.cell? ⟨w.heap.size, 3, none⟩ = some (.int .i64 0) := T1.b1.cell 3
  have x1_4 : w1.cell? ⟨w.heap.size, 4, none⟩ = some (.int .i64 x) := T1.b1.cell 4
  have HB : Hid (Below w.heap.size w w1) := T1.bel
  clear T1
  go_wp2_with (first | (go_at_call 37; refine (markTicketS_nil _).mono ?_; rintro ee w2 ⟨rfl, hw2⟩; obtain rfl := hw2.symm) | (go_at_call 38; refine (markAnswerS_nil _).mono ?_; rintro ee w2 ⟨rfl, hw2⟩; obtain rfl := hw2.symm))
  go_ret
  exact ⟨rfl, HB.out⟩
set_option maxHeartbeats 4000000 in
theorem markDeskResult_nils {v : Value} {n : Nat} {c x : Int} {w : World} (r : NilRow w v n) : Calls Try.prog 13 #[.agg #[.int .i64 c, v, .slice none 0 0, .slice none 0 0, .int .i64 0, .int .i64 x], .int .i64 1] w fun e w' => e = .returned (.int .i64 1) ∧ Below w.heap.size w w' := by
  have T0 := one_new w #[.int .i64 c, v, .slice none 0 0, .slice none 0 0, .int .i64 0, .int .i64 x] 39
  have C1 := markDesk_nils (x := x) (r.below T0.bel)
  obtain ⟨hn, ao, cap, rfl, -⟩ := r
  go_enter Try.func13, Try.ntmps13
  go_wp2_with fail
  refine C1.mono ?_
  rintro e w1 ⟨rfl, b1⟩
  have HB : Hid (Below w.heap.size w w1) := (T0.call b1).bel
  clear T0 b1 C1
  go_wp2
  go_ret
  exact ⟨rfl, HB.out⟩
set_option maxHeartbeats 4000000 in
theorem heldDesk_nils {v : Value} {n : Nat} {x : Int} {w : World} (r : NilRow w v n) : Calls Try.prog 27 #[.agg #[v, .slice none 0 0, .slice none 0 0, .int .i64 0, .int .i64 x], .int .i64 1] w fun e w' => e = .returned (.int .i64 1) ∧ Below w.heap.size w w' := by
  have T0 := one_new w #[v, .slice none 0 0, .slice none 0 0, .int .i64 0, .int .i64 x] 37
  have C1 := heldTicketSS_nils (r.below T0.bel)
  obtain ⟨hn, ao, cap, rfl, -⟩ := r
  go_enter Try.func27, Try.ntmps27
  go_wp2_with fail
  refine C1.mono ?_
  rintro e w1 ⟨rfl, b1⟩
  have T1 := T0.call b1
  clear T0 b1 C1
  have x1_0 : w1.cell? ⟨w.heap.size, 0, none⟩ = some (.slice ao n cap) := T1.b1.cell 0
  have x1_1 : w1.cell? ⟨w.heap.size, 1, none⟩ = some (.slice none 0 0) := T1.b1.cell 1
  have x1_2 : w1.cell? ⟨w.heap.size, 2, none⟩ = some (.slice none 0 0) := T1.b1.cell 2
  have x1_3 : w1.cell? ⟨w.heap.size, 3, none⟩ = some (.int .i64 0) := T1.b1.cell 3
  have x1_4 : w1.cell? ⟨w.heap.size, 4, none⟩ = some (.int .i64 x) := T1.b1.cell 4
  have HB : Hid (Below w.heap.size w w1) := T1.bel
  clear T1
  go_wp2_with (first | (go_at_call 40; refine (heldTicketS_nil _).mono ?_; rintro ee w2 ⟨rfl, hw2⟩; obtain rfl := hw2.symm) | (go_at_call 41; refine (heldAnswerS_nil _).mono ?_; rintro ee w2 ⟨rfl, hw2⟩; obtain rfl := hw2.symm))
  go_ret
  exact ⟨rfl, HB.out⟩
set_option maxHeartbeats 4000000 in
theorem heldDeskResult_nils {v : Value} {n : Nat} {c x : Int} {w : World} (r : NilRow w v n) : Calls Try.prog 14 #[.agg #[.int .i64 c, v, .slice none 0 0, .slice none 0 0, .int .i64 0, .int .i64 x], .int .i64 1] w fun e w' => e = .returned (.int .i64 1) ∧ Below w.heap.size w w' := by
  have T0 := one_new w #[.int .i64 c, v, .slice none 0 0, .slice none 0 0, .int .i64 0, .int .i64 x] 39
  have C1 := heldDesk_nils (x := x) (r.below T0.bel)
  obtain ⟨hn, ao, cap, rfl, -⟩ := r
  go_enter Try.func14, Try.ntmps14
  go_wp2_with fail
  refine C1.mono ?_
  rintro e w1 ⟨rfl, b1⟩
  have HB : Hid (Below w.heap.size w w1) := (T0.call b1).bel
  clear T0 b1 C1
  go_wp2
  go_ret
  exact ⟨rfl, HB.out⟩
end Go.Proofs.Ytbdiedcmhggnjaa

namespace Go.Proofs.Ytbdiedcmhggnjaa
open Go.ChangeShapes Go.WideShapes Go.ChangeAt Go.RowKit F256
set_option linter.unusedVariables false
set_option linter.unusedSimpArgs false

theorem nd_det {s : Nat → Int} {c x : Int} {n : Nat} {w : World} {f : Nat} {args : Array Value} (hd : NdAns s c n x) (h : Calls Try.prog f args w fun e w' => ∃ c n x v, e = .returned (.agg #[.int .i64 c, v, .slice none 0 0, .slice none 0 0, .int .i64 0, .int .i64 x]) ∧ NdAns s c n x ∧ NilRow w' v n ∧ Below w.heap.size w w') :
    Calls Try.prog f args w fun e w' => ∃ ao cap, e = .returned (.agg #[.int .i64 c, .slice ao n cap, .slice none 0 0, .slice none 0 0, .int .i64 0, .int .i64 x]) ∧ NilRow w' (.slice ao n cap) n ∧ Below w.heap.size w w' :=
  h.mono fun e w' ⟨c', n', x', v, h1, h2, h3, h4⟩ => by
    obtain ⟨rfl, rfl, rfl⟩ := h2.one hd
    have h5 := h3
    obtain ⟨_, ao, cap, rfl, _⟩ := h5
    exact ⟨ao, cap, h1, h3, h4⟩

set_option maxHeartbeats 8000000 in
set_option maxRecDepth 20000 in
theorem fnExactNewDesk_walk (s : Nat → Int) (w : World) (hs : ∀ i, -9223372036854775808 ≤ s i ∧ s i ≤ 9223372036854775807) :
    Calls Try.prog 4 #[shapeV s] w fun e w' => e = .returned (.bool true) ∧ Below w.heap.size w w' := by
  obtain ⟨c, n, x, hd⟩ := nd_ex s
  have CT := toShape_any s
  have CS := fun w' => nd_det hd (specNewDesk_any s w')
  have CI := fun w' => nd_det hd (implNewDesk_any s w')
  have CE := fun {v v' : Value} {w' : World} (r1 : NilRow w' v n) (r2 : NilRow w' v' n) => eqDeskResult_nils (c := c) (x := x) r1 r2
  have CM := fun {v : Value} {w' : World} (r : NilRow w' v n) => markDeskResult_nils (c := c) (x := x) r
  have CH := fun {v : Value} {w' : World} (r : NilRow w' v n) => heldDeskResult_nils (c := c) (x := x) r
  have T0 := one_new w #[.int .i64 (s 0), .int .i64 (s 1), .int .i64 (s 2), .int .i64 (s 3), .int .i64 (s 4), .int .i64 (s 5), .int .i64 (s 6), .int .i64 (s 7), .int .i64 (s 8)] 23
  unfold shapeV at CT CS CI ⊢
  clear hs hd
  go_enter Try.func4, Try.ntmps4
  go_wp2_with fail
  refine (CT _).mono ?_
  rintro e w1 ⟨rfl, b1⟩
  have T1 := T0.call b1
  clear T0 b1
  go_wp2_with fail
  refine (CS _).mono ?_
  rintro e w2 ⟨a1, k1, rfl, r1, b2⟩
  have T2 := T1.call b2
  clear T1 b2
  have bA : Below w2.heap.size w2 (w2.alloc (.cells #[.int .i64 c, .slice a1 n k1, .slice none 0 0, .slice none 0 0, .int .i64 0, .int .i64 x] 39)) := (Below.refl _ _).alloc (Nat.le_refl _) _
  have X3 : Box (w2.alloc (.cells #[.int .i64 c, .slice a1 n k1, .slice none 0 0, .slice none 0 0, .int .i64 0, .int .i64 x] 39)) w2.heap.size #[.int .i64 c, .slice a1 n k1, .slice none 0 0, .slice none 0 0, .int .i64 0, .int .i64 x] 39 := box_new _ _ _
  go_upto_region 2 with fail
  obtain ⟨w3, hw3⟩ : ∃ y, y = w2.alloc (.cells #[.int .i64 c, .slice a1 n k1, .slice none 0 0, .slice none 0 0, .int .i64 0, .int .i64 x] 39) := ⟨_, rfl⟩
  rw [← hw3] at bA X3 ⊢
  have T3 := T2.call bA
  have Q3 := r1.below bA
  clear T2 r1 bA hw3
  have p3_0 : w3.cell? ⟨w.heap.size, 0, none⟩ = some (.int .i64 (s 0)) := T3.b1.cell 0
  have p3_1 : w3.cell? ⟨w.heap.size, 1, none⟩ = some (.int .i64 (s 1)) := T3.b1.cell 1
  have p3_2 : w3.cell? ⟨w.heap.size, 2, none⟩ = some (.int .i64 (s 2)) := T3.b1.cell 2
  have p3_3 : w3.cell? ⟨w.heap.size, 3, none⟩ = some (.int .i64 (s 3)) := T3.b1.cell 3
  have p3_4 : w3.cell? ⟨w.heap.size, 4, none⟩ = some (.int .i64 (s 4)) := T3.b1.cell 4
  have p3_5 : w3.cell? ⟨w.heap.size, 5, none⟩ = some (.int .i64 (s 5)) := T3.b1.cell 5
  have p3_6 : w3.cell? ⟨w.heap.size, 6, none⟩ = some (.int .i64 (s 6)) := T3.b1.cell 6
  have p3_7 : w3.cell? ⟨w.heap.size, 7, none⟩ = some (.int .i64 (s 7)) := T3.b1.cell 7
  have p3_8 : w3.cell? ⟨w.heap.size, 8, none⟩ = some (.int .i64 (s 8)) := T3.b1.cell 8
  go_wp2_with fail
  refine (CT _).mono ?_
  rintro e w4 ⟨rfl, b4⟩
  have T4 := T3.call b4
  have X4 := X3.call b4
  have Q4 := Q3.below b4
  clear T3 X3 Q3 b4 p3_0 p3_1 p3_2 p3_3 p3_4 p3_5 p3_6 p3_7 p3_8
  go_wp2_with fail
  refine (CI _).mono ?_
  rintro e w5 ⟨a2, k2, rfl, r2, b5⟩
  have T5 := T4.call b5
  have X5 := X4.call b5
  have Q5 := Q4.below b5
  clear T4 X4 Q4 b5
  have bA : Below w5.heap.size w5 (w5.alloc (.cells #[.int .i64 c, .slice a2 n k2, .slice none 0 0, .slice none 0 0, .int .i64 0, .int .i64 x] 39)) := (Below.refl _ _).alloc (Nat.le_refl _) _
  have Y6 : Box (w5.alloc (.cells #[.int .i64 c, .slice a2 n k2, .slice none 0 0, .slice none 0 0, .int .i64 0, .int .i64 x] 39)) w5.heap.size #[.int .i64 c, .slice a2 n k2, .slice none 0 0, .slice none 0 0, .int .i64 0, .int .i64 x] 39 := box_new _ _ _
  go_upto_region 3 with fail
  obtain ⟨w6, hw6⟩ : ∃ y, y = w5.alloc (.cells #[.int .i64 c, .slice a2 n k2, .slice none 0 0, .slice none 0 0, .int .i64 0, .int .i64 x] 39) := ⟨_, rfl⟩
  rw [← hw6] at bA Y6 ⊢
  have T6 := T5.call bA
  have X6 := X5.call bA
  have Q6 := Q5.below bA
  have P6 := r2.below bA
  clear T5 X5 Q5 r2 bA hw6
  have s6_0 : w6.cell? ⟨w2.heap.size, 0, none⟩ = some (.int .i64 c) := X6.cell 0
  have s6_1 : w6.cell? ⟨w2.heap.size, 1, none⟩ = some (.slice a1 n k1) := X6.cell 1
  have s6_2 : w6.cell? ⟨w2.heap.size, 2, none⟩ = some (.slice none 0 0) := X6.cell 2
  have s6_3 : w6.cell? ⟨w2.heap.size, 3, none⟩ = some (.slice none 0 0) := X6.cell 3
  have s6_4 : w6.cell? ⟨w2.heap.size, 4, none⟩ = some (.int .i64 0) := X6.cell 4
  have s6_5 : w6.cell? ⟨w2.heap.size, 5, none⟩ = some (.int .i64 x) := X6.cell 5
  have t6_0 : w6.cell? ⟨w5.heap.size, 0, none⟩ = some (.int .i64 c) := Y6.cell 0
  have t6_1 : w6.cell? ⟨w5.heap.size, 1, none⟩ = some (.slice a2 n k2) := Y6.cell 1
  have t6_2 : w6.cell? ⟨w5.heap.size, 2, none⟩ = some (.slice none 0 0) := Y6.cell 2
  have t6_3 : w6.cell? ⟨w5.heap.size, 3, none⟩ = some (.slice none 0 0) := Y6.cell 3
  have t6_4 : w6.cell? ⟨w5.heap.size, 4, none⟩ = some (.int .i64 0) := Y6.cell 4
  have t6_5 : w6.cell? ⟨w5.heap.size, 5, none⟩ = some (.int .i64 x) := Y6.cell 5
  go_wp2_with fail
  refine (CE P6 Q6).mono ?_
  rintro e w7 ⟨rfl, b7⟩
  have T7 := T6.call b7
  have X7 := X6.call b7
  have Y7 := Y6.call b7
  have Q7 := Q6.below b7
  have P7 := P6.below b7
  clear T6 X6 Y6 Q6 P6 b7 s6_0 s6_1 s6_2 s6_3 s6_4 s6_5 t6_0 t6_1 t6_2 t6_3 t6_4 t6_5
  have t7_0 : w7.cell? ⟨w5.heap.size, 0, none⟩ = some (.int .i64 c) := Y7.cell 0
  have t7_1 : w7.cell? ⟨w5.heap.size, 1, none⟩ = some (.slice a2 n k2) := Y7.cell 1
  have t7_2 : w7.cell? ⟨w5.heap.size, 2, none⟩ = some (.slice none 0 0) := Y7.cell 2
  have t7_3 : w7.cell? ⟨w5.heap.size, 3, none⟩ = some (.slice none 0 0) := Y7.cell 3
  have t7_4 : w7.cell? ⟨w5.heap.size, 4, none⟩ = some (.int .i64 0) := Y7.cell 4
  have t7_5 : w7.cell? ⟨w5.heap.size, 5, none⟩ = some (.int .i64 x) := Y7.cell 5
  go_wp2_with fail
  refine (CM P7).mono ?_
  rintro e w8 ⟨rfl, b8⟩
  have T8 := T7.call b8
  have X8 := X7.call b8
  have Y8 := Y7.call b8
  have Q8 := Q7.below b8
  have P8 := P7.below b8
  clear T7 X7 Y7 Q7 P7 b8 t7_0 t7_1 t7_2 t7_3 t7_4 t7_5
  have t8_0 : w8.cell? ⟨w5.heap.size, 0, none⟩ = some (.int .i64 c) := Y8.cell 0
  have t8_1 : w8.cell? ⟨w5.heap.size, 1, none⟩ = some (.slice a2 n k2) := Y8.cell 1
  have t8_2 : w8.cell? ⟨w5.heap.size, 2, none⟩ = some (.slice none 0 0) := Y8.cell 2
  have t8_3 : w8.cell? ⟨w5.heap.size, 3, none⟩ = some (.slice none 0 0) := Y8.cell 3
  have t8_4 : w8.cell? ⟨w5.heap.size, 4, none⟩ = some (.int .i64 0) := Y8.cell 4
  have t8_5 : w8.cell? ⟨w5.heap.size, 5, none⟩ = some (.int .i64 x) := Y8.cell 5
  go_wp2_with fail
  refine (CH P8).mono ?_
  rintro e w9 ⟨rfl, b9⟩
  have T9 := T8.call b9
  have X9 := X8.call b9
  have Y9 := Y8.call b9
  have Q9 := Q8.below b9
  have P9 := P8.below b9
  clear T8 X8 Y8 Q8 P8 b9 t8_0 t8_1 t8_2 t8_3 t8_4 t8_5
  have p9_0 : w9.cell? ⟨w.heap.size, 0, none⟩ = some (.int .i64 (s 0)) := T9.b1.cell 0
  have p9_1 : w9.cell? ⟨w.heap.size, 1, none⟩ = some (.int .i64 (s 1)) := T9.b1.cell 1
  have p9_2 : w9.cell? ⟨w.heap.size, 2, none⟩ = some (.int .i64 (s 2)) := T9.b1.cell 2
  have p9_3 : w9.cell? ⟨w.heap.size, 3, none⟩ = some (.int .i64 (s 3)) := T9.b1.cell 3
  have p9_4 : w9.cell? ⟨w.heap.size, 4, none⟩ = some (.int .i64 (s 4)) := T9.b1.cell 4
  have p9_5 : w9.cell? ⟨w.heap.size, 5, none⟩ = some (.int .i64 (s 5)) := T9.b1.cell 5
  have p9_6 : w9.cell? ⟨w.heap.size, 6, none⟩ = some (.int .i64 (s 6)) := T9.b1.cell 6
  have p9_7 : w9.cell? ⟨w.heap.size, 7, none⟩ = some (.int .i64 (s 7)) := T9.b1.cell 7
  have p9_8 : w9.cell? ⟨w.heap.size, 8, none⟩ = some (.int .i64 (s 8)) := T9.b1.cell 8
  go_wp2_with fail
  refine (CT _).mono ?_
  rintro e w10 ⟨rfl, b10⟩
  have T10 := T9.call b10
  have X10 := X9.call b10
  have Y10 := Y9.call b10
  have Q10 := Q9.below b10
  have P10 := P9.below b10
  clear T9 X9 Y9 Q9 P9 b10 p9_0 p9_1 p9_2 p9_3 p9_4 p9_5 p9_6 p9_7 p9_8
  go_wp2_with fail
  refine (CI _).mono ?_
  rintro e w11 ⟨a3, k3, rfl, r3, b11⟩
  have T11 := T10.call b11
  have X11 := X10.call b11
  have Y11 := Y10.call b11
  have Q11 := Q10.below b11
  have P11 := P10.below b11
  clear T10 X10 Y10 Q10 P10 b11
  have bA : Below w11.heap.size w11 (w11.alloc (.cells #[.int .i64 c, .slice a3 n k3, .slice none 0 0, .slice none 0 0, .int .i64 0, .int .i64 x] 39)) := (Below.refl _ _).alloc (Nat.le_refl _) _
  have Z12 : Box (w11.alloc (.cells #[.int .i64 c, .slice a3 n k3, .slice none 0 0, .slice none 0 0, .int .i64 0, .int .i64 x] 39)) w11.heap.size #[.int .i64 c, .slice a3 n k3, .slice none 0 0, .slice none 0 0, .int .i64 0, .int .i64 x] 39 := box_new _ _ _
  go_upto_region 14 with fail
  obtain ⟨w12, hw12⟩ : ∃ y, y = w11.alloc (.cells #[.int .i64 c, .slice a3 n k3, .slice none 0 0, .slice none 0 0, .int .i64 0, .int .i64 x] 39) := ⟨_, rfl⟩
  rw [← hw12] at bA Z12 ⊢
  have T12 := T11.call bA
  have X12 := X11.call bA
  have Y12 := Y11.call bA
  have Q12 := Q11.below bA
  have P12 := P11.below bA
  have R12 := r3.below bA
  clear T11 X11 Y11 Q11 P11 r3 bA hw12
  have s12_0 : w12.cell? ⟨w2.heap.size, 0, none⟩ = some (.int .i64 c) := X12.cell 0
  have s12_1 : w12.cell? ⟨w2.heap.size, 1, none⟩ = some (.slice a1 n k1) := X12.cell 1
  have s12_2 : w12.cell? ⟨w2.heap.size, 2, none⟩ = some (.slice none 0 0) := X12.cell 2
  have s12_3 : w12.cell? ⟨w2.heap.size, 3, none⟩ = some (.slice none 0 0) := X12.cell 3
  have s12_4 : w12.cell? ⟨w2.heap.size, 4, none⟩ = some (.int .i64 0) := X12.cell 4
  have s12_5 : w12.cell? ⟨w2.heap.size, 5, none⟩ = some (.int .i64 x) := X12.cell 5
  have t12_0 : w12.cell? ⟨w11.heap.size, 0, none⟩ = some (.int .i64 c) := Z12.cell 0
  have t12_1 : w12.cell? ⟨w11.heap.size, 1, none⟩ = some (.slice a3 n k3) := Z12.cell 1
  have t12_2 : w12.cell? ⟨w11.heap.size, 2, none⟩ = some (.slice none 0 0) := Z12.cell 2
  have t12_3 : w12.cell? ⟨w11.heap.size, 3, none⟩ = some (.slice none 0 0) := Z12.cell 3
  have t12_4 : w12.cell? ⟨w11.heap.size, 4, none⟩ = some (.int .i64 0) := Z12.cell 4
  have t12_5 : w12.cell? ⟨w11.heap.size, 5, none⟩ = some (.int .i64 x) := Z12.cell 5
  go_wp2_with fail
  refine (CE R12 Q12).mono ?_
  rintro e w13 ⟨rfl, b13⟩
  have T13 := T12.call b13
  have Y13 := Y12.call b13
  have P13 := P12.below b13
  clear T12 X12 Y12 Q12 P12 R12 Z12 b13 s12_0 s12_1 s12_2 s12_3 s12_4 s12_5 t12_0 t12_1 t12_2 t12_3 t12_4 t12_5
  have t13_0 : w13.cell? ⟨w5.heap.size, 0, none⟩ = some (.int .i64 c) := Y13.cell 0
  have t13_1 : w13.cell? ⟨w5.heap.size, 1, none⟩ = some (.slice a2 n k2) := Y13.cell 1
  have t13_2 : w13.cell? ⟨w5.heap.size, 2, none⟩ = some (.slice none 0 0) := Y13.cell 2
  have t13_3 : w13.cell? ⟨w5.heap.size, 3, none⟩ = some (.slice none 0 0) := Y13.cell 3
  have t13_4 : w13.cell? ⟨w5.heap.size, 4, none⟩ = some (.int .i64 0) := Y13.cell 4
  have t13_5 : w13.cell? ⟨w5.heap.size, 5, none⟩ = some (.int .i64 x) := Y13.cell 5
  go_wp2_with fail
  refine (CH P13).mono ?_
  rintro e w14 ⟨rfl, b14⟩
  have HB : Hid (Below w.heap.size w w14) := (T13.call b14).bel
  clear T13 Y13 P13 b14 t13_0 t13_1 t13_2 t13_3 t13_4 t13_5
  go_wp2
  go_ret
  exact ⟨rfl, HB.out⟩

set_option maxRecDepth 100000 in
theorem fnExactNewDesk_lifted (os : Os) (started : os.Started) (H : Type) (enc : TypeId × Value → H) :
    ReturnsInHanded {} Try.checked os 4 .any (Rows.fnExactNewDeskSpec.pre6 enc Try.prog Try.f4 Rows.fnExactNewDeskRow.domain false) (Rows.fnExactNewDeskSpec.post enc Try.prog Try.f4 false true false false) := by
  refine returnsInHanded_of_change (C := Try.checked) frame_own started (by kernel_rfl) Try.func4
    (ChangeSpec.witness6 (enc := enc) (C := Try.checked) false ⟨#[], #[.agg #[.int .i64 0, .int .i64 0, .int .i64 0, .int .i64 0, .int .i64 0, .int .i64 0, .int .i64 0, .int .i64 0, .int .i64 0]], []⟩ 8 (by kernel_rfl) (by kernel_rfl) (by kernel_rfl) (by kernel_rfl)) ?_
  intro W base args ds gs before hval0 hW hcnd _
  have hval : ∀ (j : Nat) t v, Try.f4.params[j]? = some t → args[j]? = some v → Value.okWide Try.prog W .any base t v := hval0
  have hW' := hW
  obtain ⟨p, q, hA0, hV, rfl, hfz, hnd⟩ := hW
  have hA : DataW.TrodAll enc Try.prog W 0 (fun _ => true) true Try.f4.params.toList args.toList ds p := hA0
  rw [Try.params4] at hA hval
  obtain ⟨v0, vs0, d0, ds0, p0, q0, hargs, rfl, rfl, h0, r0⟩ := trodAll_cons hA
  obtain ⟨rfl, rfl, rfl⟩ := trodAll_nil r0
  obtain rfl : args = #[v0] := by cases args; simp_all
  obtain ⟨rfl, rfl⟩ := trodVars_none hV
  have k0 := h0
  have lt0 : ∀ x ∈ p0, x.block < W.heap.size := by obtain ⟨m, hm⟩ := k0; exact DataW.trod_lt m _ _ _ hm
  obtain ⟨s0, rfl, hs0⟩ := shape_of_trod Try.underlying23 Try.underlying2 (by kernel_rfl) (by kernel_rfl) (fun i hi => by
    match i, hi with
    | 0, _ => exact ⟨_, rfl, rfl, rfl⟩
    | 1, _ => exact ⟨_, rfl, rfl, rfl⟩
    | 2, _ => exact ⟨_, rfl, rfl, rfl⟩
    | 3, _ => exact ⟨_, rfl, rfl, rfl⟩
    | 4, _ => exact ⟨_, rfl, rfl, rfl⟩
    | 5, _ => exact ⟨_, rfl, rfl, rfl⟩
    | 6, _ => exact ⟨_, rfl, rfl, rfl⟩
    | 7, _ => exact ⟨_, rfl, rfl, rfl⟩
    | 8, _ => exact ⟨_, rfl, rfl, rfl⟩) (hval 0 23 v0 rfl rfl) h0
  clear hA0 hval0
  refine (fnExactNewDesk_walk s0 W hs0).mono fun e W' ⟨he, bel⟩ => ?_
  subst he
  exact ⟨_, rfl, _, _, _, [], _, [], hW', trodAll_mk1 (shut_bool Try.underlying4 _), (trodAll_cons_mk (Below.trod frame_laid (by kernel_rfl) (of_decide_eq_true (by kernel_rfl)) k0 bel lt0) trodAll_mk0), rfl, bel.frame _, fun h => by cases h⟩

theorem fnExactNewDesk_proved : Rows.FnExactNewDeskSaid :=
  OpenClaim.holds_of_wide 4 Try.f4 rfl rfl rfl rfl rfl rfl rfl ⟨rfl, rfl, rfl, rfl, rfl⟩ rfl rfl rfl rfl rfl (by kernel_rfl) Try.func4 (by kernel_rfl)
    (of_decide_eq_true (by kernel_rfl)) (by unfold Func.isWrapper; first | (rw [if_pos (by decide +kernel)]; kernel_rfl) | (rw [if_neg (by decide +kernel)]; exact ⟨rfl, rfl⟩))
    (fun os started H enc _ => fnExactNewDesk_lifted os started H enc)
#print axioms fnExactNewDesk_proved
end Go.Proofs.Ytbdiedcmhggnjaa
