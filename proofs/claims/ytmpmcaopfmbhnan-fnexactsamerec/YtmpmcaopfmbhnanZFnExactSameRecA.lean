/- For every two records the program's SameRec answers as the specification's does and writes into nothing that it is handed: the law FnExactSameRec returns true at every input, and changes nothing that was there. No condition. -/
import Derived.Test.YtmpmcaopfmbhnanCells
import Derived.Test.YtmpmcaopfmbhnanWName
import Derived.Test.YtmpmcaopfmbhnanWRowF
import Derived.Test.YtmpmcaopfmbhnanWShape
import Derived.Test.YtmpmcaopfmbhnanProg
import Derived.Test.YtmpmcaopfmbhnanBits
import Derived.WalkLawsBesides
import Derived.Test.YtmpmcaopfmbhnanColDefs
import Derived.Test.YtmpmcaopfmbhnanWColA
import Derived.Test.YtmpmcaopfmbhnanWInts
import Derived.Lib.QuietBelow
import Derived.Test.YtmpmcaopfmbhnanLay7
import Derived.Deep.DeepCutAuto
import Derived.Test.YtmpmcaopfmbhnanRows
import Derived.Test.YtmpmcaopfmbhnanOpensD
import Derived.Test.YtmpmcaopfmbhnanWTo2
import Derived.Test.YtmpmcaopfmbhnanWEq2
import Derived.Test.YtmpmcaopfmbhnanWSzD2
import Derived.Deep.RegionLaw
namespace Go.Proofs.Ytmpmcaopfmbhnan
open Go.RowKit F256
set_option linter.unusedVariables false

def InP (x a b : Int) : Prop := a ≤ x ∧ x ≤ b
/-- numbers from 0 to most, no two alike -/
def ApartP (n : Nat) (g : Nat → Int) (most : Int) : Prop := ∀ i, i < n → InP (g i) 0 most ∧ ∀ t, t < i → g t ≠ g i
def ItemP (s : Nat → Int) (r : RecD) : Prop :=
  (r.length = -1 ∧ r.data.1 = 0 ∧ r.rows.1 = 0) ∨
  (r.length ≠ -1 ∧ 1 ≤ r.length ∧ r.length ≤ 3 * (s 2 * 4) ∧
    ((0 < r.data.1 ∧ (r.data.1 : Int) = r.length ∧ r.rows.1 = 0) ∨
     (r.data.1 = 0 ∧ (r.rows.1 : Int) = (r.length + s 2 * 4 - 1) / (s 2 * 4) ∧ ApartP r.rows.1 r.rows.2 (s 4 - 1))))
def MoveP (s : Nat → Int) (r : RecD) : Prop := InP r.group 0 (s 0 - 1) ∧ InP r.row 0 (s 4 - 1) ∧ (r.data.1 : Int) = s 2 * 4 ∧ (r.delta.1 : Int) = s 2 * 4
def DoneP (s : Nat → Int) (r : RecD) : Prop := InP r.group 0 (s 0 + s 1 - 1)
def WeightsP (s : Nat → Int) (r : RecD) : Prop := (r.delta.1 : Int) = s 0 + s 1 ∧ r.delta.2 r.group.toNat = 0 ∧ ∀ i, i < r.rows.1 → r.delta.2 (r.rows.2 i).toNat ≠ 0
def ShareP (s : Nat → Int) (r : RecD) : Prop := InP r.group 0 (s 0 + s 1 - 1) ∧ InP r.row 0 (s 4 - 1) ∧ RiseP r.rows.1 r.rows.2 (s 0 + s 1 - 1) ∧ (r.data.1 : Int) = s 2 * 4 ∧ WeightsP s r
def KindP (s : Nat → Int) (r : RecD) : Prop := (r.kind = 1 ∧ ItemP s r) ∨ (r.kind = 2 ∧ MoveP s r) ∨ (r.kind = 3 ∧ DoneP s r) ∨ (r.kind = 4 ∧ ShareP s r)
def noName (r : RecD) : Prop := r.name = ByteArray.empty ∧ r.length = 0
def BlankP (r : RecD) : Prop :=
  (r.kind = 1 ∧ r.group = 0 ∧ r.row = 0 ∧ r.delta.1 = 0) ∨ (r.kind = 2 ∧ noName r ∧ r.rows.1 = 0) ∨
  (r.kind = 3 ∧ noName r ∧ r.row = 0 ∧ r.rows.1 = 0 ∧ r.data.1 = 0 ∧ r.delta.1 = 0) ∨ (r.kind = 4 ∧ noName r)
def NamedP (r : RecD) : Prop := r.kind = 1 → OkName r.name
/-- codes asked one behind the other: the first that falls is told; behind them all K -/
def Stair : List (Prop × Int) → (Int → Prop) → Int → Prop
  | [], K, x => K x
  | (p, c) :: l, K, x => (¬ p ∧ x = c) ∨ (p ∧ Stair l K x)
theorem Stair.fall {p : Prop} {c : Int} {l : List (Prop × Int)} {K : Int → Prop} (h : ¬ p) : Stair ((p, c) :: l) K c := .inl ⟨h, rfl⟩
theorem Stair.pass {p : Prop} {c : Int} {l : List (Prop × Int)} {K : Int → Prop} {x : Int} (h : p) (k : Stair l K x) : Stair ((p, c) :: l) K x := .inr ⟨h, k⟩
theorem Stair.last {K : Int → Prop} {x : Int} (h : K x) : Stair [] K x := h
theorem Stair.one {K : Int → Prop} (hK : ∀ x y, K x → K y → x = y) : ∀ (l : List (Prop × Int)) {x y : Int}, Stair l K x → Stair l K y → x = y
  | [], x, y, h, k => hK x y h k
  | (p, c) :: l, x, y, h, k => by
    rcases h with ⟨h1, h2⟩ | ⟨h1, h2⟩ <;> rcases k with ⟨k1, k2⟩ | ⟨k1, k2⟩
    · rw [h2, k2]
    · exact absurd k1 h1
    · exact absurd h1 k1
    · exact Stair.one hK l h2 k2
def isZ (x : Int) : Prop := x = 0
theorem isZ_one (x y : Int) (h : isZ x) (k : isZ y) : x = y := by rw [show x = 0 from h, show y = 0 from k]
/-- what RecFault tells -/
def RecAns (s : Nat → Int) (r : RecD) (x : Int) : Prop :=
  Stair [(OkShape s, 3), (InP r.kind 1 4, 5), (InP r.seq 1 1000000000, 3), (NamedP r, 5), (KindP s r, 3), (BlankP r, 1)] isZ x
theorem RecAns.one {s : Nat → Int} {r : RecD} {x y : Int} (h : RecAns s r x) (k : RecAns s r y) : x = y := Stair.one isZ_one _ h k

/-- groups, drives and blocks as the shape has them -/
def BlockP (b : BlockD) : Prop := InP b.stamp 0 1000000000 ∧ b.bytes.1 = 4
def BlocksP (s : Nat → Int) (p : Nat × (Nat → BlockD)) : Prop := (p.1 : Int) = s 4 ∧ ∀ i, i < p.1 → BlockP (p.2 i)
def DrivesP (s : Nat → Int) (p : Nat × (Nat → DriveD)) : Prop := (p.1 : Int) = s 2 + s 3 ∧ ∀ i, i < p.1 → BlocksP s (p.2 i).blocks
def BuiltP (d : WorldD) : Prop := (d.groups.1 : Int) = d.shape 0 + d.shape 1 ∧ ∀ i, i < d.groups.1 → DrivesP d.shape (d.groups.2 i)
def OnP (d : WorldD) : Prop := ApartP d.on.1 d.on.2 (d.shape 0 + d.shape 1 - 1) ∧ (d.on.1 : Int) ≤ d.shape 5 ∧ (d.down = true → d.on.1 = 0)
def FormP (d : WorldD) : Prop := BuiltP d ∧ OnP d ∧ d.tapes.1 = 2
def FewP (d : WorldD) : Prop := ∀ t, t < d.tapes.1 → (d.tapes.2 t).recs.1 ≤ 200
/-- the first record that has a fault -/
def RecsAns (s : Nat → Int) (n : Nat) (x : Nat → TapeD) (c : Int) : Prop :=
  (c = 0 ∧ ∀ t, t < n → ∀ i, i < (x t).recs.1 → RecAns s ((x t).recs.2 i) 0) ∨
  (c ≠ 0 ∧ ∃ t i, t < n ∧ i < (x t).recs.1 ∧ RecAns s ((x t).recs.2 i) c ∧ (∀ k, k < i → RecAns s ((x t).recs.2 k) 0) ∧ ∀ u, u < t → ∀ k, k < (x u).recs.1 → RecAns s ((x u).recs.2 k) 0)
theorem RecsAns.one {s : Nat → Int} {n : Nat} {x : Nat → TapeD} {c e : Int} (h : RecsAns s n x c) (k : RecsAns s n x e) : c = e := by
  rcases h with ⟨rfl, h⟩ | ⟨hc, t, i, ht, hi, hr, hb, hu⟩ <;> rcases k with ⟨rfl, k⟩ | ⟨kc, t', i', kt, ki, kr, kb, ku⟩
  · rfl
  · exact absurd (kr.one (h t' kt i' ki)) kc
  · exact absurd (hr.one (k t ht i hi)) hc
  · rcases Nat.lt_trichotomy t t' with c1 | c1 | c1
    · exact absurd (hr.one (ku t c1 i hi)) hc
    · subst c1
      rcases Nat.lt_trichotomy i i' with c2 | c2 | c2
      · exact absurd (hr.one (kb i c2)) hc
      · subst c2; exact hr.one kr
      · exact absurd (kr.one (hb i' c2)) kc
    · exact absurd (kr.one (hu t' c1 i' ki)) kc
def CleanP (d : WorldD) : Prop := ∀ t, t < d.tapes.1 → (d.tapes.2 t).wiped = true → (d.tapes.2 t).recs.1 = 0
def CountP (d : WorldD) : Prop := InP d.writes 0 1000000000 ∧ InP d.stop (-1) 1000000000
/-- what WorldFault tells -/
def WldAns (d : WorldD) (x : Int) : Prop :=
  Stair [(OkShape d.shape, 3), (FormP d, 1), (FewP d, 2)] (fun x => (x ≠ 0 ∧ RecsAns d.shape d.tapes.1 d.tapes.2 x) ∨ (RecsAns d.shape d.tapes.1 d.tapes.2 0 ∧ Stair [(CleanP d, 1), (CountP d, 3)] isZ x)) x
theorem WldAns.one {d : WorldD} {x y : Int} (h : WldAns d x) (k : WldAns d y) : x = y := by
  refine Stair.one (fun x y h k => ?_) _ h k
  rcases h with ⟨h1, h2⟩ | ⟨h1, h2⟩ <;> rcases k with ⟨k1, k2⟩ | ⟨k1, k2⟩
  · exact h2.one k2
  · exact absurd (h2.one k1) h1
  · exact absurd (k2.one h1) k1
  · exact Stair.one isZ_one _ h2 k2
/-- a world without a fault -/
structure OkWorld (d : WorldD) : Prop where
  shape : OkShape d.shape
  form : FormP d
  few : FewP d
  recs : ∀ t, t < d.tapes.1 → ∀ i, i < (d.tapes.2 t).recs.1 → RecAns d.shape ((d.tapes.2 t).recs.2 i) 0
  clean : CleanP d
  count : CountP d
theorem WldAns.ok {d : WorldD} (h : WldAns d 0) : OkWorld d := by
  rcases h with ⟨_, h⟩ | ⟨h1, h⟩
  · omega
  rcases h with ⟨_, h⟩ | ⟨h2, h⟩
  · omega
  rcases h with ⟨_, h⟩ | ⟨h3, h⟩
  · omega
  rcases h with ⟨h, _⟩ | ⟨h4, h⟩
  · exact absurd rfl h
  rcases h with ⟨_, h⟩ | ⟨h5, h⟩
  · omega
  rcases h with ⟨_, h⟩ | ⟨h6, h⟩
  · omega
  rcases h4 with ⟨_, h4⟩ | ⟨h4, _⟩
  · exact ⟨h1, h2, h3, h4, h5, h6⟩
  · exact absurd rfl h4
theorem exB (P : Prop) : ∃ b : Bool, b = true ↔ P := by
  by_cases h : P
  · exact ⟨true, by simp [h]⟩
  · exact ⟨false, by simp [h]⟩
end Go.Proofs.Ytmpmcaopfmbhnan

namespace Go.Proofs.Ytmpmcaopfmbhnan
open Go.RowKit F256

/-- a result with a number in it -/
def intR (code value : Int) : Value := .agg #[.int .i64 code, .int .i64 value]

end Go.Proofs.Ytmpmcaopfmbhnan

namespace Go.Proofs.Ytmpmcaopfmbhnan
open Go.RowKit F256
set_option linter.unusedVariables false
set_option linter.unusedSimpArgs false

end Go.Proofs.Ytmpmcaopfmbhnan

namespace Go.Proofs.Ytmpmcaopfmbhnan
open Go.RowKit F256
set_option linter.unusedVariables false

theorem q_below {f : Nat} {args : Array Value} {W : World} {v : Value} (h : ∀ w', Below W.heap.size W w' → Calls Try.prog f args w' fun e w'' => e = .returned v ∧ Below w'.heap.size w' w'') :
    ∀ d os, Calls Try.prog f args (Go.Sort.grow (redrawn W d) os) fun e w'' => e = .returned v ∧ ∃ p : Regrown, w'' = Go.Sort.grow (redrawn W p.d) p.os := fun d os => Calls.regrown_of (h _ (below_regrown W d os))
theorem q_same {f : Nat} {args : Array Value} {W : World} {v : Value} (h : ∀ w', Calls Try.prog f args w' fun e w'' => e = .returned v ∧ w'' = w') :
    ∀ d os, Calls Try.prog f args (Go.Sort.grow (redrawn W d) os) fun e w'' => e = .returned v ∧ ∃ p : Regrown, w'' = Go.Sort.grow (redrawn W p.d) p.os :=
  q_below fun w' _ => (h w').mono fun e w'' ⟨h1, h2⟩ => ⟨h1, by rw [h2]; exact Below.refl _ _⟩
theorem det_b {f : Nat} {args : Array Value} {w : World} {P : Prop} {b : Bool} (h : Calls Try.prog f args w (BoolP P w)) (hb : b = true ↔ P) : Calls Try.prog f args w fun e w' => e = .returned (.bool b) ∧ Below w.heap.size w w' :=
  h.mono fun e w' ⟨b', h1, h2, h3⟩ => ⟨by rw [h1]; congr 2; cases b <;> cases b' <;> simp_all, h3⟩
theorem below_rg {W w' : World} (h : ∃ p : Regrown, w' = Go.Sort.grow (redrawn W p.d) p.os) : Below W.heap.size W w' := by
  obtain ⟨p, rfl⟩ := h
  exact below_regrown W p.d p.os
/-- the walk in the text's order, behind a wall (what is behind it is not looked into) -/
structure WQ (P : Program) (ops : Array Oper) (C : World → Prop) (Q : Act → Prop) (l : List Oper) (a : Act) : Prop where
  out : wpQuiet P ops C Q l a
theorem WQ.skip {P : Program} {ops : Array Oper} {C : World → Prop} {Q : Act → Prop} {a : Act} {o : Oper} {rest : List Oper} (hw : Region.wanted o (yielded ops a.tmps) = false)
    (h : ∀ K : Act → Prop, (∀ a, WQ P ops C Q rest a → K a) → K (a.put o.dst undef)) : WQ P ops C Q (o :: rest) a := by
  refine ⟨?_⟩
  unfold wpQuiet
  rw [if_neg (by rw [hw]; decide)]
  exact (h _ (fun _ h => h)).out
theorem WQ.want {P : Program} {ops : Array Oper} {C : World → Prop} {Q : Act → Prop} {a : Act} {o : Oper} {rest : List Oper} (hw : Region.wanted o (yielded ops a.tmps) = true)
    (h : ∀ K : Act → Prop, (∀ a, WQ P ops C Q rest a → K a) → o.quiet P a C K) : WQ P ops C Q (o :: rest) a := by
  refine ⟨?_⟩
  unfold wpQuiet
  rw [if_pos hw]
  exact Oper.quiet_mono (fun a h => h.out) (h _ (fun _ h => h))
theorem WQ.nil {P : Program} {ops : Array Oper} {C : World → Prop} {Q : Act → Prop} {a : Act} (h : Q a) : WQ P ops C Q [] a := ⟨wpQuiet_nil h⟩
theorem WQ.region {P : Program} {id : Nat} {Q : Exit → Act → World → Prop} {a : Act} {w : World} {l : List Oper} (hm : P.follows .mixedOrders = true) (hB : Region.lexB .any l.toArray = true)
    (h : WQ P l.toArray (fun w' => ∃ p : Regrown, w' = Go.Sort.grow (redrawn w p.d) p.os) (fun a' => ∀ w', (∃ p : Regrown, w' = Go.Sort.grow (redrawn w p.d) p.os) → Q .normal a' w') l a) : (Code.region id l.toArray true).wp P Q a w := wp_region_quiet_below hm hB h.out
end Go.Proofs.Ytmpmcaopfmbhnan

namespace Go.Proofs.Ytmpmcaopfmbhnan
open Go.RowKit F256
set_option linter.unusedVariables false
set_option linter.unusedSimpArgs false
def SameI (n m : Nat) (f g : Nat → Int) : Prop := n = m ∧ ∀ i, i < n → f i = g i
set_option maxHeartbeats 1000000 in
theorem l6Nums_any (v1 v2 : Value) (n m : Nat) (f g : Nat → Int) (h1 h2 : Nat) (w : World) (r1 : RdI w h1 v1 n f) (r2 : RdI w h2 v2 m g) :
    Calls Try.prog 11 #[v1, v2] w (BoolP (SameI n m f g) w) := by
  obtain ⟨ao, cap, rfl, hm, hc⟩ := r1
  obtain ⟨ao2, cap2, rfl, hm2, hc2⟩ := r2
  unfold maxLen at hm hm2
  by_cases hnm : n = m
  · subst hnm
    go_enter Try.func11, Try.ntmps11
    go_wp2
    go_loopw [5] (fun i wr => ∃ k : Nat, k ≤ n ∧ i = .int .i64 k ∧ (∀ i, i < k → f i = g i) ∧ ∃ m, wr = w.drewN m) (fun i _ => n - (intOf i).toNat)
    case atStart => exact ⟨0, Nat.zero_le _, rfl, fun i hi => by omega, 0, rfl⟩
    case round =>
      obtain ⟨k, hk, rfl, hall, q, rfl⟩ := hrel
      have HALL : Hid (∀ i, i < k → f i = g i) := hall
      clear hall
      by_cases hlt : k < n
      · obtain ⟨b, off, rfl, hblt, hcell⟩ := hc (by omega)
        obtain ⟨b2, off2, rfl, hblt2, hcell2⟩ := hc2 (by omega)
        have hck : w.cell? ⟨b, off + k, none⟩ = some (.int .i64 (f k)) := hcell k hlt
        have hck2 : w.cell? ⟨b2, off2 + k, none⟩ = some (.int .i64 (g k)) := hcell2 k hlt
        obtain ⟨x, hx⟩ : ∃ x, x = f k := ⟨_, rfl⟩
        obtain ⟨y, hy⟩ : ∃ y, y = g k := ⟨_, rfl⟩
        have HX : Hid (x = f k) := hx
        have HY : Hid (y = g k) := hy
        rw [← hx] at hck
        rw [← hy] at hck2
        clear hc hc2 hcell hcell2 hx hy
        by_cases heq : x = y
        · subst heq
          go_wp2
          go_quiet (fail)
          go_wp2
          go_roundw
          case rel => exact ⟨k + 1, by omega, by go_num, fun i hi => by
                        by_cases c : i = k
                        · rw [c, ← HX.out, ← HY.out]
                        · exact HALL.out i (by omega), _, rfl⟩
          case measure => simp [intOf]; omega
        · have tn : (x != y) = true := by simp; omega
          go_wp2
          go_quiet (fail)
          go_wp2
          go_ret
          exact boolNo rfl (fun h => absurd (h.2 k hlt) (by rw [← HX.out, ← HY.out]; exact heq)) (below_drewN (below_drewN (Below.refl _ _) _) _)
      · have hkn : k = n := by omega
        subst hkn
        go_wp2
        go_ret
        exact boolYes rfl ⟨rfl, HALL.out⟩ (below_drewN (Below.refl _ _) _)
  · have tn : ((n : Int) != (m : Int)) = true := by simp; omega
    clear hc hc2
    go_enter Try.func11, Try.ntmps11
    go_wp2
    go_ret
    exact boolNo rfl (fun h => hnm h.1) (Below.refl _ _)

set_option maxHeartbeats 1000000 in
theorem equalB_any (v1 v2 : Value) (n m : Nat) (f g : Nat → Nat) (h1 h2 : Nat) (w : World) (r1 : Rd w h1 v1 n f) (r2 : Rd w h2 v2 m g) :
    Calls Try.prog 16 #[v1, v2] w (BoolP (SameP n m f g) w) := by
  obtain ⟨ao, cap, rfl, hm, hc⟩ := r1
  obtain ⟨ao2, cap2, rfl, hm2, hc2⟩ := r2
  unfold maxLen at hm hm2
  by_cases hnm : n = m
  · subst hnm
    go_enter Try.func16, Try.ntmps16
    go_wp2
    go_loopw [13] (fun i wr => ∃ k : Nat, k ≤ n ∧ i = .int .i64 k ∧ (∀ i, i < k → f i = g i) ∧ ∃ m, wr = w.drewN m) (fun i _ => n - (intOf i).toNat)
    case atStart => exact ⟨0, Nat.zero_le _, rfl, fun i hi => by omega, 0, rfl⟩
    case round =>
      obtain ⟨k, hk, rfl, hall, q, rfl⟩ := hrel
      have HALL : Hid (∀ i, i < k → f i = g i) := hall
      clear hall
      by_cases hlt : k < n
      · obtain ⟨b, off, rfl, hblt, hcell⟩ := hc (by omega)
        obtain ⟨b2, off2, rfl, hblt2, hcell2⟩ := hc2 (by omega)
        have hck : w.cell? ⟨b, off + k, none⟩ = some (.int .u8 (f k)) := hcell k hlt
        have hck2 : w.cell? ⟨b2, off2 + k, none⟩ = some (.int .u8 (g k)) := hcell2 k hlt
        obtain ⟨x, hx⟩ : ∃ x, x = f k := ⟨_, rfl⟩
        obtain ⟨y, hy⟩ : ∃ y, y = g k := ⟨_, rfl⟩
        have HX : Hid (x = f k) := hx
        have HY : Hid (y = g k) := hy
        rw [← hx] at hck
        rw [← hy] at hck2
        clear hc hc2 hcell hcell2 hx hy
        by_cases heq : x = y
        · subst heq
          go_wp2
          go_quiet (fail)
          go_wp2
          go_roundw
          case rel => exact ⟨k + 1, by omega, by go_num, fun i hi => by
                        by_cases c : i = k
                        · rw [c, ← HX.out, ← HY.out]
                        · exact HALL.out i (by omega), _, rfl⟩
          case measure => simp [intOf]; omega
        · have tn : ((x : Int) != (y : Int)) = true := by simp; omega
          go_wp2
          go_quiet (fail)
          go_wp2
          go_ret
          exact boolNo rfl (fun h => absurd (h.2 k hlt) (by rw [← HX.out, ← HY.out]; exact heq)) (below_drewN (below_drewN (Below.refl _ _) _) _)
      · have hkn : k = n := by omega
        subst hkn
        go_wp2
        go_ret
        exact boolYes rfl ⟨rfl, HALL.out⟩ (below_drewN (Below.refl _ _) _)
  · have tn : ((n : Int) != (m : Int)) = true := by simp; omega
    clear hc hc2
    go_enter Try.func16, Try.ntmps16
    go_wp2
    go_ret
    exact boolNo rfl (fun h => hnm h.1) (Below.refl _ _)

set_option maxHeartbeats 1000000 in
theorem equalI_any (v1 v2 : Value) (n m : Nat) (f g : Nat → Int) (h1 h2 : Nat) (w : World) (r1 : RdI w h1 v1 n f) (r2 : RdI w h2 v2 m g) :
    Calls Try.prog 15 #[v1, v2] w (BoolP (SameI n m f g) w) := by
  obtain ⟨ao, cap, rfl, hm, hc⟩ := r1
  obtain ⟨ao2, cap2, rfl, hm2, hc2⟩ := r2
  unfold maxLen at hm hm2
  by_cases hnm : n = m
  · subst hnm
    go_enter Try.func15, Try.ntmps15
    go_wp2
    go_loopw [13] (fun i wr => ∃ k : Nat, k ≤ n ∧ i = .int .i64 k ∧ (∀ i, i < k → f i = g i) ∧ ∃ m, wr = w.drewN m) (fun i _ => n - (intOf i).toNat)
    case atStart => exact ⟨0, Nat.zero_le _, rfl, fun i hi => by omega, 0, rfl⟩
    case round =>
      obtain ⟨k, hk, rfl, hall, q, rfl⟩ := hrel
      have HALL : Hid (∀ i, i < k → f i = g i) := hall
      clear hall
      by_cases hlt : k < n
      · obtain ⟨b, off, rfl, hblt, hcell⟩ := hc (by omega)
        obtain ⟨b2, off2, rfl, hblt2, hcell2⟩ := hc2 (by omega)
        have hck : w.cell? ⟨b, off + k, none⟩ = some (.int .i64 (f k)) := hcell k hlt
        have hck2 : w.cell? ⟨b2, off2 + k, none⟩ = some (.int .i64 (g k)) := hcell2 k hlt
        obtain ⟨x, hx⟩ : ∃ x, x = f k := ⟨_, rfl⟩
        obtain ⟨y, hy⟩ : ∃ y, y = g k := ⟨_, rfl⟩
        have HX : Hid (x = f k) := hx
        have HY : Hid (y = g k) := hy
        rw [← hx] at hck
        rw [← hy] at hck2
        clear hc hc2 hcell hcell2 hx hy
        by_cases heq : x = y
        · subst heq
          go_wp2
          go_quiet (fail)
          go_wp2
          go_roundw
          case rel => exact ⟨k + 1, by omega, by go_num, fun i hi => by
                        by_cases c : i = k
                        · rw [c, ← HX.out, ← HY.out]
                        · exact HALL.out i (by omega), _, rfl⟩
          case measure => simp [intOf]; omega
        · have tn : (x != y) = true := by simp; omega
          go_wp2
          go_quiet (fail)
          go_wp2
          go_ret
          exact boolNo rfl (fun h => absurd (h.2 k hlt) (by rw [← HX.out, ← HY.out]; exact heq)) (below_drewN (below_drewN (Below.refl _ _) _) _)
      · have hkn : k = n := by omega
        subst hkn
        go_wp2
        go_ret
        exact boolYes rfl ⟨rfl, HALL.out⟩ (below_drewN (Below.refl _ _) _)
  · have tn : ((n : Int) != (m : Int)) = true := by simp; omega
    clear hc hc2
    go_enter Try.func15, Try.ntmps15
    go_wp2
    go_ret
    exact boolNo rfl (fun h => hnm h.1) (Below.refl _ _)

end Go.Proofs.Ytmpmcaopfmbhnan

namespace Go.Proofs.Ytmpmcaopfmbhnan
open Go.RowKit F256
set_option linter.unusedVariables false
set_option linter.unusedSimpArgs false
theorem toList_inj {a b : ByteArray} : a.toList = b.toList ↔ a = b := by
  constructor
  · intro h
    rw [ByteArray.toList_eq, ByteArray.toList_eq] at h
    cases a
    cases b
    congr
    exact Array.toList_inj.1 h
  · intro h; rw [h]
/-- all fields alike -/
structure SameR (a b : RecD) : Prop where
  kind : a.kind = b.kind
  seq : a.seq = b.seq
  name : a.name = b.name
  length : a.length = b.length
  group : a.group = b.group
  row : a.row = b.row
  rows : SameI a.rows.1 b.rows.1 a.rows.2 b.rows.2
  data : SameP a.data.1 b.data.1 a.data.2 b.data.2
  delta : SameP a.delta.1 b.delta.1 a.delta.2 b.delta.2
set_option maxHeartbeats 8000000 in
set_option maxRecDepth 20000 in
theorem specSame_any (a b : RecD) (c1 c2 : List Value) (h1 h2 : Nat) (w : World) (r1 : layRec.rd w h1 a c1) (r2 : layRec.rd w h2 b c2) (u1 : h1 ≤ w.heap.size) (u2 : h2 ≤ w.heap.size) :
    Calls Try.prog 5 #[.agg c1.toArray, .agg c2.toArray] w (BoolP (SameR a b) w) := by
  obtain ⟨xo6, xc6, xo7, xc7, xo8, xc8, rfl, p6, p7, p8, -⟩ := Rec_rd r1
  obtain ⟨yo6, yc6, yo7, yc7, yo8, yc8, rfl, q6, q7, q8, -⟩ := Rec_rd r2
  obtain ⟨_, e, ⟨p6, _⟩, _⟩ := p6
  cases e
  obtain ⟨_, e, ⟨q6, _⟩, _⟩ := q6
  cases e
  obtain ⟨_, e, p7, _⟩ := p7
  cases e
  obtain ⟨_, e, q7, _⟩ := q7
  cases e
  obtain ⟨_, e, p8, _⟩ := p8
  cases e
  obtain ⟨_, e, q8, _⟩ := q8
  cases e
  clear r1 r2
  have T0 := two_newb w #[.int .i64 a.kind, .int .i64 a.seq, .string a.name, .int .i64 a.length, .int .i64 a.group, .int .i64 a.row, .slice xo6 a.rows.1 xc6, .slice xo7 a.data.1 xc7, .slice xo8 a.delta.1 xc8] #[.int .i64 b.kind, .int .i64 b.seq, .string b.name, .int .i64 b.length, .int .i64 b.group, .int .i64 b.row, .slice yo6 b.rows.1 yc6, .slice yo7 b.data.1 yc7, .slice yo8 b.delta.1 yc8] 28 28
  have HT0 : Hid (Two w ((w.alloc (.cells #[.int .i64 a.kind, .int .i64 a.seq, .string a.name, .int .i64 a.length, .int .i64 a.group, .int .i64 a.row, .slice xo6 a.rows.1 xc6, .slice xo7 a.data.1 xc7, .slice xo8 a.delta.1 xc8] 28)).alloc (.cells #[.int .i64 b.kind, .int .i64 b.seq, .string b.name, .int .i64 b.length, .int .i64 b.group, .int .i64 b.row, .slice yo6 b.rows.1 yc6, .slice yo7 b.data.1 yc7, .slice yo8 b.delta.1 yc8] 28)) #[.int .i64 a.kind, .int .i64 a.seq, .string a.name, .int .i64 a.length, .int .i64 a.group, .int .i64 a.row, .slice xo6 a.rows.1 xc6, .slice xo7 a.data.1 xc7, .slice xo8 a.delta.1 xc8] #[.int .i64 b.kind, .int .i64 b.seq, .string b.name, .int .i64 b.length, .int .i64 b.group, .int .i64 b.row, .slice yo6 b.rows.1 yc6, .slice yo7 b.data.1 yc7, .slice yo8 b.delta.1 yc8] 28 28) := T0
  obtain ⟨e0, he0⟩ : ∃ t, (a.kind == b.kind) = t := ⟨_, rfl⟩
  have HE0 : Hid (e0 = true ↔ a.kind = b.kind) := by show _ ↔ _; rw [← he0]; exact beq_iff_eq
  obtain ⟨e1, he1⟩ : ∃ t, (a.seq == b.seq) = t := ⟨_, rfl⟩
  have HE1 : Hid (e1 = true ↔ a.seq = b.seq) := by show _ ↔ _; rw [← he1]; exact beq_iff_eq
  obtain ⟨e2, he2⟩ : ∃ t, (a.name.toList == b.name.toList) = t := ⟨_, rfl⟩
  have HE2 : Hid (e2 = true ↔ a.name = b.name) := by show _ ↔ _; rw [← he2, beq_iff_eq]; exact toList_inj
  have he2' : decide (a.name.toList = b.name.toList) = e2 := by rw [← he2, Bool.eq_iff_iff]; simp
  obtain ⟨e3, he3⟩ : ∃ t, (a.length == b.length) = t := ⟨_, rfl⟩
  have HE3 : Hid (e3 = true ↔ a.length = b.length) := by show _ ↔ _; rw [← he3]; exact beq_iff_eq
  obtain ⟨e4, he4⟩ : ∃ t, (a.group == b.group) = t := ⟨_, rfl⟩
  have HE4 : Hid (e4 = true ↔ a.group = b.group) := by show _ ↔ _; rw [← he4]; exact beq_iff_eq
  obtain ⟨e5, he5⟩ : ∃ t, (a.row == b.row) = t := ⟨_, rfl⟩
  have HE5 : Hid (e5 = true ↔ a.row = b.row) := by show _ ↔ _; rw [← he5]; exact beq_iff_eq
  obtain ⟨t6, ht6⟩ := exB (SameI a.rows.1 b.rows.1 a.rows.2 b.rows.2)
  obtain ⟨t7, ht7⟩ := exB (SameP a.data.1 b.data.1 a.data.2 b.data.2)
  obtain ⟨t8, ht8⟩ := exB (SameP a.delta.1 b.delta.1 a.delta.2 b.delta.2)
  have C6 := fun (w' : World) (hb : Below w.heap.size w w') => det_b (l6Nums_any _ _ a.rows.1 b.rows.1 a.rows.2 b.rows.2 h1 h2 w' (p6.below hb u1) (q6.below hb u2)) ht6
  have C7 := fun (w' : World) (hb : Below w.heap.size w w') => det_b (l2Same_any _ _ a.data.1 b.data.1 a.data.2 b.data.2 h1 h2 w' (p7.below hb u1) (q7.below hb u2)) ht7
  have C8 := fun (w' : World) (hb : Below w.heap.size w w') => det_b (l2Same_any _ _ a.delta.1 b.delta.1 a.delta.2 b.delta.2 h1 h2 w' (p8.below hb u1) (q8.below hb u2)) ht8
  have HT6 : Hid (t6 = true ↔ SameI a.rows.1 b.rows.1 a.rows.2 b.rows.2) := ht6
  have HT7 : Hid (t7 = true ↔ SameP a.data.1 b.data.1 a.data.2 b.data.2) := ht7
  have HT8 : Hid (t8 = true ↔ SameP a.delta.1 b.delta.1 a.delta.2 b.delta.2) := ht8
  clear p6 p7 p8 q6 q7 q8 ht6 ht7 ht8
  go_enter Try.func5, Try.ntmps5
  cases e0 with
  | false =>
    go_wp2
    go_ret
    exact boolNo rfl (fun h => by have := HE0.out.2 h.kind; simp at this) HT0.out.bel
  | true =>
  cases e1 with
  | false =>
    go_wp2
    go_ret
    exact boolNo rfl (fun h => by have := HE1.out.2 h.seq; simp at this) HT0.out.bel
  | true =>
  cases e2 with
  | false =>
    go_wp2
    go_ret
    exact boolNo rfl (fun h => by have := HE2.out.2 h.name; simp at this) HT0.out.bel
  | true =>
  cases e3 with
  | false =>
    go_wp2
    go_ret
    exact boolNo rfl (fun h => by have := HE3.out.2 h.length; simp at this) HT0.out.bel
  | true =>
  cases e4 with
  | false =>
    go_wp2
    go_ret
    exact boolNo rfl (fun h => by have := HE4.out.2 h.group; simp at this) HT0.out.bel
  | true =>
  cases e5 with
  | false =>
    go_wp2
    go_ret
    exact boolNo rfl (fun h => by have := HE5.out.2 h.row; simp at this) HT0.out.bel
  | true =>
  go_wp2_with fail
  refine (C6 _ HT0.out.bel).mono ?_
  rintro e w6 ⟨rfl, b6⟩
  have T6 := HT0.out.call b6
  cases t6 with
  | false =>
    have HB : Hid (Below w.heap.size w w6) := T6.bel
    clear T6 b6
    go_wp2
    go_ret
    exact boolNo rfl (fun h => by have := HT6.out.2 h.rows; simp at this) HB.out
  | true =>
  have x7 : w6.cell? ⟨w.heap.size, 7, none⟩ = some (.slice xo7 a.data.1 xc7) := T6.b1.cell 7
  have y7 : w6.cell? ⟨w.heap.size + 1, 7, none⟩ = some (.slice yo7 b.data.1 yc7) := T6.b2.cell 7
  go_wp2_with fail
  refine (C7 _ T6.bel).mono ?_
  rintro e w7 ⟨rfl, b7⟩
  have T7 := T6.call b7
  cases t7 with
  | false =>
    have HB : Hid (Below w.heap.size w w7) := T7.bel
    clear T7 b7
    go_wp2
    go_ret
    exact boolNo rfl (fun h => by have := HT7.out.2 h.data; simp at this) HB.out
  | true =>
  have x8 : w7.cell? ⟨w.heap.size, 8, none⟩ = some (.slice xo8 a.delta.1 xc8) := T7.b1.cell 8
  have y8 : w7.cell? ⟨w.heap.size + 1, 8, none⟩ = some (.slice yo8 b.delta.1 yc8) := T7.b2.cell 8
  go_wp2_with fail
  refine (C8 _ T7.bel).mono ?_
  rintro e w8 ⟨rfl, b8⟩
  have T8 := T7.call b8
  cases t8 with
  | false =>
    have HB : Hid (Below w.heap.size w w8) := T8.bel
    clear T8 b8
    go_wp2
    go_ret
    exact boolNo rfl (fun h => by have := HT8.out.2 h.delta; simp at this) HB.out
  | true =>
  have HB : Hid (Below w.heap.size w w8) := T8.bel
  clear T6 T7 T8 b6 b7 b8
  go_wp2
  go_ret
  exact boolYes rfl ⟨HE0.out.1 (by simp), HE1.out.1 (by simp), HE2.out.1 (by simp), HE3.out.1 (by simp), HE4.out.1 (by simp), HE5.out.1 (by simp), HT6.out.1 (by simp), HT7.out.1 (by simp), HT8.out.1 (by simp)⟩ HB.out
set_option maxHeartbeats 8000000 in
set_option maxRecDepth 20000 in
theorem implSame_any (a b : RecD) (c1 c2 : List Value) (h1 h2 : Nat) (w : World) (r1 : layRec.rd w h1 a c1) (r2 : layRec.rd w h2 b c2) (u1 : h1 ≤ w.heap.size) (u2 : h2 ≤ w.heap.size) :
    Calls Try.prog 7 #[.agg c1.toArray, .agg c2.toArray] w (BoolP (SameR a b) w) := by
  obtain ⟨xo6, xc6, xo7, xc7, xo8, xc8, rfl, p6, p7, p8, -⟩ := Rec_rd r1
  obtain ⟨yo6, yc6, yo7, yc7, yo8, yc8, rfl, q6, q7, q8, -⟩ := Rec_rd r2
  obtain ⟨_, e, ⟨p6, _⟩, _⟩ := p6
  cases e
  obtain ⟨_, e, ⟨q6, _⟩, _⟩ := q6
  cases e
  obtain ⟨_, e, p7, _⟩ := p7
  cases e
  obtain ⟨_, e, q7, _⟩ := q7
  cases e
  obtain ⟨_, e, p8, _⟩ := p8
  cases e
  obtain ⟨_, e, q8, _⟩ := q8
  cases e
  clear r1 r2
  have T0 := two_newb w #[.int .i64 a.kind, .int .i64 a.seq, .string a.name, .int .i64 a.length, .int .i64 a.group, .int .i64 a.row, .slice xo6 a.rows.1 xc6, .slice xo7 a.data.1 xc7, .slice xo8 a.delta.1 xc8] #[.int .i64 b.kind, .int .i64 b.seq, .string b.name, .int .i64 b.length, .int .i64 b.group, .int .i64 b.row, .slice yo6 b.rows.1 yc6, .slice yo7 b.data.1 yc7, .slice yo8 b.delta.1 yc8] 28 28
  have HT0 : Hid (Two w ((w.alloc (.cells #[.int .i64 a.kind, .int .i64 a.seq, .string a.name, .int .i64 a.length, .int .i64 a.group, .int .i64 a.row, .slice xo6 a.rows.1 xc6, .slice xo7 a.data.1 xc7, .slice xo8 a.delta.1 xc8] 28)).alloc (.cells #[.int .i64 b.kind, .int .i64 b.seq, .string b.name, .int .i64 b.length, .int .i64 b.group, .int .i64 b.row, .slice yo6 b.rows.1 yc6, .slice yo7 b.data.1 yc7, .slice yo8 b.delta.1 yc8] 28)) #[.int .i64 a.kind, .int .i64 a.seq, .string a.name, .int .i64 a.length, .int .i64 a.group, .int .i64 a.row, .slice xo6 a.rows.1 xc6, .slice xo7 a.data.1 xc7, .slice xo8 a.delta.1 xc8] #[.int .i64 b.kind, .int .i64 b.seq, .string b.name, .int .i64 b.length, .int .i64 b.group, .int .i64 b.row, .slice yo6 b.rows.1 yc6, .slice yo7 b.data.1 yc7, .slice yo8 b.delta.1 yc8] 28 28) := T0
  obtain ⟨e0, he0⟩ : ∃ t, (a.kind == b.kind) = t := ⟨_, rfl⟩
  have HE0 : Hid (e0 = true ↔ a.kind = b.kind) := by show _ ↔ _; rw [← he0]; exact beq_iff_eq
  obtain ⟨e1, he1⟩ : ∃ t, (a.seq == b.seq) = t := ⟨_, rfl⟩
  have HE1 : Hid (e1 = true ↔ a.seq = b.seq) := by show _ ↔ _; rw [← he1]; exact beq_iff_eq
  obtain ⟨e2, he2⟩ : ∃ t, (a.name.toList == b.name.toList) = t := ⟨_, rfl⟩
  have HE2 : Hid (e2 = true ↔ a.name = b.name) := by show _ ↔ _; rw [← he2, beq_iff_eq]; exact toList_inj
  have he2' : decide (a.name.toList = b.name.toList) = e2 := by rw [← he2, Bool.eq_iff_iff]; simp
  obtain ⟨e3, he3⟩ : ∃ t, (a.length == b.length) = t := ⟨_, rfl⟩
  have HE3 : Hid (e3 = true ↔ a.length = b.length) := by show _ ↔ _; rw [← he3]; exact beq_iff_eq
  obtain ⟨e4, he4⟩ : ∃ t, (a.group == b.group) = t := ⟨_, rfl⟩
  have HE4 : Hid (e4 = true ↔ a.group = b.group) := by show _ ↔ _; rw [← he4]; exact beq_iff_eq
  obtain ⟨e5, he5⟩ : ∃ t, (a.row == b.row) = t := ⟨_, rfl⟩
  have HE5 : Hid (e5 = true ↔ a.row = b.row) := by show _ ↔ _; rw [← he5]; exact beq_iff_eq
  obtain ⟨t6, ht6⟩ := exB (SameI a.rows.1 b.rows.1 a.rows.2 b.rows.2)
  obtain ⟨t7, ht7⟩ := exB (SameP a.data.1 b.data.1 a.data.2 b.data.2)
  obtain ⟨t8, ht8⟩ := exB (SameP a.delta.1 b.delta.1 a.delta.2 b.delta.2)
  have C6 := fun (w' : World) (hb : Below w.heap.size w w') => det_b (equalI_any _ _ a.rows.1 b.rows.1 a.rows.2 b.rows.2 h1 h2 w' (p6.below hb u1) (q6.below hb u2)) ht6
  have C7 := fun (w' : World) (hb : Below w.heap.size w w') => det_b (equalB_any _ _ a.data.1 b.data.1 a.data.2 b.data.2 h1 h2 w' (p7.below hb u1) (q7.below hb u2)) ht7
  have C8 := fun (w' : World) (hb : Below w.heap.size w w') => det_b (equalB_any _ _ a.delta.1 b.delta.1 a.delta.2 b.delta.2 h1 h2 w' (p8.below hb u1) (q8.below hb u2)) ht8
  have HT6 : Hid (t6 = true ↔ SameI a.rows.1 b.rows.1 a.rows.2 b.rows.2) := ht6
  have HT7 : Hid (t7 = true ↔ SameP a.data.1 b.data.1 a.data.2 b.data.2) := ht7
  have HT8 : Hid (t8 = true ↔ SameP a.delta.1 b.delta.1 a.delta.2 b.delta.2) := ht8
  clear p6 p7 p8 q6 q7 q8 ht6 ht7 ht8
  obtain ⟨nb, hnb⟩ : ∃ t, t = (e0 && (e1 && (e3 && (e4 && e5)))) := ⟨_, rfl⟩
  have HNB : Hid (nb = (e0 && (e1 && (e3 && (e4 && e5))))) := hnb
  obtain ⟨lb, hlb⟩ : ∃ t, t = (t6 && (t7 && t8)) := ⟨_, rfl⟩
  have HLB : Hid (lb = (t6 && (t7 && t8))) := hlb
  have HN : Hid (nb = true ↔ (a.kind = b.kind ∧ a.seq = b.seq ∧ a.length = b.length ∧ a.group = b.group ∧ a.row = b.row)) := by
    show _ ↔ _
    rw [HNB.out, Bool.and_eq_true, Bool.and_eq_true, Bool.and_eq_true, Bool.and_eq_true, HE0.out, HE1.out, HE3.out, HE4.out, HE5.out]
  have HL : Hid (lb = true ↔ (SameI a.rows.1 b.rows.1 a.rows.2 b.rows.2 ∧ SameP a.data.1 b.data.1 a.data.2 b.data.2 ∧ SameP a.delta.1 b.delta.1 a.delta.2 b.delta.2)) := by
    show _ ↔ _
    rw [HLB.out, Bool.and_eq_true, Bool.and_eq_true, HT6.out, HT7.out, HT8.out]
  clear hnb hlb
  go_enter Try.func7, Try.ntmps7
  go_upto_region 1 with fail
  obtain ⟨W0, hW0⟩ : ∃ x, x = (w.alloc (.cells #[.int .i64 a.kind, .int .i64 a.seq, .string a.name, .int .i64 a.length, .int .i64 a.group, .int .i64 a.row, .slice xo6 a.rows.1 xc6, .slice xo7 a.data.1 xc7, .slice xo8 a.delta.1 xc8] 28)).alloc (.cells #[.int .i64 b.kind, .int .i64 b.seq, .string b.name, .int .i64 b.length, .int .i64 b.group, .int .i64 b.row, .slice yo6 b.rows.1 yc6, .slice yo7 b.data.1 yc7, .slice yo8 b.delta.1 yc8] 28) := ⟨_, rfl⟩
  rw [← hW0] at T0 HT0 ⊢
  clear hW0
  have x_0 : W0.cell? ⟨w.heap.size, 0, none⟩ = some (.int .i64 a.kind) := T0.b1.cell 0
  have x_1 : W0.cell? ⟨w.heap.size, 1, none⟩ = some (.int .i64 a.seq) := T0.b1.cell 1
  have x_2 : W0.cell? ⟨w.heap.size, 2, none⟩ = some (.string a.name) := T0.b1.cell 2
  have x_3 : W0.cell? ⟨w.heap.size, 3, none⟩ = some (.int .i64 a.length) := T0.b1.cell 3
  have x_4 : W0.cell? ⟨w.heap.size, 4, none⟩ = some (.int .i64 a.group) := T0.b1.cell 4
  have x_5 : W0.cell? ⟨w.heap.size, 5, none⟩ = some (.int .i64 a.row) := T0.b1.cell 5
  have x_6 : W0.cell? ⟨w.heap.size, 6, none⟩ = some (.slice xo6 a.rows.1 xc6) := T0.b1.cell 6
  have x_7 : W0.cell? ⟨w.heap.size, 7, none⟩ = some (.slice xo7 a.data.1 xc7) := T0.b1.cell 7
  have x_8 : W0.cell? ⟨w.heap.size, 8, none⟩ = some (.slice xo8 a.delta.1 xc8) := T0.b1.cell 8
  have y_0 : W0.cell? ⟨w.heap.size + 1, 0, none⟩ = some (.int .i64 b.kind) := T0.b2.cell 0
  have y_1 : W0.cell? ⟨w.heap.size + 1, 1, none⟩ = some (.int .i64 b.seq) := T0.b2.cell 1
  have y_2 : W0.cell? ⟨w.heap.size + 1, 2, none⟩ = some (.string b.name) := T0.b2.cell 2
  have y_3 : W0.cell? ⟨w.heap.size + 1, 3, none⟩ = some (.int .i64 b.length) := T0.b2.cell 3
  have y_4 : W0.cell? ⟨w.heap.size + 1, 4, none⟩ = some (.int .i64 b.group) := T0.b2.cell 4
  have y_5 : W0.cell? ⟨w.heap.size + 1, 5, none⟩ = some (.int .i64 b.row) := T0.b2.cell 5
  have y_6 : W0.cell? ⟨w.heap.size + 1, 6, none⟩ = some (.slice yo6 b.rows.1 yc6) := T0.b2.cell 6
  have y_7 : W0.cell? ⟨w.heap.size + 1, 7, none⟩ = some (.slice yo7 b.data.1 yc7) := T0.b2.cell 7
  have y_8 : W0.cell? ⟨w.heap.size + 1, 8, none⟩ = some (.slice yo8 b.delta.1 yc8) := T0.b2.cell 8
  clear T0
  go_cut [5] (fun v wx => v = .bool nb ∧ wx = W0)
  case first =>
    cases e0 with
    | false =>
      go_wp2
      go_meet
      exact ⟨by rw [HNB.out]; simp, rfl⟩
    | true =>
    cases e1 with
    | false =>
      go_wp2
      go_meet
      exact ⟨by rw [HNB.out]; simp, rfl⟩
    | true =>
    cases e3 with
    | false =>
      go_wp2
      go_meet
      exact ⟨by rw [HNB.out]; simp, rfl⟩
    | true =>
    cases e4 with
    | false =>
      go_wp2
      go_meet
      exact ⟨by rw [HNB.out]; simp, rfl⟩
    | true =>
    cases e5 with
    | false =>
      go_wp2
      go_meet
      exact ⟨by rw [HNB.out]; simp, rfl⟩
    | true =>
    go_wp2
    go_meet
    exact ⟨by rw [HNB.out]; simp, rfl⟩
  case rest =>
    obtain ⟨rfl, rfl⟩ := hcut
    clear he0 he1 he3 he4 he5
    go_upto_region 2 with fail
    go_cut [6] (fun v wx => v = .bool lb ∧ Below wc.heap.size wc wx)
    case first =>
      go_wp2_with fail
      refine (C6 _ HT0.out.bel).mono ?_
      rintro e w6 ⟨rfl, b6⟩
      have T6 := HT0.out.call b6
      have B6 : Hid (Below wc.heap.size wc w6) := b6
      cases t6 with
      | false =>
        clear T6 b6
        go_wp2
        go_meet
        exact ⟨by rw [HLB.out]; simp, B6.out⟩
      | true =>
      have x7' : w6.cell? ⟨w.heap.size, 7, none⟩ = some (.slice xo7 a.data.1 xc7) := T6.b1.cell 7
      have y7' : w6.cell? ⟨w.heap.size + 1, 7, none⟩ = some (.slice yo7 b.data.1 yc7) := T6.b2.cell 7
      go_wp2_with fail
      refine (C7 _ T6.bel).mono ?_
      rintro e w7 ⟨rfl, b7⟩
      have T7 := T6.call b7
      have B7 : Hid (Below wc.heap.size wc w7) := B6.out.trans (b7.mono B6.out.size)
      cases t7 with
      | false =>
        clear T7 b7
        go_wp2
        go_meet
        exact ⟨by rw [HLB.out]; simp, B7.out⟩
      | true =>
      have x8' : w7.cell? ⟨w.heap.size, 8, none⟩ = some (.slice xo8 a.delta.1 xc8) := T7.b1.cell 8
      have y8' : w7.cell? ⟨w.heap.size + 1, 8, none⟩ = some (.slice yo8 b.delta.1 yc8) := T7.b2.cell 8
      go_wp2_with fail
      refine (C8 _ T7.bel).mono ?_
      rintro e w8 ⟨rfl, b8⟩
      have T8 := T7.call b8
      have B8 : Hid (Below wc.heap.size wc w8) := B7.out.trans (b8.mono B7.out.size)
      cases t8 with
      | false =>
        clear T8 b8
        go_wp2
        go_meet
        exact ⟨by rw [HLB.out]; simp, B8.out⟩
      | true =>
      clear T6 T7 T8 b6 b7 b8
      go_wp2
      go_meet
      exact ⟨by rw [HLB.out]; simp, B8.out⟩
    case rest =>
      obtain ⟨rfl, b9⟩ := hcut
      obtain ⟨w9, rfl⟩ : ∃ x, x = wc := ⟨_, rfl⟩
      have T9 := HT0.out.call b9
      have x2' : w9.cell? ⟨w.heap.size, 2, none⟩ = some (.string a.name) := T9.b1.cell 2
      have y2' : w9.cell? ⟨w.heap.size + 1, 2, none⟩ = some (.string b.name) := T9.b2.cell 2
      have HB : Hid (Below w.heap.size w w9) := T9.bel
      clear T9 b9
      cases nb with
      | false =>
        go_wp2
        go_ret
        exact boolNo rfl (fun h => by have := HN.out.2 ⟨h.kind, h.seq, h.length, h.group, h.row⟩; simp at this) HB.out
      | true =>
      cases e2 with
      | false =>
        go_wp2
        go_ret
        exact boolNo rfl (fun h => by have := HE2.out.2 h.name; simp at this) HB.out
      | true =>
      cases lb with
      | false =>
        go_wp2
        go_ret
        exact boolNo rfl (fun h => by have := HL.out.2 ⟨h.rows, h.data, h.delta⟩; simp at this) HB.out
      | true =>
        have N := HN.out.1 (by simp)
        have M := HL.out.1 (by simp)
        have HY : Hid (SameR a b) := ⟨N.1, N.2.1, HE2.out.1 (by simp), N.2.2.1, N.2.2.2.1, N.2.2.2.2, M.1, M.2.1, M.2.2⟩
        clear N M
        go_wp2
        go_ret
        exact boolYes rfl HY.out HB.out
end Go.Proofs.Ytmpmcaopfmbhnan

namespace Go.Proofs.Ytmpmcaopfmbhnan
open Go.ChangeShapes Go.WideShapes Go.ChangeAt Go.RowKit F256
set_option linter.unusedVariables false
set_option linter.unusedSimpArgs false
theorem rec9 {w : World} {hi : Nat} {d : RecD} {cs : List Value} (h : layRec.rd w hi d cs) : ∃ v0 v1 v2 v3 v4 v5 vp6 vl6 vq6 vp7 vl7 vq7 vp8 vl8 vq8, cs = [.int .i64 v0, .int .i64 v1, .string v2, .int .i64 v3, .int .i64 v4, .int .i64 v5, .slice vp6 vl6 vq6, .slice vp7 vl7 vq7, .slice vp8 vl8 vq8] := by
  obtain ⟨p1, pc1, p2, pc2, p3, pc3, rfl, -⟩ := Rec_rd h
  exact ⟨_, _, _, _, _, _, _, _, _, _, _, _, _, _, _, rfl⟩
theorem nine_cells {w : World} {b : Nat} {t : TypeId} {a0 a1 a2 a3 a4 a5 a6 a7 a8 : Value} (h : Box w b #[a0, a1, a2, a3, a4, a5, a6, a7, a8] t) :
    w.cell? ⟨b, 0, none⟩ = some a0 ∧ w.cell? ⟨b, 1, none⟩ = some a1 ∧ w.cell? ⟨b, 2, none⟩ = some a2 ∧ w.cell? ⟨b, 3, none⟩ = some a3 ∧ w.cell? ⟨b, 4, none⟩ = some a4 ∧ w.cell? ⟨b, 5, none⟩ = some a5 ∧ w.cell? ⟨b, 6, none⟩ = some a6 ∧ w.cell? ⟨b, 7, none⟩ = some a7 ∧ w.cell? ⟨b, 8, none⟩ = some a8 :=
  ⟨h.cell 0, h.cell 1, h.cell 2, h.cell 3, h.cell 4, h.cell 5, h.cell 6, h.cell 7, h.cell 8⟩
set_option maxHeartbeats 16000000 in
set_option maxRecDepth 20000 in
theorem fnExactSameRec_walk (d1 : RecD) (c1 : List Value) (d2 : RecD) (c2 : List Value) (w : World) (r1 : layRec.rd w w.heap.size d1 c1) (r2 : layRec.rd w w.heap.size d2 c2) :
    Calls Try.prog 3 #[.agg c1.toArray, .agg c2.toArray] w fun e w' => e = .returned (.bool true) ∧ Below w.heap.size w w' := by
  obtain ⟨ka0, ka1, ka2, ka3, ka4, ka5, kap6, kal6, kaq6, kap7, kal7, kaq7, kap8, kal8, kaq8, rfl⟩ := rec9 r1
  obtain ⟨kb0, kb1, kb2, kb3, kb4, kb5, kbp6, kbl6, kbq6, kbp7, kbl7, kbq7, kbp8, kbl8, kbq8, rfl⟩ := rec9 r2
  obtain ⟨X, hX⟩ := exB (SameR d1 d2)
  have T0 := two_newb w #[.int .i64 ka0, .int .i64 ka1, .string ka2, .int .i64 ka3, .int .i64 ka4, .int .i64 ka5, .slice kap6 kal6 kaq6, .slice kap7 kal7 kaq7, .slice kap8 kal8 kaq8] #[.int .i64 kb0, .int .i64 kb1, .string kb2, .int .i64 kb3, .int .i64 kb4, .int .i64 kb5, .slice kbp6 kbl6 kbq6, .slice kbp7 kbl7 kbq7, .slice kbp8 kbl8 kbq8] 25 25
  go_enter Try.func3, Try.ntmps3
  go_wp2_with fail
  refine (szRec_is _ d1 w.heap.size 1048576 _ (layRec.rd_below r1 T0.bel (Nat.le_refl _)) T0.bel.size (by omega)).mono ?_
  rintro e w1 ⟨x, rfl, hx, b1⟩
  have T1 := T0.call b1
  clear b1 T0
  have HT1 : Hid (Two w w1 #[.int .i64 ka0, .int .i64 ka1, .string ka2, .int .i64 ka3, .int .i64 ka4, .int .i64 ka5, .slice kap6 kal6 kaq6, .slice kap7 kal7 kaq7, .slice kap8 kal8 kaq8] #[.int .i64 kb0, .int .i64 kb1, .string kb2, .int .i64 kb3, .int .i64 kb4, .int .i64 kb5, .slice kbp6 kbl6 kbq6, .slice kbp7 kbl7 kbq7, .slice kbp8 kbl8 kbq8] 25 25) := T1
  obtain ⟨y10, y11, y12, y13, y14, y15, y16, y17, y18⟩ := nine_cells T1.b2
  clear T1
  rcases hx with rfl | ⟨hsz1, hx⟩
  · go_wp2
    go_ret
    exact ⟨rfl, HT1.out.bel⟩
  obtain ⟨M, rfl⟩ : ∃ M : Nat, x = (M : Int) := ⟨x.toNat, by omega⟩
  have hM : M ≤ 1048576 := by omega
  have hx0 : ¬ (M : Int) < 0 := by omega
  clear hx
  go_wp2_with fail
  refine (szRec_is _ d2 w.heap.size M _ (layRec.rd_below r2 HT1.out.bel (Nat.le_refl _)) HT1.out.bel.size (by omega)).mono ?_
  rintro e w2 ⟨x, rfl, hx, b2⟩
  have T2 := HT1.out.call b2
  have HT2 : Hid (Two w w2 #[.int .i64 ka0, .int .i64 ka1, .string ka2, .int .i64 ka3, .int .i64 ka4, .int .i64 ka5, .slice kap6 kal6 kaq6, .slice kap7 kal7 kaq7, .slice kap8 kal8 kaq8] #[.int .i64 kb0, .int .i64 kb1, .string kb2, .int .i64 kb3, .int .i64 kb4, .int .i64 kb5, .slice kbp6 kbl6 kbq6, .slice kbp7 kbl7 kbq7, .slice kbp8 kbl8 kbq8] 25 25) := T2
  clear b2 HT1 y10 y11 y12 y13 y14 y15 y16 y17 y18
  rcases hx with rfl | ⟨hsz2, hx⟩
  · clear T2
    go_wp2
    go_ret
    exact ⟨rfl, HT2.out.bel⟩
  have hx1 : ¬ x < 0 := by omega
  have hsz2' : szRecD d2 ≤ 1048576 := by omega
  have CA : ∀ w', Below w2.heap.size w2 w' → Calls Try.prog 6 #[.agg #[.int .i64 ka0, .int .i64 ka1, .string ka2, .int .i64 ka3, .int .i64 ka4, .int .i64 ka5, .slice kap6 kal6 kaq6, .slice kap7 kal7 kaq7, .slice kap8 kal8 kaq8]] w' fun e w'' => ∃ cs', e = .returned (.agg cs'.toArray) ∧ OwnT layRec w'' w'.heap.size w''.heap.size d1 cs' ∧ Below w'.heap.size w' w'' := fun w' hb =>
    toRec_is _ d1 w.heap.size w' (layRec.rd_below (layRec.rd_below r1 HT2.out.bel (Nat.le_refl _)) hb HT2.out.bel.size) (Nat.le_trans HT2.out.bel.size hb.size) hsz1
  have CB : ∀ w', Below w2.heap.size w2 w' → Calls Try.prog 6 #[.agg #[.int .i64 kb0, .int .i64 kb1, .string kb2, .int .i64 kb3, .int .i64 kb4, .int .i64 kb5, .slice kbp6 kbl6 kbq6, .slice kbp7 kbl7 kbq7, .slice kbp8 kbl8 kbq8]] w' fun e w'' => ∃ cs', e = .returned (.agg cs'.toArray) ∧ OwnT layRec w'' w'.heap.size w''.heap.size d2 cs' ∧ Below w'.heap.size w' w'' := fun w' hb =>
    toRec_is _ d2 w.heap.size w' (layRec.rd_below (layRec.rd_below r2 HT2.out.bel (Nat.le_refl _)) hb HT2.out.bel.size) (Nat.le_trans HT2.out.bel.size hb.size) hsz2'
  have CS := fun (k1 k2 : List Value) (h1 h2 : Nat) (w' : World) (q1 : layRec.rd w' h1 d1 k1) (q2 : layRec.rd w' h2 d2 k2) (u1 : h1 ≤ w'.heap.size) (u2 : h2 ≤ w'.heap.size) => det_b (specSame_any d1 d2 k1 k2 h1 h2 w' q1 q2 u1 u2) hX
  have CI := fun (k1 k2 : List Value) (h1 h2 : Nat) (w' : World) (q1 : layRec.rd w' h1 d1 k1) (q2 : layRec.rd w' h2 d2 k2) (u1 : h1 ≤ w'.heap.size) (u2 : h2 ≤ w'.heap.size) => det_b (implSame_any d1 d2 k1 k2 h1 h2 w' q1 q2 u1 u2) hX
  obtain ⟨xa0, xa1, xa2, xa3, xa4, xa5, xa6, xa7, xa8⟩ := nine_cells T2.b1
  obtain ⟨xb0, xb1, xb2, xb3, xb4, xb5, xb6, xb7, xb8⟩ := nine_cells T2.b2
  clear hx hX hsz1 hsz2 hsz2' r1 r2 T2 hM
  go_upto_region 8 with fail
  go_cut [6] (fun v wx => v = .bool X ∧ Below w2.heap.size w2 wx)
  case first =>
    go_region_with (first | (go_at_call 6; first | ((with_reducible show Calls Try.prog 6 #[.agg #[.int .i64 ka0, .int .i64 ka1, .string ka2, .int .i64 ka3, .int .i64 ka4, .int .i64 ka5, .slice kap6 kal6 kaq6, .slice kap7 kal7 kaq7, .slice kap8 kal8 kaq8]] _ _); refine (CA _ (below_drewN (Below.refl _ _) 1)).mono ?_; rintro ee wa ⟨ca, rfl, oA, ba⟩; have bA : Below w2.heap.size w2 wa := (below_drewN (Below.refl _ _) 1).trans ba; obtain ⟨qb0, qb1, qb2, qb3, qb4, qb5, qb6, qb7, qb8⟩ := nine_cells (HT2.out.call bA).b2) | ((with_reducible show Calls Try.prog 6 #[.agg #[.int .i64 kb0, .int .i64 kb1, .string kb2, .int .i64 kb3, .int .i64 kb4, .int .i64 kb5, .slice kbp6 kbl6 kbq6, .slice kbp7 kbl7 kbq7, .slice kbp8 kbl8 kbq8]] _ _); refine (CB _ (below_drewN (Below.refl _ _) 1)).mono ?_; rintro ee wb ⟨cb, rfl, oB, bb⟩; have bB : Below w2.heap.size w2 wb := (below_drewN (Below.refl _ _) 1).trans bb; obtain ⟨qa0, qa1, qa2, qa3, qa4, qa5, qa6, qa7, qa8⟩ := nine_cells (HT2.out.call bB).b1) | ((with_reducible show Calls Try.prog 6 #[.agg #[.int .i64 kb0, .int .i64 kb1, .string kb2, .int .i64 kb3, .int .i64 kb4, .int .i64 kb5, .slice kbp6 kbl6 kbq6, .slice kbp7 kbl7 kbq7, .slice kbp8 kbl8 kbq8]] _ _); refine (CB _ bA).mono ?_; rintro ee wb ⟨cb, rfl, oB, bb⟩; have bE : Below w2.heap.size w2 wb := bA.trans (bb.mono bA.size); have oA2 := oA.call bb) | ((with_reducible show Calls Try.prog 6 #[.agg #[.int .i64 ka0, .int .i64 ka1, .string ka2, .int .i64 ka3, .int .i64 ka4, .int .i64 ka5, .slice kap6 kal6 kaq6, .slice kap7 kal7 kaq7, .slice kap8 kal8 kaq8]] _ _); refine (CA _ bB).mono ?_; rintro ee wa ⟨ca, rfl, oA, ba⟩; have bE : Below w2.heap.size w2 wa := bB.trans (ba.mono bB.size); have oB2 := oB.call ba)) | (go_at_call 5; first | (refine (CS ca cb _ _ _ oA2.rd oB.rd bb.size (Nat.le_refl _)).mono ?_; rintro ee wc' ⟨rfl, bc⟩; have bC : Below w2.heap.size w2 wc' := bE.trans (bc.mono bE.size)) | (refine (CS ca cb _ _ _ oA.rd oB2.rd (Nat.le_refl _) ba.size).mono ?_; rintro ee wc' ⟨rfl, bc⟩; have bC : Below w2.heap.size w2 wc' := bE.trans (bc.mono bE.size))))
    all_goals
      go_wp2
      go_meet
      exact ⟨rfl, bC⟩
  case rest =>
    obtain ⟨rfl, b5⟩ := hcut
    obtain ⟨w5, rfl⟩ : ∃ x, x = wc := ⟨_, rfl⟩
    clear xa0 xa1 xa2 xa3 xa4 xa5 xa6 xa7 xa8 xb0 xb1 xb2 xb3 xb4 xb5 xb6 xb7 xb8
    have T5 := HT2.out.call b5
    have HT5 : Hid (Two w w5 #[.int .i64 ka0, .int .i64 ka1, .string ka2, .int .i64 ka3, .int .i64 ka4, .int .i64 ka5, .slice kap6 kal6 kaq6, .slice kap7 kal7 kaq7, .slice kap8 kal8 kaq8] #[.int .i64 kb0, .int .i64 kb1, .string kb2, .int .i64 kb3, .int .i64 kb4, .int .i64 kb5, .slice kbp6 kbl6 kbq6, .slice kbp7 kbl7 kbq7, .slice kbp8 kbl8 kbq8] 25 25) := T5
    have HB5 : Hid (Below w2.heap.size w2 w5) := b5
    obtain ⟨xa0, xa1, xa2, xa3, xa4, xa5, xa6, xa7, xa8⟩ := nine_cells T5.b1
    clear T5 b5
    go_wp2_with fail
    refine (CA _ HB5.out).mono ?_
    rintro e w6 ⟨c6, rfl, o6, b6⟩
    obtain ⟨kx0, kx1, kx2, kx3, kx4, kx5, kxp6, kxl6, kxq6, kxp7, kxl7, kxq7, kxp8, kxl8, kxq8, rfl⟩ := rec9 o6.rd
    clear xa0 xa1 xa2 xa3 xa4 xa5 xa6 xa7 xa8
    go_upto_region 10 with fail
    have bA : Below w6.heap.size w6 (w6.alloc (.cells #[.int .i64 kx0, .int .i64 kx1, .string kx2, .int .i64 kx3, .int .i64 kx4, .int .i64 kx5, .slice kxp6 kxl6 kxq6, .slice kxp7 kxl7 kxq7, .slice kxp8 kxl8 kxq8] 28)) := (Below.refl _ _).alloc (Nat.le_refl _) _
    have X7 : Box (w6.alloc (.cells #[.int .i64 kx0, .int .i64 kx1, .string kx2, .int .i64 kx3, .int .i64 kx4, .int .i64 kx5, .slice kxp6 kxl6 kxq6, .slice kxp7 kxl7 kxq7, .slice kxp8 kxl8 kxq8] 28)) w6.heap.size #[.int .i64 kx0, .int .i64 kx1, .string kx2, .int .i64 kx3, .int .i64 kx4, .int .i64 kx5, .slice kxp6 kxl6 kxq6, .slice kxp7 kxl7 kxq7, .slice kxp8 kxl8 kxq8] 28 := box_new _ _ _
    obtain ⟨W7, hW7⟩ : ∃ x, x = w6.alloc (.cells #[.int .i64 kx0, .int .i64 kx1, .string kx2, .int .i64 kx3, .int .i64 kx4, .int .i64 kx5, .slice kxp6 kxl6 kxq6, .slice kxp7 kxl7 kxq7, .slice kxp8 kxl8 kxq8] 28) := ⟨_, rfl⟩
    rw [← hW7] at bA X7 ⊢
    have T7 := (HT5.out.call b6).call bA
    have HT7 : Hid (Two w W7 #[.int .i64 ka0, .int .i64 ka1, .string ka2, .int .i64 ka3, .int .i64 ka4, .int .i64 ka5, .slice kap6 kal6 kaq6, .slice kap7 kal7 kaq7, .slice kap8 kal8 kaq8] #[.int .i64 kb0, .int .i64 kb1, .string kb2, .int .i64 kb3, .int .i64 kb4, .int .i64 kb5, .slice kbp6 kbl6 kbq6, .slice kbp7 kbl7 kbq7, .slice kbp8 kbl8 kbq8] 25 25) := T7
    have HX7 : Hid (Box W7 w6.heap.size #[.int .i64 kx0, .int .i64 kx1, .string kx2, .int .i64 kx3, .int .i64 kx4, .int .i64 kx5, .slice kxp6 kxl6 kxq6, .slice kxp7 kxl7 kxq7, .slice kxp8 kxl8 kxq8] 28) := X7
    have HO7 : Hid (OwnT layRec W7 w5.heap.size w6.heap.size d1 [.int .i64 kx0, .int .i64 kx1, .string kx2, .int .i64 kx3, .int .i64 kx4, .int .i64 kx5, .slice kxp6 kxl6 kxq6, .slice kxp7 kxl7 kxq7, .slice kxp8 kxl8 kxq8]) := o6.call bA
    have HB7 : Hid (Below w2.heap.size w2 W7) := (HB5.out.trans (b6.mono HB5.out.size)).trans (bA.mono (Nat.le_trans HB5.out.size b6.size))
    have z56 : w5.heap.size ≤ w6.heap.size := b6.size
    have z67 : w6.heap.size < W7.heap.size := X7.lt
    obtain ⟨xb0, xb1, xb2, xb3, xb4, xb5, xb6, xb7, xb8⟩ := nine_cells T7.b2
    clear T7 X7 o6 b6 bA hW7
    go_wp2_with fail
    refine (CB _ HB7.out).mono ?_
    rintro e w8 ⟨c8, rfl, o8, b8⟩
    obtain ⟨ky0, ky1, ky2, ky3, ky4, ky5, kyp6, kyl6, kyq6, kyp7, kyl7, kyq7, kyp8, kyl8, kyq8, rfl⟩ := rec9 o8.rd
    clear xb0 xb1 xb2 xb3 xb4 xb5 xb6 xb7 xb8
    go_upto_region 11 with fail
    have bA : Below w8.heap.size w8 (w8.alloc (.cells #[.int .i64 ky0, .int .i64 ky1, .string ky2, .int .i64 ky3, .int .i64 ky4, .int .i64 ky5, .slice kyp6 kyl6 kyq6, .slice kyp7 kyl7 kyq7, .slice kyp8 kyl8 kyq8] 28)) := (Below.refl _ _).alloc (Nat.le_refl _) _
    have Y9 : Box (w8.alloc (.cells #[.int .i64 ky0, .int .i64 ky1, .string ky2, .int .i64 ky3, .int .i64 ky4, .int .i64 ky5, .slice kyp6 kyl6 kyq6, .slice kyp7 kyl7 kyq7, .slice kyp8 kyl8 kyq8] 28)) w8.heap.size #[.int .i64 ky0, .int .i64 ky1, .string ky2, .int .i64 ky3, .int .i64 ky4, .int .i64 ky5, .slice kyp6 kyl6 kyq6, .slice kyp7 kyl7 kyq7, .slice kyp8 kyl8 kyq8] 28 := box_new _ _ _
    obtain ⟨W9, hW9⟩ : ∃ x, x = w8.alloc (.cells #[.int .i64 ky0, .int .i64 ky1, .string ky2, .int .i64 ky3, .int .i64 ky4, .int .i64 ky5, .slice kyp6 kyl6 kyq6, .slice kyp7 kyl7 kyq7, .slice kyp8 kyl8 kyq8] 28) := ⟨_, rfl⟩
    rw [← hW9] at bA Y9 ⊢
    have HT9 : Hid (Two w W9 #[.int .i64 ka0, .int .i64 ka1, .string ka2, .int .i64 ka3, .int .i64 ka4, .int .i64 ka5, .slice kap6 kal6 kaq6, .slice kap7 kal7 kaq7, .slice kap8 kal8 kaq8] #[.int .i64 kb0, .int .i64 kb1, .string kb2, .int .i64 kb3, .int .i64 kb4, .int .i64 kb5, .slice kbp6 kbl6 kbq6, .slice kbp7 kbl7 kbq7, .slice kbp8 kbl8 kbq8] 25 25) := (HT7.out.call b8).call bA
    have X9 := (HX7.out.call b8).call bA
    have HX9 : Hid (Box W9 w6.heap.size #[.int .i64 kx0, .int .i64 kx1, .string kx2, .int .i64 kx3, .int .i64 kx4, .int .i64 kx5, .slice kxp6 kxl6 kxq6, .slice kxp7 kxl7 kxq7, .slice kxp8 kxl8 kxq8] 28) := X9
    have HY9 : Hid (Box W9 w8.heap.size #[.int .i64 ky0, .int .i64 ky1, .string ky2, .int .i64 ky3, .int .i64 ky4, .int .i64 ky5, .slice kyp6 kyl6 kyq6, .slice kyp7 kyl7 kyq7, .slice kyp8 kyl8 kyq8] 28) := Y9
    have HO9 : Hid (OwnT layRec W9 w5.heap.size w6.heap.size d1 [.int .i64 kx0, .int .i64 kx1, .string kx2, .int .i64 kx3, .int .i64 kx4, .int .i64 kx5, .slice kxp6 kxl6 kxq6, .slice kxp7 kxl7 kxq7, .slice kxp8 kxl8 kxq8]) := (HO7.out.call b8).call bA
    have HP9 : Hid (OwnT layRec W9 W7.heap.size w8.heap.size d2 [.int .i64 ky0, .int .i64 ky1, .string ky2, .int .i64 ky3, .int .i64 ky4, .int .i64 ky5, .slice kyp6 kyl6 kyq6, .slice kyp7 kyl7 kyq7, .slice kyp8 kyl8 kyq8]) := o8.call bA
    have HB9 : Hid (Below w2.heap.size w2 W9) := (HB7.out.trans (b8.mono HB7.out.size)).trans (bA.mono (Nat.le_trans HB7.out.size b8.size))
    have z78 : W7.heap.size ≤ w8.heap.size := b8.size
    have z89 : w8.heap.size < W9.heap.size := Y9.lt
    obtain ⟨xx0, xx1, xx2, xx3, xx4, xx5, xx6, xx7, xx8⟩ := nine_cells X9
    obtain ⟨yy0, yy1, yy2, yy3, yy4, yy5, yy6, yy7, yy8⟩ := nine_cells Y9
    clear X9 Y9 o8 b8 bA hW9 HX7 HO7 HT7 HB7
    go_wp2_with fail
    refine (CI _ _ _ _ _ HO9.out.rd HP9.out.rd (by omega) (by omega)).mono ?_
    rintro e w10 ⟨rfl, b10⟩
    have HT10 : Hid (Two w w10 #[.int .i64 ka0, .int .i64 ka1, .string ka2, .int .i64 ka3, .int .i64 ka4, .int .i64 ka5, .slice kap6 kal6 kaq6, .slice kap7 kal7 kaq7, .slice kap8 kal8 kaq8] #[.int .i64 kb0, .int .i64 kb1, .string kb2, .int .i64 kb3, .int .i64 kb4, .int .i64 kb5, .slice kbp6 kbl6 kbq6, .slice kbp7 kbl7 kbq7, .slice kbp8 kbl8 kbq8] 25 25) := HT9.out.call b10
    have HX10 : Hid (Box w10 w6.heap.size #[.int .i64 kx0, .int .i64 kx1, .string kx2, .int .i64 kx3, .int .i64 kx4, .int .i64 kx5, .slice kxp6 kxl6 kxq6, .slice kxp7 kxl7 kxq7, .slice kxp8 kxl8 kxq8] 28) := HX9.out.call b10
    have HY10 : Hid (Box w10 w8.heap.size #[.int .i64 ky0, .int .i64 ky1, .string ky2, .int .i64 ky3, .int .i64 ky4, .int .i64 ky5, .slice kyp6 kyl6 kyq6, .slice kyp7 kyl7 kyq7, .slice kyp8 kyl8 kyq8] 28) := HY9.out.call b10
    have HO10 : Hid (OwnT layRec w10 w5.heap.size w6.heap.size d1 [.int .i64 kx0, .int .i64 kx1, .string kx2, .int .i64 kx3, .int .i64 kx4, .int .i64 kx5, .slice kxp6 kxl6 kxq6, .slice kxp7 kxl7 kxq7, .slice kxp8 kxl8 kxq8]) := HO9.out.call b10
    have HP10 : Hid (OwnT layRec w10 W7.heap.size w8.heap.size d2 [.int .i64 ky0, .int .i64 ky1, .string ky2, .int .i64 ky3, .int .i64 ky4, .int .i64 ky5, .slice kyp6 kyl6 kyq6, .slice kyp7 kyl7 kyq7, .slice kyp8 kyl8 kyq8]) := HP9.out.call b10
    have HB10 : Hid (Below w2.heap.size w2 w10) := HB9.out.trans (b10.mono HB9.out.size)
    have z9x : W9.heap.size ≤ w10.heap.size := b10.size
    clear b10 xx0 xx1 xx2 xx3 xx4 xx5 xx6 xx7 xx8 yy0 yy1 yy2 yy3 yy4 yy5 yy6 yy7 yy8 HX9 HY9 HO9 HP9 HB9 HT9
    obtain ⟨xx0, xx1, xx2, xx3, xx4, xx5, xx6, xx7, xx8⟩ := nine_cells HX10.out
    obtain ⟨xa0, xa1, xa2, xa3, xa4, xa5, xa6, xa7, xa8⟩ := nine_cells HT10.out.b1
    have hXX : (X != X) = false := by cases X <;> rfl
    go_upto_region 14 with fail
    go_cut [39] (fun v wx => v = .bool false ∧ Below w10.heap.size w10 wx)
    case first =>
      go_region_with (first | (go_at_call 6; refine (CA _ (HB10.out.trans ((below_drewN (Below.refl _ _) 1).mono HB10.out.size))).mono ?_; rintro ee wb ⟨cs', rfl, oR, bb⟩; have bR : Below w10.heap.size w10 wb := (below_drewN (Below.refl _ _) 1).trans bb; obtain ⟨qb0, qb1, qb2, qb3, qb4, qb5, qb6, qb7, qb8⟩ := nine_cells (HX10.out.call bR)) | (go_at_call 8; refine (eqRec_is _ _ d1 _ _ _ (HO10.out.call bR).rd oR.rd (Nat.le_trans (by omega) bR.size) (Nat.le_refl _)).mono ?_; rintro ee wc' ⟨rfl, bc⟩; have bC : Below w10.heap.size w10 wc' := bR.trans (bc.mono bR.size)))
      all_goals
        go_wp2
        go_meet
        exact ⟨rfl, bC⟩
    case rest =>
      obtain ⟨rfl, b11⟩ := hcut
      obtain ⟨w11, rfl⟩ : ∃ x, x = wc := ⟨_, rfl⟩
      clear xx0 xx1 xx2 xx3 xx4 xx5 xx6 xx7 xx8 xa0 xa1 xa2 xa3 xa4 xa5 xa6 xa7 xa8
      have HT11 : Hid (Two w w11 #[.int .i64 ka0, .int .i64 ka1, .string ka2, .int .i64 ka3, .int .i64 ka4, .int .i64 ka5, .slice kap6 kal6 kaq6, .slice kap7 kal7 kaq7, .slice kap8 kal8 kaq8] #[.int .i64 kb0, .int .i64 kb1, .string kb2, .int .i64 kb3, .int .i64 kb4, .int .i64 kb5, .slice kbp6 kbl6 kbq6, .slice kbp7 kbl7 kbq7, .slice kbp8 kbl8 kbq8] 25 25) := HT10.out.call b11
      have HY11 : Hid (Box w11 w8.heap.size #[.int .i64 ky0, .int .i64 ky1, .string ky2, .int .i64 ky3, .int .i64 ky4, .int .i64 ky5, .slice kyp6 kyl6 kyq6, .slice kyp7 kyl7 kyq7, .slice kyp8 kyl8 kyq8] 28) := HY10.out.call b11
      have HP11 : Hid (OwnT layRec w11 W7.heap.size w8.heap.size d2 [.int .i64 ky0, .int .i64 ky1, .string ky2, .int .i64 ky3, .int .i64 ky4, .int .i64 ky5, .slice kyp6 kyl6 kyq6, .slice kyp7 kyl7 kyq7, .slice kyp8 kyl8 kyq8]) := HP10.out.call b11
      have HB11 : Hid (Below w2.heap.size w2 w11) := HB10.out.trans (b11.mono HB10.out.size)
      have zx1 : w10.heap.size ≤ w11.heap.size := b11.size
      clear b11
      obtain ⟨yy0, yy1, yy2, yy3, yy4, yy5, yy6, yy7, yy8⟩ := nine_cells HY11.out
      obtain ⟨xb0, xb1, xb2, xb3, xb4, xb5, xb6, xb7, xb8⟩ := nine_cells HT11.out.b2
      go_upto_region 16 with fail
      go_cut [44] (fun v wx => v = .bool false ∧ Below w11.heap.size w11 wx)
      case first =>
        go_region_with (first | (go_at_call 6; refine (CB _ (HB11.out.trans ((below_drewN (Below.refl _ _) 1).mono HB11.out.size))).mono ?_; rintro ee wb ⟨cs', rfl, oR, bb⟩; have bR : Below w11.heap.size w11 wb := (below_drewN (Below.refl _ _) 1).trans bb; obtain ⟨qb0, qb1, qb2, qb3, qb4, qb5, qb6, qb7, qb8⟩ := nine_cells (HY11.out.call bR)) | (go_at_call 8; refine (eqRec_is _ _ d2 _ _ _ (HP11.out.call bR).rd oR.rd (Nat.le_trans (by omega) bR.size) (Nat.le_refl _)).mono ?_; rintro ee wc' ⟨rfl, bc⟩; have bC : Below w11.heap.size w11 wc' := bR.trans (bc.mono bR.size)))
        all_goals
          go_wp2
          go_meet
          exact ⟨rfl, bC⟩
      case rest =>
        obtain ⟨rfl, b12⟩ := hcut
        have HB12 : Hid (Below w.heap.size w wc) := (HT11.out.call b12).bel
        clear b12
        go_wp2
        go_ret
        exact ⟨rfl, HB12.out⟩

set_option maxRecDepth 100000 in
theorem fnExactSameRec_lifted (os : Os) (started : os.Started) (H : Type) (enc : TypeId × Value → H) :
    ReturnsInHanded {} Try.checked os 3 .any (Rows.fnExactSameRecSpec.pre6 enc Try.prog Try.f3 Rows.fnExactSameRecRow.domain false) (Rows.fnExactSameRecSpec.post enc Try.prog Try.f3 false true false false) := by
  refine returnsInHanded_of_change (C := Try.checked) frame_own started (by kernel_rfl) Try.func3
    (ChangeSpec.witness6 (enc := enc) (C := Try.checked) false ⟨#[], #[.agg #[.int .i64 0, .int .i64 0, .string ByteArray.empty, .int .i64 0, .int .i64 0, .int .i64 0, .slice none 0 0, .slice none 0 0, .slice none 0 0], .agg #[.int .i64 0, .int .i64 0, .string ByteArray.empty, .int .i64 0, .int .i64 0, .int .i64 0, .slice none 0 0, .slice none 0 0, .slice none 0 0]], []⟩ 8 (by kernel_rfl) (by kernel_rfl) (by kernel_rfl) (by kernel_rfl)) ?_
  intro W base args ds gs before hval0 hW hcnd _
  have hval : ∀ (j : Nat) t v, Try.f3.params[j]? = some t → args[j]? = some v → Value.okWide Try.prog W .any base t v := hval0
  have hW' := hW
  obtain ⟨p, q, hA0, hV, rfl, hfz, hnd⟩ := hW
  have hA : DataW.TrodAll enc Try.prog W 0 (fun _ => true) true Try.f3.params.toList args.toList ds p := hA0
  rw [Try.params3] at hA hval
  obtain ⟨v0, vs0, d0, ds0, p0, q0, hargs, rfl, rfl, h0, r0⟩ := trodAll_cons hA
  obtain ⟨v1, vs1, d1, ds1, p1, q1, rfl, rfl, rfl, h1, r1⟩ := trodAll_cons r0
  obtain ⟨rfl, rfl, rfl⟩ := trodAll_nil r1
  obtain rfl : args = #[v0, v1] := by cases args; simp_all
  obtain ⟨rfl, rfl⟩ := trodVars_none hV
  have k0 := h0
  have lt0 : ∀ x ∈ p0, x.block < W.heap.size := by obtain ⟨m, hm⟩ := k0; exact DataW.trod_lt m _ _ _ hm
  have k1 := h1
  have lt1 : ∀ x ∈ p1, x.block < W.heap.size := by obtain ⟨m, hm⟩ := k1; exact DataW.trod_lt m _ _ _ hm
  obtain ⟨cs0, a0, rfl, rd0⟩ := struct_of_trod opensRec Try.underlying25 (hval 0 25 v0 rfl rfl) h0
  obtain ⟨cs1, a1, rfl, rd1⟩ := struct_of_trod opensRec Try.underlying25 (hval 1 25 v1 rfl rfl) h1
  clear hA0 hval0
  refine (fnExactSameRec_walk a0 cs0 a1 cs1 W rd0 rd1).mono fun e W' ⟨he, bel⟩ => ?_
  subst he
  exact ⟨_, rfl, _, _, _, [], _, [], hW', trodAll_mk1 (shut_bool Try.underlying4 _), (trodAll_cons_mk (Below.trod frame_laid (by kernel_rfl) (of_decide_eq_true (by kernel_rfl)) k0 bel lt0) (trodAll_cons_mk (Below.trod frame_laid (by kernel_rfl) (of_decide_eq_true (by kernel_rfl)) k1 bel lt1) trodAll_mk0)), rfl, bel.frame _, fun h => by cases h⟩

theorem fnExactSameRec_proved : Rows.FnExactSameRecSaid :=
  OpenClaim.holds_of_wide 3 Try.f3 rfl rfl rfl rfl rfl rfl rfl ⟨rfl, rfl, rfl, rfl, rfl⟩ rfl rfl rfl rfl rfl (by kernel_rfl) Try.func3 (by kernel_rfl)
    (of_decide_eq_true (by kernel_rfl)) (by unfold Func.isWrapper; first | (rw [if_pos (by decide +kernel)]; kernel_rfl) | (rw [if_neg (by decide +kernel)]; exact ⟨rfl, rfl⟩))
    (fun os started H enc _ => fnExactSameRec_lifted os started H enc)
#print axioms fnExactSameRec_proved
end Go.Proofs.Ytmpmcaopfmbhnan
