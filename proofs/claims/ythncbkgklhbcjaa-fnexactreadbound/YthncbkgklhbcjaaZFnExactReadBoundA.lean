/- For every shape and place the program's ReadBound answers as the specification's does and writes into nothing: the law FnExactReadBound returns true at every input, and changes nothing that was there. No condition. -/
import Derived.Test.YthncbkgklhbcjaaRecDefs
import Derived.Test.YthncbkgklhbcjaaWColD
import Derived.Lib.QuietBelow
import Derived.Test.YthncbkgklhbcjaaWName
import Derived.Test.YthncbkgklhbcjaaWInt
import Derived.Test.YthncbkgklhbcjaaWRowA
import Derived.Test.YthncbkgklhbcjaaWInts
import Derived.Test.YthncbkgklhbcjaaWNearB
import Derived.Test.YthncbkgklhbcjaaRows
import Derived.Test.YthncbkgklhbcjaaFrameM
import Derived.Test.YthncbkgklhbcjaaFrameS
import Derived.Test.YthncbkgklhbcjaaShapeB
namespace Go.Proofs.Ythncbkgklhbcjaa
open Go.RowKit F256
set_option linter.unusedVariables false

theorem q_below {f : Nat} {args : Array Value} {W : World} {v : Value} (h : ∀ w', Below W.heap.size W w' → Calls Try.prog f args w' fun e w'' => e = .returned v ∧ Below w'.heap.size w' w'') :
    ∀ d os, Calls Try.prog f args (Go.Sort.grow (redrawn W d) os) fun e w'' => e = .returned v ∧ ∃ p : Regrown, w'' = Go.Sort.grow (redrawn W p.d) p.os := fun d os => Calls.regrown_of (h _ (below_regrown W d os))
theorem q_same {f : Nat} {args : Array Value} {W : World} {v : Value} (h : ∀ w', Calls Try.prog f args w' fun e w'' => e = .returned v ∧ w'' = w') :
    ∀ d os, Calls Try.prog f args (Go.Sort.grow (redrawn W d) os) fun e w'' => e = .returned v ∧ ∃ p : Regrown, w'' = Go.Sort.grow (redrawn W p.d) p.os :=
  q_below fun w' _ => (h w').mono fun e w'' ⟨h1, h2⟩ => ⟨h1, by rw [h2]; exact Below.refl _ _⟩
theorem det_b {f : Nat} {args : Array Value} {w : World} {P : Prop} {b : Bool} (h : Calls Try.prog f args w (BoolP P w)) (hb : b = true ↔ P) : Calls Try.prog f args w fun e w' => e = .returned (.bool b) ∧ Below w.heap.size w w' :=
  h.mono fun e w' ⟨b', h1, h2, h3⟩ => ⟨by rw [h1]; congr 2; cases b <;> cases b' <;> simp_all, h3⟩
/-- l1In, told by a bool -/
theorem l1In_b {v a b : Int} {t : Bool} (ht : t = true ↔ InP v a b) (w : World) :
    Calls Try.prog 30 #[.int .i64 v, .int .i64 a, .int .i64 b] w fun e w' => e = .returned (.bool t) ∧ w' = w := by
  cases t with
  | true => exact l1In_yes v a b (ht.1 rfl).1 (ht.1 rfl).2 w
  | false =>
    have : ¬ InP v a b := fun h => by have := ht.2 h; cases this
    exact l1In_no v a b (by unfold InP at this; omega) w
theorem below_rg {W w' : World} (h : ∃ p : Regrown, w' = Go.Sort.grow (redrawn W p.d) p.os) : Below W.heap.size W w' := by
  obtain ⟨p, rfl⟩ := h
  exact below_regrown W p.d p.os
/-- the walk in the text's order, behind a wall (what is behind it is not looked into) -/
structure WQ (P : Program) (ops : Array Oper) (C : World → Prop) (Q : Act → Prop) (l : List Oper) (a : Act) : Prop where
  out : wpQuiet P ops C Q l a
theorem WQ.skip {P : Program} {ops : Array Oper} {C : World → Prop} {Q : Act → Prop} {a : Act} {o : Oper} {rest : List Oper} (hw : Region.wanted o (yielded ops a.tmps) = false)
    (h : ∀ K : Act → Prop, (∀ a, WQ P ops C Q rest a → K a) → K (a.put o.dst undef)) : WQ P ops C Q (o :: rest) a := by
  refine ⟨?_⟩
  unfold wpQuiet
  rw [if_neg (by rw [hw]; decide)]
  exact (h _ (fun _ h => h)).out
theorem WQ.want {P : Program} {ops : Array Oper} {C : World → Prop} {Q : Act → Prop} {a : Act} {o : Oper} {rest : List Oper} (hw : Region.wanted o (yielded ops a.tmps) = true)
    (h : ∀ K : Act → Prop, (∀ a, WQ P ops C Q rest a → K a) → o.quiet P a C K) : WQ P ops C Q (o :: rest) a := by
  refine ⟨?_⟩
  unfold wpQuiet
  rw [if_pos hw]
  exact Oper.quiet_mono (fun a h => h.out) (h _ (fun _ h => h))
theorem WQ.nil {P : Program} {ops : Array Oper} {C : World → Prop} {Q : Act → Prop} {a : Act} (h : Q a) : WQ P ops C Q [] a := ⟨wpQuiet_nil h⟩
theorem WQ.region {P : Program} {id : Nat} {Q : Exit → Act → World → Prop} {a : Act} {w : World} {l : List Oper} (hm : P.follows .mixedOrders = true) (hB : Region.lexB .any l.toArray = true)
    (h : WQ P l.toArray (fun w' => ∃ p : Regrown, w' = Go.Sort.grow (redrawn w p.d) p.os) (fun a' => ∀ w', (∃ p : Regrown, w' = Go.Sort.grow (redrawn w p.d) p.os) → Q .normal a' w') l a) : (Code.region id l.toArray true).wp P Q a w := wp_region_quiet_below hm hB h.out
end Go.Proofs.Ythncbkgklhbcjaa

namespace Go.Proofs.Ythncbkgklhbcjaa
open Go.RowKit F256
set_option linter.unusedVariables false
set_option linter.unusedSimpArgs false

/-- the sum of a name's first bytes -/
def nameSum (b : ByteArray) : Nat → Nat
  | 0 => 0
  | k + 1 => nameSum b k + nameByte b k
theorem nameSum_lt (b : ByteArray) (k : Nat) : nameSum b k ≤ 255 * k := by
  induction k with
  | zero => exact Nat.le_refl _
  | succ k ih => have := nameByte_lt b k; simp only [nameSum]; omega

/-- what HomeOf answers -/
def HoAns (s : Nat → Int) (b : ByteArray) (x c : Int) : Prop :=
  (¬ OkShape s ∧ c = 3 ∧ x = 0) ∨ (OkShape s ∧ ¬ OkName b ∧ c = 5 ∧ x = 0) ∨ (OkShape s ∧ OkName b ∧ c = 0 ∧ x = (nameSum b b.size : Int) % s 0)
theorem HoAns.one {s : Nat → Int} {b : ByteArray} {x c y d : Int} (h : HoAns s b x c) (k : HoAns s b y d) : x = y ∧ c = d := by
  rcases h with ⟨h1, rfl, rfl⟩ | ⟨h1, h2, rfl, rfl⟩ | ⟨h1, h2, rfl, rfl⟩ <;> rcases k with ⟨k1, rfl, rfl⟩ | ⟨k1, k2, rfl, rfl⟩ | ⟨k1, k2, rfl, rfl⟩ <;>
    first | exact ⟨rfl, rfl⟩ | exact absurd h1 k1 | exact absurd k1 h1 | exact absurd h2 k2 | exact absurd k2 h2

theorem two_new {w w1 : World} {cs ds : Array Value} {t u : TypeId} (h : Below ((w.alloc (.cells cs t)).alloc (.cells ds u)).heap.size ((w.alloc (.cells cs t)).alloc (.cells ds u)) w1) :
    Box w1 w.heap.size cs t ∧ Box w1 (w.heap.size + 1) ds u ∧ Below w.heap.size w w1 ∧ w.heap.size + 1 < w1.heap.size := by
  have h2 := bnew h
  have e : (w.alloc (.cells cs t)).heap.size = w.heap.size + 1 := by simp
  have k2 := box_new (w.alloc (.cells cs t)) ds u
  rw [e] at k2
  have z := bsize h
  rw [e] at z
  exact ⟨(box_new w cs t).below h2 (by simp), k2.below h (by simp), bnew h2, z⟩

end Go.Proofs.Ythncbkgklhbcjaa

namespace Go.Proofs.Ythncbkgklhbcjaa
open Go.RowKit F256
set_option linter.unusedVariables false
set_option linter.unusedSimpArgs false

theorem box_new9 {w w1 : World} {cs : Array Value} {t : TypeId} (h : Below (w.alloc (.cells cs t)).heap.size (w.alloc (.cells cs t)) w1) :
    Box w1 w.heap.size cs t ∧ Below w.heap.size w w1 ∧ w.heap.size < w1.heap.size :=
  ⟨(box_new w cs t).below h (by simp), bnew h, bsize h⟩

theorem keep9 {B : Nat} {w W w2 : World} {cs : Array Value} {t : TypeId} (hX : Box W B cs t) (hB : Below B w W) (hb : Below W.heap.size W w2) : Box w2 B cs t ∧ Below B w w2 :=
  ⟨hX.below hb hX.lt, hB.trans (hb.mono (Nat.le_of_lt hX.lt))⟩

/-- what PartsFor answers -/
def PfAns (s : Nat → Int) (l x c : Int) : Prop :=
  (¬ OkShape s ∧ c = 3 ∧ x = 0) ∨ (OkShape s ∧ l < 1 ∧ c = 6 ∧ x = 0) ∨ (OkShape s ∧ 1 ≤ l ∧ 3 * (s 2 * 4) < l ∧ c = 2 ∧ x = 0) ∨ (OkShape s ∧ 1 ≤ l ∧ l ≤ 3 * (s 2 * 4) ∧ c = 0 ∧ x = (l + s 2 * 4 - 1) / (s 2 * 4))
theorem PfAns.one {s : Nat → Int} {l x c y d : Int} (h : PfAns s l x c) (k : PfAns s l y d) : x = y ∧ c = d := by
  rcases h with ⟨h1, rfl, rfl⟩ | ⟨h1, h2, rfl, rfl⟩ | ⟨h1, h2, h3, rfl, rfl⟩ | ⟨h1, h2, h3, rfl, rfl⟩ <;> rcases k with ⟨k1, rfl, rfl⟩ | ⟨k1, k2, rfl, rfl⟩ | ⟨k1, k2, k3, rfl, rfl⟩ | ⟨k1, k2, k3, rfl, rfl⟩ <;>
    first | exact ⟨rfl, rfl⟩ | exact absurd h1 k1 | exact absurd k1 h1 | (exfalso; omega)

end Go.Proofs.Ythncbkgklhbcjaa

namespace Go.Proofs.Ythncbkgklhbcjaa
open Go.RowKit F256
set_option linter.unusedVariables false
set_option linter.unusedSimpArgs false

theorem RdI.part {w : World} {hi : Nat} {b off n cap k : Nat} {g : Nat → Int} (r : RdI w hi (.slice (some ⟨b, off, none⟩) n cap) n g) (h : k ≤ n) (h0 : n ≠ 0) : RdI w hi (.slice (some ⟨b, off, none⟩) k cap) k g := by
  obtain ⟨ao, cap', e, hm, hc⟩ := r
  cases e
  obtain ⟨b', off', e, h1, h2⟩ := hc h0
  cases e
  exact ⟨_, _, rfl, by omega, fun _ => ⟨b, off, rfl, h1, fun i hi => h2 i (by omega)⟩⟩
theorem RdI.mx {w : World} {hi : Nat} {v : Value} {n : Nat} {g : Nat → Int} (r : RdI w hi v n g) : n ≤ maxLen := by
  obtain ⟨ao, cap', e, hm, hc⟩ := r
  exact hm

/-- a record's value -/
def recC (r : RecD) (v6 v7 v8 : Value) : Array Value := #[.int .i64 r.kind, .int .i64 r.seq, .string r.name, .int .i64 r.length, .int .i64 r.group, .int .i64 r.row, v6, v7, v8]
theorem rec_val {w : World} {hi : Nat} {r : RecD} {cs : List Value} (h : layRec.rd w hi r cs) : ∃ ao6 cap6 ao7 cap7 ao8 cap8, cs.toArray = recC r (.slice ao6 r.rows.1 cap6) (.slice ao7 r.data.1 cap7) (.slice ao8 r.delta.1 cap8) := by
  obtain ⟨ao6, cap6, ao7, cap7, ao8, cap8, rfl, _⟩ := Rec_rd h
  exact ⟨ao6, cap6, ao7, cap7, ao8, cap8, rfl⟩
theorem nm_iff (b : ByteArray) : b.toList.isEmpty = true ↔ b = ByteArray.empty := by
  have e : b.toList = b.data.toList := ByteArray.toList_eq b
  rw [e]
  cases b with | mk x =>
  constructor
  · intro h
    have : x = #[] := by simpa using h
    subst this
    rfl
  · intro h
    have : x = #[] := congrArg ByteArray.data h
    subst this
    rfl
/-- nothing is in these fields -/
def EmptyQ (nm : ByteArray) (ln gr rw_ : Int) (n6 n7 n8 : Nat) : Prop := nm = ByteArray.empty ∧ ln = 0 ∧ gr = 0 ∧ rw_ = 0 ∧ n6 = 0 ∧ n7 = 0 ∧ n8 = 0
end Go.Proofs.Ythncbkgklhbcjaa

namespace Go.Proofs.Ythncbkgklhbcjaa
open Go.RowKit F256
set_option linter.unusedVariables false
set_option linter.unusedSimpArgs false

theorem l5All_any (s : Nat → Int) (h : OkShape s) (w : World) :
    Calls Try.prog 31 #[shapeV s] w fun e w' => e = .returned (.int .i64 (s 0 + s 1)) ∧ Below w.heap.size w w' := by
  obtain ⟨h1, h2, _⟩ := h
  unfold Shp3 at h1
  have B0 := (one_new w #[.int .i64 (s 0), .int .i64 (s 1), .int .i64 (s 2), .int .i64 (s 3), .int .i64 (s 4), .int .i64 (s 5), .int .i64 (s 6), .int .i64 (s 7), .int .i64 (s 8)] 38).bel
  unfold shapeV
  have hw : -9223372036854775808 ≤ s 0 + s 1 ∧ s 0 + s 1 ≤ 9223372036854775807 := by omega
  go_enter Try.func31, Try.ntmps31
  go_wp2
  go_ret
  exact ⟨rfl, B0⟩
end Go.Proofs.Ythncbkgklhbcjaa

namespace Go.Proofs.Ythncbkgklhbcjaa
open Go.RowKit F256
set_option linter.unusedVariables false
set_option linter.unusedSimpArgs false

end Go.Proofs.Ythncbkgklhbcjaa

namespace Go.Proofs.Ythncbkgklhbcjaa
open Go.RowKit F256
set_option linter.unusedVariables false
set_option linter.unusedSimpArgs false

end Go.Proofs.Ythncbkgklhbcjaa

namespace Go.Proofs.Ythncbkgklhbcjaa
open Go.RowKit F256
set_option linter.unusedVariables false
set_option linter.unusedSimpArgs false

theorem inBounds_b {x a b : Int} {t : Bool} (hab : a ≤ b) (ht : t = true ↔ InP x a b) (w : World) :
    Calls Try.prog 33 #[.int .i64 x, .int .i64 a, .int .i64 b] w fun e w' => e = .returned (.bool t) ∧ w' = w := by
  by_cases h1 : a ≤ x
  · by_cases h2 : x ≤ b
    · obtain rfl : t = true := ht.2 ⟨h1, h2⟩
      clear ht hab
      go_enter Try.func33, Try.ntmps33
      go_wp2
      go_ret
      exact ⟨rfl, rfl⟩
    · obtain rfl : t = false := by
        cases t with
        | false => rfl
        | true => exact absurd (ht.1 rfl).2 h2
      clear ht hab
      have hd : decide (x ≤ b) = false := decide_eq_false h2
      go_enter Try.func33, Try.ntmps33
      go_wp2
      go_ret
      exact ⟨rfl, rfl⟩
  · obtain rfl : t = false := by
      cases t with
      | false => rfl
      | true => exact absurd (ht.1 rfl).1 h1
    clear ht hab
    have hd : decide (a ≤ x) = false := decide_eq_false h1
    go_enter Try.func33, Try.ntmps33
    go_wp2
    go_ret
    exact ⟨rfl, rfl⟩
theorem groupCount_any (s : Nat → Int) (h : OkShape s) (w : World) :
    Calls Try.prog 34 #[shapeV s] w fun e w' => e = .returned (.int .i64 (s 0 + s 1)) ∧ Below w.heap.size w w' := by
  obtain ⟨h1, h2, _⟩ := h
  unfold Shp3 at h1
  have B0 := (one_new w #[.int .i64 (s 0), .int .i64 (s 1), .int .i64 (s 2), .int .i64 (s 3), .int .i64 (s 4), .int .i64 (s 5), .int .i64 (s 6), .int .i64 (s 7), .int .i64 (s 8)] 38).bel
  unfold shapeV
  have hw : -9223372036854775808 ≤ s 0 + s 1 ∧ s 0 + s 1 ≤ 9223372036854775807 := by omega
  go_enter Try.func34, Try.ntmps34
  go_wp2
  go_ret
  exact ⟨rfl, B0⟩
theorem okB {s : Nat → Int} (h : OkShape s) : 1 ≤ s 0 ∧ s 0 ≤ 4 ∧ 0 ≤ s 1 ∧ s 1 ≤ 2 ∧ 1 ≤ s 2 ∧ s 2 ≤ 3 ∧ 0 ≤ s 3 ∧ s 3 ≤ 2 ∧ 1 ≤ s 4 ∧ s 4 ≤ 6 ∧ 1 ≤ s 5 ∧ s 5 ≤ 6 := by
  obtain ⟨h1, h2, h3, h4, _⟩ := h
  unfold Shp3 at h1
  unfold Shp at h2
  omega
end Go.Proofs.Ythncbkgklhbcjaa

namespace Go.Proofs.Ythncbkgklhbcjaa
open Go.RowKit F256
set_option linter.unusedVariables false
set_option linter.unusedSimpArgs false

/-- what ReadBound answers -/
def RbAns (s : Nat → Int) (p x c : Int) : Prop := (¬ OkShape s ∧ c = 3 ∧ x = 0) ∨ (OkShape s ∧ ¬ InP p 0 (s 7 - 1) ∧ c = 3 ∧ x = 0) ∨ (OkShape s ∧ InP p 0 (s 7 - 1) ∧ c = 0 ∧ x = (s 0 + s 1) * (p / s 6 + 1))
theorem RbAns.one {s : Nat → Int} {p x c y d : Int} (h : RbAns s p x c) (k : RbAns s p y d) : x = y ∧ c = d := by
  rcases h with ⟨h1, rfl, rfl⟩ | ⟨h1, h2, rfl, rfl⟩ | ⟨h1, h2, rfl, rfl⟩ <;> rcases k with ⟨k1, rfl, rfl⟩ | ⟨k1, k2, rfl, rfl⟩ | ⟨k1, k2, rfl, rfl⟩ <;> first | exact ⟨rfl, rfl⟩ | exact absurd h1 k1 | exact absurd k1 h1 | exact absurd h2 k2 | exact absurd k2 h2
theorem rb_ans (s : Nat → Int) (p : Int) : ∃ x c, RbAns s p x c := by
  by_cases h : OkShape s
  · by_cases k : InP p 0 (s 7 - 1)
    · exact ⟨_, 0, .inr (.inr ⟨h, k, rfl, rfl⟩)⟩
    · exact ⟨0, 3, .inr (.inl ⟨h, k, rfl, rfl⟩)⟩
  · exact ⟨0, 3, .inl ⟨h, rfl, rfl⟩⟩

set_option maxHeartbeats 8000000 in
theorem specRb_any (s : Nat → Int) (p : Int) (w : World) :
    Calls Try.prog 16 #[shapeV s, .int .i64 p] w fun e w' => ∃ x c, e = .returned (intR c x) ∧ RbAns s p x c ∧ Below w.heap.size w w' := by
  unfold shapeV
  go_enter Try.func16, Try.ntmps16
  go_wp2_with fail
  refine (specShape_any s _).mono ?_
  rintro e w1 ⟨x, rfl, hx, B1'⟩
  obtain ⟨X1, X2, B1, z1⟩ := two_new B1'
  obtain ⟨x0, x1, x2, x3, x4, x5, x6, x7, x8⟩ := box9 X1
  obtain ⟨y0, y1, y2, y3⟩ := res_cells X2
  clear B1'
  rcases hx with ⟨rfl, hx⟩ | ⟨rfl, hx⟩
  · have HN : Hid (¬ OkShape s) := hx
    clear hx
    go_wp2
    exact bodyPost_ret (v := intR 3 0) (by simp [results, Try.results16, go_sem, intR, y0, y1]) rfl ⟨0, 3, rfl, .inl ⟨HN.out, rfl, rfl⟩, (B1.setCell (Nat.le_succ _) _).setCell (Nat.le_succ _) _⟩
  · have HO : Hid (OkShape s) := hx
    have q7 : 1 ≤ s 7 ∧ s 7 ≤ 6 := hx.2.2.2.2.2.1
    have q6 : 1 ≤ s 6 ∧ s 6 ≤ 4 := hx.2.2.2.2.1
    have q1 : 1 ≤ s 0 + s 1 ∧ s 0 + s 1 ≤ 2000 := by have := hx.1; unfold Shp3 at this; omega
    obtain ⟨b, hb⟩ := exB (InP p 0 (s 7 - 1))
    have CB := fun w' => l1In_b (w := w') hb
    have HB : Hid (b = true ↔ InP p 0 (s 7 - 1)) := hb
    have w7 : IntKind.i64.wrap (s 7 - 1) = s 7 - 1 := by rw [IntKind.wrap_i64]; omega
    clear hx hb
    go_wp2_with fail
    refine (CB _).mono ?_
    rintro e w2 ⟨rfl, hw2⟩
    obtain rfl := hw2.symm
    cases b
    · have HNI : Hid (¬ InP p 0 (s 7 - 1)) := fun h => by have := HB.out.mpr h; cases this
      clear HB CB
      go_wp2
      exact bodyPost_ret (v := intR 3 0) (by simp [results, Try.results16, go_sem, intR, y0, y1]) rfl ⟨0, 3, rfl, .inr (.inl ⟨HO.out, HNI.out, rfl, rfl⟩), (B1.setCell (Nat.le_succ _) _).setCell (Nat.le_succ _) _⟩
    · have HI : Hid (InP p 0 (s 7 - 1)) := HB.out.mp rfl
      clear HB CB
      have C := l5All_any s HO.out
      unfold shapeV at C
      have HIP := HI.out
      unfold InP at HIP
      have e0 : Int.tdiv p (s 6) = p / s 6 := Int.tdiv_eq_ediv_of_nonneg (by omega)
      have d0 : 0 ≤ p / s 6 := Int.ediv_nonneg (by omega) (by omega)
      have d1 : p / s 6 ≤ p := Int.ediv_le_self _ (by omega)
      have m1 : 0 ≤ (s 0 + s 1) * (p / s 6 + 1) := Int.mul_nonneg (by omega) (by omega)
      have m2 : (s 0 + s 1) * (p / s 6 + 1) ≤ 2000 * 7 := Int.mul_le_mul q1.2 (by omega) (by omega) (by omega)
      have HX1 : Hid (Box w1 w.heap.size #[.int .i64 (s 0), .int .i64 (s 1), .int .i64 (s 2), .int .i64 (s 3), .int .i64 (s 4), .int .i64 (s 5), .int .i64 (s 6), .int .i64 (s 7), .int .i64 (s 8)] 38) := X1
      have HX2 := X2
      have hs6 : ¬ s 6 = 0 := by omega
      have v1 : wrap64 (p / s 6) = p / s 6 := IntWalk.wrap64_in _ ⟨by omega, by omega⟩
      have u1 : IntKind.i64.wrap (p / s 6) = p / s 6 := by rw [IntKind.wrap_i64]; omega
      have v2 : IntKind.i64.wrap (p / s 6 + 1) = p / s 6 + 1 := by rw [IntKind.wrap_i64]; omega
      have v3 : IntKind.i64.wrap ((s 0 + s 1) * (p / s 6 + 1)) = (s 0 + s 1) * (p / s 6 + 1) := by rw [IntKind.wrap_i64]; omega
      clear HIP X1 X2
      go_wp2_with fail
      go_region_with (go_at_call 31; refine (C _).mono ?_; rintro ee w3 ⟨rfl, b3⟩; have b3' : Below w1.heap.size w1 w3 := (below_drewN (Below.refl _ _) 1).trans b3; obtain ⟨p0, p1, p2, p3, p4, p5, p6, p7, p8⟩ := box9 (HX1.out.call b3'); obtain ⟨r0, r1, r2, r3⟩ := res_cells (HX2.call b3'))
      all_goals
        clear e0 d0 d1 m1 m2 hs6
        go_wp2
        exact bodyPost_ret (v := intR 0 ((s 0 + s 1) * (p / s 6 + 1))) (by simp [results, Try.results16, go_sem, intR, r0, r1, u1, v2, v3]) rfl ⟨_, 0, rfl, .inr (.inr ⟨HO.out, HI.out, rfl, rfl⟩), ((B1.trans (b3'.mono B1.size)).setCell (Nat.le_succ _) _).setCell (Nat.le_succ _) _⟩
set_option maxHeartbeats 8000000 in
theorem implRb_any (s : Nat → Int) (p : Int) (w : World) :
    Calls Try.prog 18 #[shapeV s, .int .i64 p] w fun e w' => ∃ x c, e = .returned (intR c x) ∧ RbAns s p x c ∧ Below w.heap.size w w' := by
  unfold shapeV
  go_enter Try.func18, Try.ntmps18
  go_wp2_with fail
  refine (implShape_any s _).mono ?_
  rintro e w1 ⟨x, rfl, hx, B1'⟩
  obtain ⟨X1, X2, B1, z1⟩ := two_new B1'
  obtain ⟨x0, x1, x2, x3, x4, x5, x6, x7, x8⟩ := box9 X1
  obtain ⟨y0, y1, y2, y3⟩ := res_cells X2
  clear B1'
  rcases hx with ⟨rfl, hx⟩ | ⟨rfl, hx⟩
  · have HN : Hid (¬ OkShape s) := hx
    clear hx
    go_wp2
    exact bodyPost_ret (v := intR 3 0) (by simp [results, Try.results18, go_sem, intR, y0, y1]) rfl ⟨0, 3, rfl, .inl ⟨HN.out, rfl, rfl⟩, (B1.setCell (Nat.le_succ _) _).setCell (Nat.le_succ _) _⟩
  · have HO : Hid (OkShape s) := hx
    have q7 : 1 ≤ s 7 ∧ s 7 ≤ 6 := hx.2.2.2.2.2.1
    have q6 : 1 ≤ s 6 ∧ s 6 ≤ 4 := hx.2.2.2.2.1
    have q1 : 1 ≤ s 0 + s 1 ∧ s 0 + s 1 ≤ 2000 := by have := hx.1; unfold Shp3 at this; omega
    obtain ⟨b, hb⟩ := exB (InP p 0 (s 7 - 1))
    have CB := fun w' => inBounds_b (w := w') (by omega) hb
    have HB : Hid (b = true ↔ InP p 0 (s 7 - 1)) := hb
    have w7 : IntKind.i64.wrap (s 7 - 1) = s 7 - 1 := by rw [IntKind.wrap_i64]; omega
    clear hx hb
    go_wp2_with fail
    refine (CB _).mono ?_
    rintro e w2 ⟨rfl, hw2⟩
    obtain rfl := hw2.symm
    cases b
    · have HNI : Hid (¬ InP p 0 (s 7 - 1)) := fun h => by have := HB.out.mpr h; cases this
      clear HB CB
      go_wp2
      exact bodyPost_ret (v := intR 3 0) (by simp [results, Try.results18, go_sem, intR, y0, y1]) rfl ⟨0, 3, rfl, .inr (.inl ⟨HO.out, HNI.out, rfl, rfl⟩), (B1.setCell (Nat.le_succ _) _).setCell (Nat.le_succ _) _⟩
    · have HI : Hid (InP p 0 (s 7 - 1)) := HB.out.mp rfl
      clear HB CB
      have C := groupCount_any s HO.out
      unfold shapeV at C
      have HIP := HI.out
      unfold InP at HIP
      have e0 : Int.tdiv p (s 6) = p / s 6 := Int.tdiv_eq_ediv_of_nonneg (by omega)
      have d0 : 0 ≤ p / s 6 := Int.ediv_nonneg (by omega) (by omega)
      have d1 : p / s 6 ≤ p := Int.ediv_le_self _ (by omega)
      have m1 : 0 ≤ (s 0 + s 1) * (p / s 6 + 1) := Int.mul_nonneg (by omega) (by omega)
      have m2 : (s 0 + s 1) * (p / s 6 + 1) ≤ 2000 * 7 := Int.mul_le_mul q1.2 (by omega) (by omega) (by omega)
      have HX1 : Hid (Box w1 w.heap.size #[.int .i64 (s 0), .int .i64 (s 1), .int .i64 (s 2), .int .i64 (s 3), .int .i64 (s 4), .int .i64 (s 5), .int .i64 (s 6), .int .i64 (s 7), .int .i64 (s 8)] 38) := X1
      have HX2 := X2
      have hs6 : ¬ s 6 = 0 := by omega
      have v1 : wrap64 (p / s 6) = p / s 6 := IntWalk.wrap64_in _ ⟨by omega, by omega⟩
      have u1 : IntKind.i64.wrap (p / s 6) = p / s 6 := by rw [IntKind.wrap_i64]; omega
      have v2 : IntKind.i64.wrap (p / s 6 + 1) = p / s 6 + 1 := by rw [IntKind.wrap_i64]; omega
      have v3 : IntKind.i64.wrap ((s 0 + s 1) * (p / s 6 + 1)) = (s 0 + s 1) * (p / s 6 + 1) := by rw [IntKind.wrap_i64]; omega
      clear HIP X1 X2
      go_wp2_with fail
      go_region_with (go_at_call 34; refine (C _).mono ?_; rintro ee w3 ⟨rfl, b3⟩; have b3' : Below w1.heap.size w1 w3 := (below_drewN (Below.refl _ _) 1).trans b3; obtain ⟨p0, p1, p2, p3, p4, p5, p6, p7, p8⟩ := box9 (HX1.out.call b3'); obtain ⟨r0, r1, r2, r3⟩ := res_cells (HX2.call b3'))
      all_goals
        clear e0 d0 d1 m1 m2 hs6
        go_wp2
        exact bodyPost_ret (v := intR 0 ((s 0 + s 1) * (p / s 6 + 1))) (by simp [results, Try.results18, go_sem, intR, r0, r1, u1, v2, v3]) rfl ⟨_, 0, rfl, .inr (.inr ⟨HO.out, HI.out, rfl, rfl⟩), ((B1.trans (b3'.mono B1.size)).setCell (Nat.le_succ _) _).setCell (Nat.le_succ _) _⟩
end Go.Proofs.Ythncbkgklhbcjaa

namespace Go.Proofs.Ythncbkgklhbcjaa
open Go.ChangeShapes Go.WideShapes Go.ChangeAt Go.RowKit F256
set_option linter.unusedVariables false

theorem fnExactReadBound_ans (s : Nat → Int) (p : Int) : ∃ x c, RbAns s p x c := rb_ans s p
theorem fnExactReadBound_both (s0 : Nat → Int) (h0 : ∀ i, -9223372036854775808 ≤ s0 i ∧ s0 i ≤ 9223372036854775807) (a1 : Int) (h1 : -9223372036854775808 ≤ a1 ∧ a1 ≤ 9223372036854775807) : ∃ (c v : Int),
    (∀ w, Calls Try.prog 16 #[shapeV s0, .int .i64 a1] w fun e w' => e = .returned (intR c v) ∧ Below w.heap.size w w') ∧
    (∀ w, Calls Try.prog 18 #[shapeV s0, .int .i64 a1] w fun e w' => e = .returned (intR c v) ∧ Below w.heap.size w w') := by
  obtain ⟨v, c, hc⟩ := fnExactReadBound_ans s0 a1
  refine ⟨c, v, fun w => (specRb_any s0 a1 w).mono ?_, fun w => (implRb_any s0 a1 w).mono ?_⟩
  · rintro e w' ⟨x, d, rfl, hx, hb⟩
    obtain ⟨rfl, rfl⟩ := hx.one hc
    exact ⟨rfl, hb⟩
  · rintro e w' ⟨x, d, rfl, hx, hb⟩
    obtain ⟨rfl, rfl⟩ := hx.one hc
    exact ⟨rfl, hb⟩

set_option maxHeartbeats 4000000 in
theorem fnExactReadBound_walk (s0 : Nat → Int) (h0 : ∀ i, -9223372036854775808 ≤ s0 i ∧ s0 i ≤ 9223372036854775807) (a1 : Int) (h1 : -9223372036854775808 ≤ a1 ∧ a1 ≤ 9223372036854775807) (w : World) :
    Calls Try.prog 5 #[shapeV s0, .int .i64 a1] w fun e w' => e = .returned (.bool true) ∧ Below w.heap.size w w' := by
  obtain ⟨c, v, hs, hi⟩ := fnExactReadBound_both s0 h0 a1 h1
  have bel := Below.refl w.heap.size w
  have CT := toShape_any s0
  unfold shapeV at *
  go_enter Try.func5, Try.ntmps5
  go_wp2_with fail
  refine (CT _).mono ?_
  rintro e w1 ⟨rfl, bb⟩
  obtain ⟨XS, BS⟩ := box_first bb
  replace bel := BS
  clear BS
  clear bb
  go_wp2_with fail
  refine (hs _).mono ?_
  rintro e w2 ⟨rfl, bb⟩
  replace XS := XS.below bb XS.lt
  replace bel := bthen bel bb
  clear bb
  unfold intR
  obtain ⟨x0, x1, x2, x3, x4, x5, x6, x7, x8⟩ := box9 (XS.allocd (.cells #[.int .i64 c, .int .i64 v] 36))
  go_wp2_with fail
  refine (CT _).mono ?_
  rintro e w3 ⟨rfl, bb⟩
  replace XS := box_on XS bb
  obtain ⟨X, BX⟩ := box_first bb
  replace bel := bthen bel BX
  clear BX
  clear bb
  clear x0 x1 x2 x3 x4 x5 x6 x7 x8
  go_wp2_with fail
  refine (hi _).mono ?_
  rintro e w4 ⟨rfl, bb⟩
  replace XS := XS.below bb XS.lt
  replace X := X.below bb X.lt
  replace bel := bthen bel bb
  clear bb
  unfold intR
  obtain ⟨x0, x1, -, -⟩ := res_cells X
  have y0 := (cell_alloc_old _ (.cells #[.int .i64 c, .int .i64 v] 36) _ 0 X.lt).trans x0
  have y1 := (cell_alloc_old _ (.cells #[.int .i64 c, .int .i64 v] 36) _ 1 X.lt).trans x1
  go_wp2_with fail
  refine (eqInt_same c v _).mono ?_
  rintro e wz ⟨rfl, bz⟩
  replace bel := bthen bel (bnew bz)
  go_wp2
  go_ret
  exact ⟨rfl, bel⟩

set_option maxRecDepth 100000 in
theorem fnExactReadBound_lifted (os : Os) (started : os.Started) (H : Type) (enc : TypeId × Value → H) :
    ReturnsInHanded {} Try.checked os 5 .any (Rows.fnExactReadBoundSpec.pre6 enc Try.prog Try.f5 Rows.fnExactReadBoundRow.domain false) (Rows.fnExactReadBoundSpec.post enc Try.prog Try.f5 false true false false) := by
  refine returnsInHanded_of_change (C := Try.checked) frame_own started (by kernel_rfl) Try.func5
    (ChangeSpec.witness6 (enc := enc) (C := Try.checked) false ⟨#[], #[.agg #[.int .i64 0, .int .i64 0, .int .i64 0, .int .i64 0, .int .i64 0, .int .i64 0, .int .i64 0, .int .i64 0, .int .i64 0], .int .i64 0], []⟩ 8 (by kernel_rfl) (by kernel_rfl) (by kernel_rfl) (by kernel_rfl)) ?_
  intro W base args ds gs before hval0 hW hcnd _
  have hval : ∀ (j : Nat) t v, Try.f5.params[j]? = some t → args[j]? = some v → Value.okWide Try.prog W .any base t v := hval0
  have hW' := hW
  obtain ⟨p, q, hA0, hV, rfl, hfz, hnd⟩ := hW
  have hA : DataW.TrodAll enc Try.prog W 0 (fun _ => true) true Try.f5.params.toList args.toList ds p := hA0
  rw [Try.params5] at hA hval
  obtain ⟨v0, vs0, d0, ds0, p0, q0, hargs, rfl, rfl, h0, r0⟩ := trodAll_cons hA
  obtain ⟨v1, vs1, d1, ds1, p1, q1, rfl, rfl, rfl, h1, r1⟩ := trodAll_cons r0
  obtain ⟨rfl, rfl, rfl⟩ := trodAll_nil r1
  obtain rfl : args = #[v0, v1] := by cases args; simp_all
  obtain ⟨rfl, rfl⟩ := trodVars_none hV
  have k0 := h0
  have lt0 : ∀ x ∈ p0, x.block < W.heap.size := by obtain ⟨m, hm⟩ := k0; exact DataW.trod_lt m _ _ _ hm
  obtain ⟨s0, rfl, hs0⟩ := shape_of_trod Try.underlying34 Try.underlying2 (by kernel_rfl) (by kernel_rfl) (fun i hi => by
    match i, hi with
    | 0, _ => exact ⟨_, rfl, rfl, rfl⟩
    | 1, _ => exact ⟨_, rfl, rfl, rfl⟩
    | 2, _ => exact ⟨_, rfl, rfl, rfl⟩
    | 3, _ => exact ⟨_, rfl, rfl, rfl⟩
    | 4, _ => exact ⟨_, rfl, rfl, rfl⟩
    | 5, _ => exact ⟨_, rfl, rfl, rfl⟩
    | 6, _ => exact ⟨_, rfl, rfl, rfl⟩
    | 7, _ => exact ⟨_, rfl, rfl, rfl⟩
    | 8, _ => exact ⟨_, rfl, rfl, rfl⟩) (hval 0 34 v0 rfl rfl) h0
  obtain ⟨a1, rfl, rfl, rfl, w1⟩ := open_int Try.underlying2 (hval 1 2 v1 rfl rfl) h1
  clear hA0 hval0
  refine (fnExactReadBound_walk s0 hs0 a1 (bounds_i64 w1) W).mono fun e W' ⟨he, bel⟩ => ?_
  subst he
  exact ⟨_, rfl, _, _, _, [], _, [], hW', trodAll_mk1 (shut_bool Try.underlying4 _), (trodAll_cons_mk (Below.trod frame_laid (by kernel_rfl) (of_decide_eq_true (by kernel_rfl)) k0 bel lt0) (trodAll_cons_mk (shut_int Try.underlying2 w1) trodAll_mk0)), rfl, bel.frame _, fun h => by cases h⟩

theorem fnExactReadBound_proved : Rows.FnExactReadBoundSaid :=
  OpenClaim.holds_of_wide 5 Try.f5 rfl rfl rfl rfl rfl rfl rfl ⟨rfl, rfl, rfl, rfl, rfl⟩ rfl rfl rfl rfl rfl (by kernel_rfl) Try.func5 (by kernel_rfl)
    (of_decide_eq_true (by kernel_rfl)) (by unfold Func.isWrapper; first | (rw [if_pos (by decide +kernel)]; kernel_rfl) | (rw [if_neg (by decide +kernel)]; exact ⟨rfl, rfl⟩))
    (fun os started H enc _ => fnExactReadBound_lifted os started H enc)
#print axioms fnExactReadBound_proved
end Go.Proofs.Ythncbkgklhbcjaa
