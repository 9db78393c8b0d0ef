/- For every shape and every ticket the program's TicketFault answers as the specification's does and writes into nothing that it is handed: the law FnExactTicketFault returns true at every input, and changes nothing that was there. No condition. -/
import Derived.Test.YtbdiedcmhggnjaaRecDefs
import Derived.Test.YtbdiedcmhggnjaaWColD
import Derived.Lib.QuietBelow
import Derived.Test.YtbdiedcmhggnjaaWName
import Derived.Test.YtbdiedcmhggnjaaWInt
import Derived.Test.YtbdiedcmhggnjaaWRowA
import Derived.Test.YtbdiedcmhggnjaaWInts
import Derived.Test.YtbdiedcmhggnjaaWShape
import Derived.BigQuiet
import Derived.Deep.QuietTactic
import Derived.StillTailTactics
import Derived.Lib.MinMax
import Derived.Laws.StructEq
import Derived.Test.YtbdiedcmhggnjaaLay7
import Derived.Test.YtbdiedcmhggnjaaRows
import Derived.Test.YtbdiedcmhggnjaaOpensD
namespace Go.Proofs.Ytbdiedcmhggnjaa
open Go.RowKit F256
set_option linter.unusedVariables false

theorem q_below {f : Nat} {args : Array Value} {W : World} {v : Value} (h : ∀ w', Below W.heap.size W w' → Calls Try.prog f args w' fun e w'' => e = .returned v ∧ Below w'.heap.size w' w'') :
    ∀ d os, Calls Try.prog f args (Go.Sort.grow (redrawn W d) os) fun e w'' => e = .returned v ∧ ∃ p : Regrown, w'' = Go.Sort.grow (redrawn W p.d) p.os := fun d os => Calls.regrown_of (h _ (below_regrown W d os))
theorem q_same {f : Nat} {args : Array Value} {W : World} {v : Value} (h : ∀ w', Calls Try.prog f args w' fun e w'' => e = .returned v ∧ w'' = w') :
    ∀ d os, Calls Try.prog f args (Go.Sort.grow (redrawn W d) os) fun e w'' => e = .returned v ∧ ∃ p : Regrown, w'' = Go.Sort.grow (redrawn W p.d) p.os :=
  q_below fun w' _ => (h w').mono fun e w'' ⟨h1, h2⟩ => ⟨h1, by rw [h2]; exact Below.refl _ _⟩
theorem det_b {f : Nat} {args : Array Value} {w : World} {P : Prop} {b : Bool} (h : Calls Try.prog f args w (BoolP P w)) (hb : b = true ↔ P) : Calls Try.prog f args w fun e w' => e = .returned (.bool b) ∧ Below w.heap.size w w' :=
  h.mono fun e w' ⟨b', h1, h2, h3⟩ => ⟨by rw [h1]; congr 2; cases b <;> cases b' <;> simp_all, h3⟩
/-- l1In, told by a bool -/
theorem l1In_b {v a b : Int} {t : Bool} (ht : t = true ↔ InP v a b) (w : World) :
    Calls Try.prog 16 #[.int .i64 v, .int .i64 a, .int .i64 b] w fun e w' => e = .returned (.bool t) ∧ w' = w := by
  cases t with
  | true => exact l1In_yes v a b (ht.1 rfl).1 (ht.1 rfl).2 w
  | false =>
    have : ¬ InP v a b := fun h => by have := ht.2 h; cases this
    exact l1In_no v a b (by unfold InP at this; omega) w
theorem below_rg {W w' : World} (h : ∃ p : Regrown, w' = Go.Sort.grow (redrawn W p.d) p.os) : Below W.heap.size W w' := by
  obtain ⟨p, rfl⟩ := h
  exact below_regrown W p.d p.os
/-- the walk in the text's order, behind a wall (what is behind it is not looked into) -/
structure WQ (P : Program) (ops : Array Oper) (C : World → Prop) (Q : Act → Prop) (l : List Oper) (a : Act) : Prop where
  out : wpQuiet P ops C Q l a
theorem WQ.skip {P : Program} {ops : Array Oper} {C : World → Prop} {Q : Act → Prop} {a : Act} {o : Oper} {rest : List Oper} (hw : Region.wanted o (yielded ops a.tmps) = false)
    (h : ∀ K : Act → Prop, (∀ a, WQ P ops C Q rest a → K a) → K (a.put o.dst undef)) : WQ P ops C Q (o :: rest) a := by
  refine ⟨?_⟩
  unfold wpQuiet
  rw [if_neg (by rw [hw]; decide)]
  exact (h _ (fun _ h => h)).out
theorem WQ.want {P : Program} {ops : Array Oper} {C : World → Prop} {Q : Act → Prop} {a : Act} {o : Oper} {rest : List Oper} (hw : Region.wanted o (yielded ops a.tmps) = true)
    (h : ∀ K : Act → Prop, (∀ a, WQ P ops C Q rest a → K a) → o.quiet P a C K) : WQ P ops C Q (o :: rest) a := by
  refine ⟨?_⟩
  unfold wpQuiet
  rw [if_pos hw]
  exact Oper.quiet_mono (fun a h => h.out) (h _ (fun _ h => h))
theorem WQ.nil {P : Program} {ops : Array Oper} {C : World → Prop} {Q : Act → Prop} {a : Act} (h : Q a) : WQ P ops C Q [] a := ⟨wpQuiet_nil h⟩
theorem WQ.region {P : Program} {id : Nat} {Q : Exit → Act → World → Prop} {a : Act} {w : World} {l : List Oper} (hm : P.follows .mixedOrders = true) (hB : Region.lexB .any l.toArray = true)
    (h : WQ P l.toArray (fun w' => ∃ p : Regrown, w' = Go.Sort.grow (redrawn w p.d) p.os) (fun a' => ∀ w', (∃ p : Regrown, w' = Go.Sort.grow (redrawn w p.d) p.os) → Q .normal a' w') l a) : (Code.region id l.toArray true).wp P Q a w := wp_region_quiet_below hm hB h.out
end Go.Proofs.Ytbdiedcmhggnjaa

namespace Go.Proofs.Ytbdiedcmhggnjaa
open Go.RowKit F256
set_option linter.unusedVariables false
set_option linter.unusedSimpArgs false

/-- the sum of a name's first bytes -/
def nameSum (b : ByteArray) : Nat → Nat
  | 0 => 0
  | k + 1 => nameSum b k + nameByte b k
theorem nameSum_lt (b : ByteArray) (k : Nat) : nameSum b k ≤ 255 * k := by
  induction k with
  | zero => exact Nat.le_refl _
  | succ k ih => have := nameByte_lt b k; simp only [nameSum]; omega

set_option maxHeartbeats 4000000 in
theorem specHome_in (s : Nat → Int) (b : ByteArray) (hb : b.size ≤ 8) (hg : 1 ≤ s 0) (hg2 : s 0 ≤ 1000) (w : World) :
    Calls Try.prog 18 #[shapeV s, .string b] w fun e w' => e = .returned (.int .i64 ((nameSum b b.size : Int) % s 0)) ∧ Below w.heap.size w w' := by
  unfold shapeV
  obtain ⟨a0, h0⟩ : ∃ a, a = s 0 := ⟨_, rfl⟩
  rw [← h0] at hg hg2 ⊢
  clear h0
  go_enter Try.func18, Try.ntmps18
  go_wp2
  have B0 : Below w.heap.size w (w.alloc (.cells #[.int .i64 a0, .int .i64 (s 1), .int .i64 (s 2), .int .i64 (s 3), .int .i64 (s 4), .int .i64 (s 5), .int .i64 (s 6), .int .i64 (s 7), .int .i64 (s 8)] 28)) := bnew (Below.refl _ _)
  go_loop [5, 6] (fun n i => ∃ k : Nat, k ≤ b.size ∧ n = .int .i64 (nameSum b k : Int) ∧ i = .int .i64 k) (fun n i => b.size - (intOf i).toNat)
  case atStart => exact ⟨0, Nat.zero_le _, rfl, rfl⟩
  case round =>
    obtain ⟨k, hk, rfl, rfl⟩ := hrel
    have hs1 := nameSum_lt b k
    by_cases hlt : k < b.size
    · have hik := index_name b k hlt
      have hz0 := nameByte_lt b k
      have HS : Hid (nameSum b (k + 1) = nameSum b k + nameByte b k) := rfl
      obtain ⟨z, hz⟩ : ∃ z, z = nameByte b k := ⟨_, rfl⟩
      rw [← hz] at hik HS hz0
      clear hz
      obtain ⟨m, hm⟩ : ∃ m, m = nameSum b k := ⟨_, rfl⟩
      rw [← hm] at hs1 HS ⊢
      clear hm
      go_wp2
      go_round
      case rel => exact ⟨k + 1, by omega, by rw [HS.out]; go_num, by go_num⟩
      case measure => simp [intOf]; omega
    · obtain rfl : k = b.size := by omega
      obtain ⟨m, hm⟩ : ∃ m, m = nameSum b b.size := ⟨_, rfl⟩
      rw [← hm] at hs1 ⊢
      have HM : Hid (m = nameSum b b.size) := hm
      clear hm
      go_wp2
      go_ret
      exact ⟨by rw [← HM.out]; rfl, B0⟩

/-- what HomeOf answers -/
def HoAns (s : Nat → Int) (b : ByteArray) (x c : Int) : Prop :=
  (¬ OkShape s ∧ c = 3 ∧ x = 0) ∨ (OkShape s ∧ ¬ OkName b ∧ c = 5 ∧ x = 0) ∨ (OkShape s ∧ OkName b ∧ c = 0 ∧ x = (nameSum b b.size : Int) % s 0)
theorem HoAns.one {s : Nat → Int} {b : ByteArray} {x c y d : Int} (h : HoAns s b x c) (k : HoAns s b y d) : x = y ∧ c = d := by
  rcases h with ⟨h1, rfl, rfl⟩ | ⟨h1, h2, rfl, rfl⟩ | ⟨h1, h2, rfl, rfl⟩ <;> rcases k with ⟨k1, rfl, rfl⟩ | ⟨k1, k2, rfl, rfl⟩ | ⟨k1, k2, rfl, rfl⟩ <;>
    first | exact ⟨rfl, rfl⟩ | exact absurd h1 k1 | exact absurd k1 h1 | exact absurd h2 k2 | exact absurd k2 h2

theorem two_new {w w1 : World} {cs ds : Array Value} {t u : TypeId} (h : Below ((w.alloc (.cells cs t)).alloc (.cells ds u)).heap.size ((w.alloc (.cells cs t)).alloc (.cells ds u)) w1) :
    Box w1 w.heap.size cs t ∧ Box w1 (w.heap.size + 1) ds u ∧ Below w.heap.size w w1 ∧ w.heap.size + 1 < w1.heap.size := by
  have h2 := bnew h
  have e : (w.alloc (.cells cs t)).heap.size = w.heap.size + 1 := by simp
  have k2 := box_new (w.alloc (.cells cs t)) ds u
  rw [e] at k2
  have z := bsize h
  rw [e] at z
  exact ⟨(box_new w cs t).below h2 (by simp), k2.below h (by simp), bnew h2, z⟩

end Go.Proofs.Ytbdiedcmhggnjaa

namespace Go.Proofs.Ytbdiedcmhggnjaa
open Go.RowKit F256
set_option linter.unusedVariables false
set_option linter.unusedSimpArgs false

theorem box_new9 {w w1 : World} {cs : Array Value} {t : TypeId} (h : Below (w.alloc (.cells cs t)).heap.size (w.alloc (.cells cs t)) w1) :
    Box w1 w.heap.size cs t ∧ Below w.heap.size w w1 ∧ w.heap.size < w1.heap.size :=
  ⟨(box_new w cs t).below h (by simp), bnew h, bsize h⟩

theorem keep9 {B : Nat} {w W w2 : World} {cs : Array Value} {t : TypeId} (hX : Box W B cs t) (hB : Below B w W) (hb : Below W.heap.size W w2) : Box w2 B cs t ∧ Below B w w2 :=
  ⟨hX.below hb hX.lt, hB.trans (hb.mono (Nat.le_of_lt hX.lt))⟩

/-- what PartsFor answers -/
def PfAns (s : Nat → Int) (l x c : Int) : Prop :=
  (¬ OkShape s ∧ c = 3 ∧ x = 0) ∨ (OkShape s ∧ l < 1 ∧ c = 6 ∧ x = 0) ∨ (OkShape s ∧ 1 ≤ l ∧ 3 * (s 2 * 4) < l ∧ c = 2 ∧ x = 0) ∨ (OkShape s ∧ 1 ≤ l ∧ l ≤ 3 * (s 2 * 4) ∧ c = 0 ∧ x = (l + s 2 * 4 - 1) / (s 2 * 4))
theorem PfAns.one {s : Nat → Int} {l x c y d : Int} (h : PfAns s l x c) (k : PfAns s l y d) : x = y ∧ c = d := by
  rcases h with ⟨h1, rfl, rfl⟩ | ⟨h1, h2, rfl, rfl⟩ | ⟨h1, h2, h3, rfl, rfl⟩ | ⟨h1, h2, h3, rfl, rfl⟩ <;> rcases k with ⟨k1, rfl, rfl⟩ | ⟨k1, k2, rfl, rfl⟩ | ⟨k1, k2, k3, rfl, rfl⟩ | ⟨k1, k2, k3, rfl, rfl⟩ <;>
    first | exact ⟨rfl, rfl⟩ | exact absurd h1 k1 | exact absurd k1 h1 | (exfalso; omega)

end Go.Proofs.Ytbdiedcmhggnjaa

namespace Go.Proofs.Ytbdiedcmhggnjaa
open Go.RowKit F256
set_option linter.unusedVariables false
set_option linter.unusedSimpArgs false

theorem RdI.part {w : World} {hi : Nat} {b off n cap k : Nat} {g : Nat → Int} (r : RdI w hi (.slice (some ⟨b, off, none⟩) n cap) n g) (h : k ≤ n) (h0 : n ≠ 0) : RdI w hi (.slice (some ⟨b, off, none⟩) k cap) k g := by
  obtain ⟨ao, cap', e, hm, hc⟩ := r
  cases e
  obtain ⟨b', off', e, h1, h2⟩ := hc h0
  cases e
  exact ⟨_, _, rfl, by omega, fun _ => ⟨b, off, rfl, h1, fun i hi => h2 i (by omega)⟩⟩
theorem RdI.mx {w : World} {hi : Nat} {v : Value} {n : Nat} {g : Nat → Int} (r : RdI w hi v n g) : n ≤ maxLen := by
  obtain ⟨ao, cap', e, hm, hc⟩ := r
  exact hm

/-- a record's value -/
def recC (r : RecD) (v6 v7 v8 : Value) : Array Value := #[.int .i64 r.kind, .int .i64 r.seq, .string r.name, .int .i64 r.length, .int .i64 r.group, .int .i64 r.row, v6, v7, v8]
theorem rec_val {w : World} {hi : Nat} {r : RecD} {cs : List Value} (h : layRec.rd w hi r cs) : ∃ ao6 cap6 ao7 cap7 ao8 cap8, cs.toArray = recC r (.slice ao6 r.rows.1 cap6) (.slice ao7 r.data.1 cap7) (.slice ao8 r.delta.1 cap8) := by
  obtain ⟨ao6, cap6, ao7, cap7, ao8, cap8, rfl, _⟩ := Rec_rd h
  exact ⟨ao6, cap6, ao7, cap7, ao8, cap8, rfl⟩
theorem nm_iff (b : ByteArray) : b.toList.isEmpty = true ↔ b = ByteArray.empty := by
  have e : b.toList = b.data.toList := ByteArray.toList_eq b
  rw [e]
  cases b with | mk x =>
  constructor
  · intro h
    have : x = #[] := by simpa using h
    subst this
    rfl
  · intro h
    have : x = #[] := congrArg ByteArray.data h
    subst this
    rfl
/-- nothing is in these fields -/
def EmptyQ (nm : ByteArray) (ln gr rw_ : Int) (n6 n7 n8 : Nat) : Prop := nm = ByteArray.empty ∧ ln = 0 ∧ gr = 0 ∧ rw_ = 0 ∧ n6 = 0 ∧ n7 = 0 ∧ n8 = 0
end Go.Proofs.Ytbdiedcmhggnjaa

namespace Go.Proofs.Ytbdiedcmhggnjaa
open Go.RowKit F256
set_option linter.unusedVariables false
set_option linter.unusedSimpArgs false

theorem l5All_any (s : Nat → Int) (h : OkShape s) (w : World) :
    Calls Try.prog 19 #[shapeV s] w fun e w' => e = .returned (.int .i64 (s 0 + s 1)) ∧ Below w.heap.size w w' := by
  obtain ⟨h1, h2, _⟩ := h
  unfold Shp3 at h1
  have B0 := (one_new w #[.int .i64 (s 0), .int .i64 (s 1), .int .i64 (s 2), .int .i64 (s 3), .int .i64 (s 4), .int .i64 (s 5), .int .i64 (s 6), .int .i64 (s 7), .int .i64 (s 8)] 28).bel
  unfold shapeV
  have hw : -9223372036854775808 ≤ s 0 + s 1 ∧ s 0 + s 1 ≤ 9223372036854775807 := by omega
  go_enter Try.func19, Try.ntmps19
  go_wp2
  go_ret
  exact ⟨rfl, B0⟩
end Go.Proofs.Ytbdiedcmhggnjaa

namespace Go.Proofs.Ytbdiedcmhggnjaa
open Go.RowKit F256
set_option linter.unusedVariables false
set_option linter.unusedSimpArgs false

end Go.Proofs.Ytbdiedcmhggnjaa

namespace Go.Proofs.Ytbdiedcmhggnjaa
open Go.RowKit

theorem Box.allocd {w : World} {b : Nat} {cs : Array Value} {t : TypeId} (h : Box w b cs t) (o : Obj) : Box (w.alloc o) b cs t := (Below.heap_alloc w o b h.lt).trans h
theorem box_first {w w1 : World} {cs : Array Value} {t : TypeId} (h : Below (w.alloc (.cells cs t)).heap.size (w.alloc (.cells cs t)) w1) : Box w1 w.heap.size cs t ∧ Below w.heap.size w w1 :=
  ⟨(box_new w cs t).below h (by simp), bnew h⟩
theorem box_on {B : Nat} {w w1 : World} {cs : Array Value} {t : TypeId} {o : Obj} (hX : Box w B cs t) (h : Below (w.alloc o).heap.size (w.alloc o) w1) : Box w1 B cs t := (hX.allocd o).below h (hX.allocd o).lt
end Go.Proofs.Ytbdiedcmhggnjaa

namespace Go.Proofs.Ytbdiedcmhggnjaa
open Go.RowKit F256
set_option linter.unusedVariables false
set_option linter.unusedSimpArgs false

theorem nearest_any (x a b : Int) (w : World) :
    Calls Try.prog 42 #[.int .i64 x, .int .i64 a, .int .i64 b] w fun e w' => e = .returned (.int .i64 (max a (min x b))) ∧ w' = w := by
  go_enter Try.func42, Try.ntmps42
  go_wp2
  go_ret
  exact ⟨rfl, rfl⟩

/-- x moved to the nearest number from a to b -/
def nearZ (x a b : Int) : Int := max a (min x b)
theorem nearZ_iff (x a b : Int) (h : a ≤ b) : x = nearZ x a b ↔ a ≤ x ∧ x ≤ b := by
  unfold nearZ
  omega
theorem nearest_z (x a b : Int) (w : World) :
    Calls Try.prog 42 #[.int .i64 x, .int .i64 a, .int .i64 b] w fun e w' => e = .returned (.int .i64 (nearZ x a b)) ∧ w' = w := nearest_any x a b w

set_option maxRecDepth 20000 in
set_option maxHeartbeats 8000000 in
theorem nearestShape_any (a0 a1 a2 a3 a4 a5 a6 a7 a8 : Int) (w : World) :
    Calls Try.prog 30 #[.agg #[.int .i64 a0, .int .i64 a1, .int .i64 a2, .int .i64 a3, .int .i64 a4, .int .i64 a5, .int .i64 a6, .int .i64 a7, .int .i64 a8]] w fun e w' => e = .returned (.agg #[.int .i64 (nearZ a0 1 4), .int .i64 (nearZ a1 0 2), .int .i64 (nearZ a2 1 3), .int .i64 (nearZ a3 0 2), .int .i64 (nearZ a4 1 6), .int .i64 (nearZ a5 1 6), .int .i64 (nearZ a6 1 4), .int .i64 (nearZ a7 1 6), .int .i64 (nearZ a8 0 400)]) ∧ Below w.heap.size w w' := by
  go_enter Try.func30, Try.ntmps30
  go_wp2_with fail
  have XA := (box_new w #[.int .i64 a0, .int .i64 a1, .int .i64 a2, .int .i64 a3, .int .i64 a4, .int .i64 a5, .int .i64 a6, .int .i64 a7, .int .i64 a8] 28).allocd (.cells #[.int .i64 0, .int .i64 0, .int .i64 0, .int .i64 0, .int .i64 0, .int .i64 0, .int .i64 0, .int .i64 0, .int .i64 0] 28)
  have XZ := box_new (w.alloc (.cells #[.int .i64 a0, .int .i64 a1, .int .i64 a2, .int .i64 a3, .int .i64 a4, .int .i64 a5, .int .i64 a6, .int .i64 a7, .int .i64 a8] 28)) #[.int .i64 0, .int .i64 0, .int .i64 0, .int .i64 0, .int .i64 0, .int .i64 0, .int .i64 0, .int .i64 0, .int .i64 0] 28
  have hz : (w.alloc (.cells #[.int .i64 a0, .int .i64 a1, .int .i64 a2, .int .i64 a3, .int .i64 a4, .int .i64 a5, .int .i64 a6, .int .i64 a7, .int .i64 a8] 28)).heap.size = w.heap.size + 1 := by simp
  rw [hz] at XZ
  have BA : Below w.heap.size w ((w.alloc (.cells #[.int .i64 a0, .int .i64 a1, .int .i64 a2, .int .i64 a3, .int .i64 a4, .int .i64 a5, .int .i64 a6, .int .i64 a7, .int .i64 a8] 28)).alloc (.cells #[.int .i64 0, .int .i64 0, .int .i64 0, .int .i64 0, .int .i64 0, .int .i64 0, .int .i64 0, .int .i64 0, .int .i64 0] 28)) := ((Below.refl _ _).alloc (Nat.le_refl _) _).alloc (by simp) _
  obtain ⟨wA, hwA⟩ : ∃ x, x = (w.alloc (.cells #[.int .i64 a0, .int .i64 a1, .int .i64 a2, .int .i64 a3, .int .i64 a4, .int .i64 a5, .int .i64 a6, .int .i64 a7, .int .i64 a8] 28)).alloc (.cells #[.int .i64 0, .int .i64 0, .int .i64 0, .int .i64 0, .int .i64 0, .int .i64 0, .int .i64 0, .int .i64 0, .int .i64 0] 28) := ⟨_, rfl⟩
  rw [← hwA] at XA XZ BA ⊢
  clear hwA hz
  refine wp_region_still_tail 28 (by kernel_rfl) (by kernel_rfl) ?_
  have XA' : Box { wA with drawn := wA.drawn + 1 } w.heap.size #[.int .i64 a0, .int .i64 a1, .int .i64 a2, .int .i64 a3, .int .i64 a4, .int .i64 a5, .int .i64 a6, .int .i64 a7, .int .i64 a8] 28 := XA
  have XZ' : Box { wA with drawn := wA.drawn + 1 } (w.heap.size + 1) #[.int .i64 0, .int .i64 0, .int .i64 0, .int .i64 0, .int .i64 0, .int .i64 0, .int .i64 0, .int .i64 0, .int .i64 0] 28 := XZ
  have BA' : Below w.heap.size w { wA with drawn := wA.drawn + 1 } := ⟨BA.os, BA.tape, BA.output, BA.size, BA.block⟩
  obtain ⟨wB, hwB⟩ : ∃ x : World, x = { wA with drawn := wA.drawn + 1 } := ⟨_, rfl⟩
  rw [← hwB] at XA' XZ' BA' ⊢
  clear XA XZ BA hwB
  obtain ⟨x0, x1, x2, x3, x4, x5, x6, x7, x8⟩ := box9 XA'
  obtain ⟨y0, y1, y2, y3, y4, y5, y6, y7, y8⟩ := box9 XZ'
  simp only [List.take_succ_cons, List.take_zero, List.drop_succ_cons, List.drop_zero]
  still_step
  still_step
  still_call (nearest_z _ _ _ _)
  still_step
  still_step
  still_call (nearest_z _ _ _ _)
  still_step
  still_step
  still_call (nearest_z _ _ _ _)
  still_step
  still_step
  still_call (nearest_z _ _ _ _)
  still_step
  still_step
  still_call (nearest_z _ _ _ _)
  still_step
  still_step
  still_call (nearest_z _ _ _ _)
  still_step
  still_step
  still_call (nearest_z _ _ _ _)
  still_step
  still_step
  still_call (nearest_z _ _ _ _)
  still_step
  still_step
  still_call (nearest_z _ _ _ _)
  still_step
  refine wpStill_nil ?_
  have z0 : wB.frozen? ⟨w.heap.size + 1, 0, none⟩ = false := XZ'.frozen 0
  have z1 : wB.frozen? ⟨w.heap.size + 1, 1, none⟩ = false := XZ'.frozen 1
  have z2 : wB.frozen? ⟨w.heap.size + 1, 2, none⟩ = false := XZ'.frozen 2
  have z3 : wB.frozen? ⟨w.heap.size + 1, 3, none⟩ = false := XZ'.frozen 3
  have z4 : wB.frozen? ⟨w.heap.size + 1, 4, none⟩ = false := XZ'.frozen 4
  have z5 : wB.frozen? ⟨w.heap.size + 1, 5, none⟩ = false := XZ'.frozen 5
  have z6 : wB.frozen? ⟨w.heap.size + 1, 6, none⟩ = false := XZ'.frozen 6
  have z7 : wB.frozen? ⟨w.heap.size + 1, 7, none⟩ = false := XZ'.frozen 7
  have z8 : wB.frozen? ⟨w.heap.size + 1, 8, none⟩ = false := XZ'.frozen 8
  go_wp2
  refine bodyPost_ret (v := .agg #[.int .i64 (nearZ a0 1 4), .int .i64 (nearZ a1 0 2), .int .i64 (nearZ a2 1 3), .int .i64 (nearZ a3 0 2), .int .i64 (nearZ a4 1 6), .int .i64 (nearZ a5 1 6), .int .i64 (nearZ a6 1 4), .int .i64 (nearZ a7 1 6), .int .i64 (nearZ a8 0 400)]) (by simp [results, Try.results30, go_sem, y0, y1, y2, y3, y4, y5, y6, y7, y8]) rfl ⟨rfl, ?_⟩
  exact (((((((((BA'.setCell (Nat.le_succ _) _).setCell (Nat.le_succ _) _).setCell (Nat.le_succ _) _).setCell (Nat.le_succ _) _).setCell (Nat.le_succ _) _).setCell (Nat.le_succ _) _).setCell (Nat.le_succ _) _).setCell (Nat.le_succ _) _).setCell (Nat.le_succ _) _)

end Go.Proofs.Ytbdiedcmhggnjaa

namespace Go.Proofs.Ytbdiedcmhggnjaa
open Go.RowKit F256
set_option linter.unusedVariables false
set_option linter.unusedSimpArgs false

theorem shape_eq_yes (a0 a1 a2 a3 a4 a5 a6 a7 a8 : Int) (w : World) : (Op.equalIn 10000 28 (.agg #[.int .i64 a0, .int .i64 a1, .int .i64 a2, .int .i64 a3, .int .i64 a4, .int .i64 a5, .int .i64 a6, .int .i64 a7, .int .i64 a8]) (.agg #[.int .i64 a0, .int .i64 a1, .int .i64 a2, .int .i64 a3, .int .i64 a4, .int .i64 a5, .int .i64 a6, .int .i64 a7, .int .i64 a8])).run Try.prog w = .ok true w := by
  have u3 := Try.underlying2
  rw [show (10000 : Nat) = 9999 + 1 from rfl, run_equalIn_agg w 9999 28 _ _ (by kernel_rfl) (by kernel_rfl)]
  simp only [Program.fieldsOf, Try.underlying28]
  go_simp
theorem shape_eq_no (a0 a1 a2 a3 a4 a5 a6 a7 a8 b0 b1 b2 b3 b4 b5 b6 b7 b8 : Int) (h : ¬ (a0 = b0 ∧ a1 = b1 ∧ a2 = b2 ∧ a3 = b3 ∧ a4 = b4 ∧ a5 = b5 ∧ a6 = b6 ∧ a7 = b7 ∧ a8 = b8)) (w : World) : (Op.equalIn 10000 28 (.agg #[.int .i64 a0, .int .i64 a1, .int .i64 a2, .int .i64 a3, .int .i64 a4, .int .i64 a5, .int .i64 a6, .int .i64 a7, .int .i64 a8]) (.agg #[.int .i64 b0, .int .i64 b1, .int .i64 b2, .int .i64 b3, .int .i64 b4, .int .i64 b5, .int .i64 b6, .int .i64 b7, .int .i64 b8])).run Try.prog w = .ok false w := by
  have u3 := Try.underlying2
  rw [show (10000 : Nat) = 9999 + 1 from rfl, run_equalIn_agg w 9999 28 _ _ (by kernel_rfl) (by kernel_rfl)]
  simp only [Program.fieldsOf, Try.underlying28]
  have H : Hid (¬ (a0 = b0 ∧ a1 = b1 ∧ a2 = b2 ∧ a3 = b3 ∧ a4 = b4 ∧ a5 = b5 ∧ a6 = b6 ∧ a7 = b7 ∧ a8 = b8)) := h
  clear h
  go_simp
  exact fun h0 h1 h2 h3 h4 h5 h6 h7 h8 => H.out ⟨h0, h1, h2, h3, h4, h5, h6, h7, h8⟩
theorem ok_near (s : Nat → Int) : OkShape s ↔ s 0 = nearZ (s 0) 1 4 ∧ s 1 = nearZ (s 1) 0 2 ∧ s 2 = nearZ (s 2) 1 3 ∧ s 3 = nearZ (s 3) 0 2 ∧ s 4 = nearZ (s 4) 1 6 ∧ s 5 = nearZ (s 5) 1 6 ∧ s 6 = nearZ (s 6) 1 4 ∧ s 7 = nearZ (s 7) 1 6 ∧ s 8 = nearZ (s 8) 0 400 := by
  unfold OkShape Shp3 Shp
  rw [nearZ_iff (s 0) 1 4 (by omega), nearZ_iff (s 1) 0 2 (by omega), nearZ_iff (s 2) 1 3 (by omega), nearZ_iff (s 3) 0 2 (by omega), nearZ_iff (s 4) 1 6 (by omega), nearZ_iff (s 5) 1 6 (by omega), nearZ_iff (s 6) 1 4 (by omega), nearZ_iff (s 7) 1 6 (by omega), nearZ_iff (s 8) 0 400 (by omega)]
  omega

set_option maxHeartbeats 4000000 in
theorem implShape_any (s : Nat → Int) (w : World) :
    Calls Try.prog 20 #[shapeV s] w fun e w' => ∃ x, e = .returned (.int .i64 x) ∧ ShFAns s x ∧ Below w.heap.size w w' := by
  have HK : Hid (OkShape s ↔ s 0 = nearZ (s 0) 1 4 ∧ s 1 = nearZ (s 1) 0 2 ∧ s 2 = nearZ (s 2) 1 3 ∧ s 3 = nearZ (s 3) 0 2 ∧ s 4 = nearZ (s 4) 1 6 ∧ s 5 = nearZ (s 5) 1 6 ∧ s 6 = nearZ (s 6) 1 4 ∧ s 7 = nearZ (s 7) 1 6 ∧ s 8 = nearZ (s 8) 0 400) := ok_near s
  unfold shapeV
  obtain ⟨a0, h0⟩ : ∃ a, a = s 0 := ⟨_, rfl⟩
  obtain ⟨a1, h1⟩ : ∃ a, a = s 1 := ⟨_, rfl⟩
  obtain ⟨a2, h2⟩ : ∃ a, a = s 2 := ⟨_, rfl⟩
  obtain ⟨a3, h3⟩ : ∃ a, a = s 3 := ⟨_, rfl⟩
  obtain ⟨a4, h4⟩ : ∃ a, a = s 4 := ⟨_, rfl⟩
  obtain ⟨a5, h5⟩ : ∃ a, a = s 5 := ⟨_, rfl⟩
  obtain ⟨a6, h6⟩ : ∃ a, a = s 6 := ⟨_, rfl⟩
  obtain ⟨a7, h7⟩ : ∃ a, a = s 7 := ⟨_, rfl⟩
  obtain ⟨a8, h8⟩ : ∃ a, a = s 8 := ⟨_, rfl⟩
  rw [← h0, ← h1, ← h2, ← h3, ← h4, ← h5, ← h6, ← h7, ← h8]
  have HK2 : Hid (OkShape s ↔ a0 = nearZ a0 1 4 ∧ a1 = nearZ a1 0 2 ∧ a2 = nearZ a2 1 3 ∧ a3 = nearZ a3 0 2 ∧ a4 = nearZ a4 1 6 ∧ a5 = nearZ a5 1 6 ∧ a6 = nearZ a6 1 4 ∧ a7 = nearZ a7 1 6 ∧ a8 = nearZ a8 0 400) := by
    show OkShape s ↔ _
    rw [h0, h1, h2, h3, h4, h5, h6, h7, h8]
    exact HK.out
  clear HK h0 h1 h2 h3 h4 h5 h6 h7 h8
  have CN := nearestShape_any a0 a1 a2 a3 a4 a5 a6 a7 a8
  have XA := box_new w #[.int .i64 a0, .int .i64 a1, .int .i64 a2, .int .i64 a3, .int .i64 a4, .int .i64 a5, .int .i64 a6, .int .i64 a7, .int .i64 a8] 28
  obtain ⟨x0, x1, x2, x3, x4, x5, x6, x7, x8⟩ := box9 XA
  have HX : Hid (Box (w.alloc (.cells #[.int .i64 a0, .int .i64 a1, .int .i64 a2, .int .i64 a3, .int .i64 a4, .int .i64 a5, .int .i64 a6, .int .i64 a7, .int .i64 a8] 28)) w.heap.size #[.int .i64 a0, .int .i64 a1, .int .i64 a2, .int .i64 a3, .int .i64 a4, .int .i64 a5, .int .i64 a6, .int .i64 a7, .int .i64 a8] 28) := XA
  have HB : Hid (Below w.heap.size w (w.alloc (.cells #[.int .i64 a0, .int .i64 a1, .int .i64 a2, .int .i64 a3, .int .i64 a4, .int .i64 a5, .int .i64 a6, .int .i64 a7, .int .i64 a8] 28))) := bnew (Below.refl _ _)
  obtain ⟨wA, hwA⟩ : ∃ x, x = w.alloc (.cells #[.int .i64 a0, .int .i64 a1, .int .i64 a2, .int .i64 a3, .int .i64 a4, .int .i64 a5, .int .i64 a6, .int .i64 a7, .int .i64 a8] 28) := ⟨_, rfl⟩
  rw [← hwA] at x0 x1 x2 x3 x4 x5 x6 x7 x8 HX HB
  clear XA
  by_cases ok : OkShape s
  · have HO : Hid (OkShape s) := ok
    obtain ⟨e0, e1, e2, e3, e4, e5, e6, e7, e8⟩ := HK2.out.mp ok
    rw [← e0, ← e1, ← e2, ← e3, ← e4, ← e5, ← e6, ← e7, ← e8] at CN
    have heq := shape_eq_yes a0 a1 a2 a3 a4 a5 a6 a7 a8
    clear e0 e1 e2 e3 e4 e5 e6 e7 e8 ok
    go_enter Try.func20, Try.ntmps20
    go_wp2_with fail
    rw [← hwA]
    clear hwA
    go_region_with (go_at_call 30; refine (CN _).mono ?_; rintro ee w2 ⟨rfl, hb2⟩; have hB2 : Below wA.heap.size wA w2 := ⟨hb2.os, hb2.tape, hb2.output, hb2.size, hb2.block⟩; obtain ⟨y0, y1, y2, y3, y4, y5, y6, y7, y8⟩ := box9 (HX.out.below hB2 HX.out.lt))
    all_goals
      go_wp2
      go_ret
      exact ⟨0, rfl, .inr ⟨rfl, HO.out⟩, HB.out.trans (hB2.mono HB.out.size)⟩
  · have HO : Hid (¬ OkShape s) := ok
    have hno : ¬ (a0 = nearZ a0 1 4 ∧ a1 = nearZ a1 0 2 ∧ a2 = nearZ a2 1 3 ∧ a3 = nearZ a3 0 2 ∧ a4 = nearZ a4 1 6 ∧ a5 = nearZ a5 1 6 ∧ a6 = nearZ a6 1 4 ∧ a7 = nearZ a7 1 6 ∧ a8 = nearZ a8 0 400) := fun h => ok (HK2.out.mpr h)
    have heq := shape_eq_no a0 a1 a2 a3 a4 a5 a6 a7 a8 (nearZ a0 1 4) (nearZ a1 0 2) (nearZ a2 1 3) (nearZ a3 0 2) (nearZ a4 1 6) (nearZ a5 1 6) (nearZ a6 1 4) (nearZ a7 1 6) (nearZ a8 0 400) hno
    clear hno ok
    go_enter Try.func20, Try.ntmps20
    go_wp2_with fail
    rw [← hwA]
    clear hwA
    go_region_with (go_at_call 30; refine (CN _).mono ?_; rintro ee w2 ⟨rfl, hb2⟩; have hB2 : Below wA.heap.size wA w2 := ⟨hb2.os, hb2.tape, hb2.output, hb2.size, hb2.block⟩; obtain ⟨y0, y1, y2, y3, y4, y5, y6, y7, y8⟩ := box9 (HX.out.below hB2 HX.out.lt))
    all_goals
      go_wp2
      go_ret
      exact ⟨3, rfl, .inl ⟨rfl, HO.out⟩, HB.out.trans (hB2.mono HB.out.size)⟩
end Go.Proofs.Ytbdiedcmhggnjaa

namespace Go.Proofs.Ytbdiedcmhggnjaa
open Go.RowKit F256
set_option linter.unusedVariables false
set_option linter.unusedSimpArgs false

end Go.Proofs.Ytbdiedcmhggnjaa

namespace Go.Proofs.Ytbdiedcmhggnjaa
open Go.RowKit F256
set_option linter.unusedVariables false
set_option linter.unusedSimpArgs false

theorem inBounds_b {x a b : Int} {t : Bool} (hab : a ≤ b) (ht : t = true ↔ InP x a b) (w : World) :
    Calls Try.prog 21 #[.int .i64 x, .int .i64 a, .int .i64 b] w fun e w' => e = .returned (.bool t) ∧ w' = w := by
  by_cases h1 : a ≤ x
  · by_cases h2 : x ≤ b
    · obtain rfl : t = true := ht.2 ⟨h1, h2⟩
      clear ht hab
      go_enter Try.func21, Try.ntmps21
      go_wp2
      go_ret
      exact ⟨rfl, rfl⟩
    · obtain rfl : t = false := by
        cases t with
        | false => rfl
        | true => exact absurd (ht.1 rfl).2 h2
      clear ht hab
      have hd : decide (x ≤ b) = false := decide_eq_false h2
      go_enter Try.func21, Try.ntmps21
      go_wp2
      go_ret
      exact ⟨rfl, rfl⟩
  · obtain rfl : t = false := by
      cases t with
      | false => rfl
      | true => exact absurd (ht.1 rfl).1 h1
    clear ht hab
    have hd : decide (a ≤ x) = false := decide_eq_false h1
    go_enter Try.func21, Try.ntmps21
    go_wp2
    go_ret
    exact ⟨rfl, rfl⟩
theorem groupCount_any (s : Nat → Int) (h : OkShape s) (w : World) :
    Calls Try.prog 24 #[shapeV s] w fun e w' => e = .returned (.int .i64 (s 0 + s 1)) ∧ Below w.heap.size w w' := by
  obtain ⟨h1, h2, _⟩ := h
  unfold Shp3 at h1
  have B0 := (one_new w #[.int .i64 (s 0), .int .i64 (s 1), .int .i64 (s 2), .int .i64 (s 3), .int .i64 (s 4), .int .i64 (s 5), .int .i64 (s 6), .int .i64 (s 7), .int .i64 (s 8)] 28).bel
  unfold shapeV
  have hw : -9223372036854775808 ≤ s 0 + s 1 ∧ s 0 + s 1 ≤ 9223372036854775807 := by omega
  go_enter Try.func24, Try.ntmps24
  go_wp2
  go_ret
  exact ⟨rfl, B0⟩
theorem okB {s : Nat → Int} (h : OkShape s) : 1 ≤ s 0 ∧ s 0 ≤ 4 ∧ 0 ≤ s 1 ∧ s 1 ≤ 2 ∧ 1 ≤ s 2 ∧ s 2 ≤ 3 ∧ 0 ≤ s 3 ∧ s 3 ≤ 2 ∧ 1 ≤ s 4 ∧ s 4 ≤ 6 ∧ 1 ≤ s 5 ∧ s 5 ≤ 6 := by
  obtain ⟨h1, h2, h3, h4, _⟩ := h
  unfold Shp3 at h1
  unfold Shp at h2
  omega
theorem isGroup_b {s : Nat → Int} (h : OkShape s) {x : Int} {t : Bool} (ht : t = true ↔ InP x 0 (s 0 + s 1 - 1)) (w : World) :
    Calls Try.prog 32 #[shapeV s, .int .i64 x] w fun e w' => e = .returned (.bool t) ∧ Below w.heap.size w w' := by
  have hb := okB h
  have C := groupCount_any s h
  have CB := fun w' => inBounds_b (w := w') (show 0 ≤ s 0 + s 1 - 1 by omega) ht
  have T0 := one_new w #[.int .i64 (s 0), .int .i64 (s 1), .int .i64 (s 2), .int .i64 (s 3), .int .i64 (s 4), .int .i64 (s 5), .int .i64 (s 6), .int .i64 (s 7), .int .i64 (s 8)] 28
  unfold shapeV at C ⊢
  clear ht h
  go_enter Try.func32, Try.ntmps32
  go_wp2_with fail
  refine (C _).mono ?_
  rintro e w1 ⟨rfl, b1⟩
  have HB : Hid (Below w.heap.size w w1) := (T0.call b1).bel
  clear b1 T0 C
  go_wp2_with fail
  refine (CB _).mono ?_
  rintro e w2 ⟨rfl, hw2⟩
  obtain rfl := hw2.symm
  go_wp2
  go_ret
  exact ⟨rfl, HB.out⟩
end Go.Proofs.Ytbdiedcmhggnjaa

namespace Go.Proofs.Ytbdiedcmhggnjaa
open Go.RowKit F256
set_option linter.unusedVariables false
set_option linter.unusedSimpArgs false

theorem isLetter_yes (y : Nat) (h : LetP y) (w : World) : Calls Try.prog 49 #[.int .u8 y] w fun e w' => e = .returned (.bool true) ∧ w' = w := by
  unfold LetP at h
  obtain ⟨h1, h2⟩ := h
  have t1 : decide ((97 : Int) ≤ (y : Int)) = true := by simp; omega
  have t2 : decide ((y : Int) ≤ 122) = true := by simp; omega
  go_enter Try.func49, Try.ntmps49
  go_wp2
  go_ret
  exact ⟨rfl, rfl⟩
theorem isLetter_no (y : Nat) (h : ¬ LetP y) (w : World) : Calls Try.prog 49 #[.int .u8 y] w fun e w' => e = .returned (.bool false) ∧ w' = w := by
  unfold LetP at h
  by_cases h1 : 97 ≤ y
  · have h2 : 122 < y := by omega
    have t1 : decide ((97 : Int) ≤ (y : Int)) = true := by simp; omega
    have t2 : decide ((y : Int) ≤ 122) = false := by simp; omega
    clear h
    go_enter Try.func49, Try.ntmps49
    go_wp2
    go_ret
    exact ⟨rfl, rfl⟩
  · have t1 : decide ((97 : Int) ≤ (y : Int)) = false := by simp; omega
    clear h
    go_enter Try.func49, Try.ntmps49
    go_wp2
    go_ret
    exact ⟨rfl, rfl⟩
theorem isDigit_yes (y : Nat) (h : DigP y) (w : World) : Calls Try.prog 50 #[.int .u8 y] w fun e w' => e = .returned (.bool true) ∧ w' = w := by
  unfold DigP at h
  obtain ⟨h1, h2⟩ := h
  have t1 : decide ((48 : Int) ≤ (y : Int)) = true := by simp; omega
  have t2 : decide ((y : Int) ≤ 57) = true := by simp; omega
  go_enter Try.func50, Try.ntmps50
  go_wp2
  go_ret
  exact ⟨rfl, rfl⟩
theorem isDigit_no (y : Nat) (h : ¬ DigP y) (w : World) : Calls Try.prog 50 #[.int .u8 y] w fun e w' => e = .returned (.bool false) ∧ w' = w := by
  unfold DigP at h
  by_cases h1 : 48 ≤ y
  · have h2 : 57 < y := by omega
    have t1 : decide ((48 : Int) ≤ (y : Int)) = true := by simp; omega
    have t2 : decide ((y : Int) ≤ 57) = false := by simp; omega
    clear h
    go_enter Try.func50, Try.ntmps50
    go_wp2
    go_ret
    exact ⟨rfl, rfl⟩
  · have t1 : decide ((48 : Int) ≤ (y : Int)) = false := by simp; omega
    clear h
    go_enter Try.func50, Try.ntmps50
    go_wp2
    go_ret
    exact ⟨rfl, rfl⟩

set_option maxHeartbeats 4000000 in
theorem implName_any (b : ByteArray) (hb : b.size ≤ 1048576) (w : World) :
    Calls Try.prog 43 #[.string b] w fun e w' => ∃ x, e = .returned (.int .i64 x) ∧ NmAns b x ∧ w' = w := by
  by_cases h1 : 1 ≤ b.size
  · have t1 : decide ((b.size : Int) < 1) = false := by simp; omega
    have t1n : decide (b.size < 1) = false := decide_eq_false (by omega)
    have t1z : decide (b.size = 0) = false := decide_eq_false (by omega)
    by_cases h2 : b.size ≤ 8
    · have t2 : decide ((8 : Int) < (b.size : Int)) = false := by simp; omega
      have t2n : decide (8 < b.size) = false := by simp; omega
      have hix := index_name b 0 h1
      have e0 : ((0 : Nat) : Int) = 0 := rfl
      rw [e0] at hix
      obtain ⟨y, hy⟩ : ∃ y, y = nameByte b 0 := ⟨_, rfl⟩
      rw [← hy] at hix
      have HY : Hid (y = nameByte b 0) := hy
      clear e0 hy
      by_cases h3 : LetP y
      · have HL : Hid (LetP (nameByte b 0)) := by show LetP (nameByte b 0); rw [← HY.out]; exact h3
        have CL := isLetter_yes y h3
        clear h3
        go_enter Try.func43, Try.ntmps43
        go_wp2_with fail
        refine (CL _).mono ?_
        rintro e w1 ⟨rfl, rfl⟩
        go_wp2
        go_loop [20] (fun i => ∃ k : Nat, k ≤ b.size ∧ i = .int .i64 k ∧ ∀ i, i < k → LetP (nameByte b i) ∨ DigP (nameByte b i)) (fun i => b.size - (intOf i).toNat)
        case atStart => exact ⟨0, Nat.zero_le _, rfl, fun i hi => by omega⟩
        case round =>
          obtain ⟨k, hk, rfl, hall⟩ := hrel
          have HALL : Hid (∀ i, i < k → LetP (nameByte b i) ∨ DigP (nameByte b i)) := hall
          clear hall
          by_cases hlt : k < b.size
          · have hik := index_name b k hlt
            obtain ⟨z, hz⟩ : ∃ z, z = nameByte b k := ⟨_, rfl⟩
            rw [← hz] at hik
            have HZ : Hid (z = nameByte b k) := hz
            clear hz CL
            by_cases c1 : LetP z
            · have HD : Hid (LetP (nameByte b k)) := by show LetP (nameByte b k); rw [← HZ.out]; exact c1
              have C1 := isLetter_yes z c1
              clear c1
              go_wp2_with fail
              refine (C1 _).mono ?_
              rintro e w2 ⟨rfl, rfl⟩
              go_wp2
              go_round
              case rel => exact ⟨k + 1, by omega, by go_num, fun i hi => by
                            by_cases c : i = k
                            · left; rw [c]; exact HD.out
                            · exact HALL.out i (by omega)⟩
              case measure => simp [intOf]; omega
            · have C1 := isLetter_no z c1
              by_cases c2 : DigP z
              · have HD : Hid (DigP (nameByte b k)) := by show DigP (nameByte b k); rw [← HZ.out]; exact c2
                have C2 := isDigit_yes z c2
                clear c1 c2
                go_wp2_with fail
                refine (C1 _).mono ?_
                rintro e w2 ⟨rfl, rfl⟩
                go_wp2_with fail
                refine (C2 _).mono ?_
                rintro e w3 ⟨rfl, rfl⟩
                go_wp2
                go_round
                case rel => exact ⟨k + 1, by omega, by go_num, fun i hi => by
                              by_cases c : i = k
                              · right; rw [c]; exact HD.out
                              · exact HALL.out i (by omega)⟩
                case measure => simp [intOf]; omega
              · have HN : Hid (¬ OkName b) := fun h => by
                  have := h.2.2.2 k hlt
                  rw [← HZ.out] at this
                  exact this.elim c1 c2
                have C2 := isDigit_no z c2
                clear c1 c2
                go_wp2_with fail
                refine (C1 _).mono ?_
                rintro e w2 ⟨rfl, rfl⟩
                go_wp2_with fail
                refine (C2 _).mono ?_
                rintro e w3 ⟨rfl, rfl⟩
                go_wp2
                go_ret
                exact ⟨5, rfl, .inl ⟨rfl, HN.out⟩, rfl⟩
          · obtain rfl : k = b.size := by omega
            have HY2 : Hid (OkName b) := ⟨h1, h2, HL.out, HALL.out⟩
            go_wp2
            go_ret
            exact ⟨0, rfl, .inr ⟨rfl, HY2.out⟩, rfl⟩
      · have HN : Hid (¬ OkName b) := fun h => by have := h.2.2.1; rw [← HY.out] at this; exact h3 this
        have CL := isLetter_no y h3
        clear h3
        go_enter Try.func43, Try.ntmps43
        go_wp2_with fail
        refine (CL _).mono ?_
        rintro e w1 ⟨rfl, rfl⟩
        go_wp2
        go_ret
        exact ⟨5, rfl, .inl ⟨rfl, HN.out⟩, rfl⟩
    · have HN : Hid (¬ OkName b) := fun h => h2 h.2.1
      have t2 : decide ((8 : Int) < (b.size : Int)) = true := by simp; omega
      have t2i : (8 : Int) < (b.size : Int) := by omega
      clear h2
      go_enter Try.func43, Try.ntmps43
      go_wp2
      go_ret
      exact ⟨5, rfl, .inl ⟨rfl, HN.out⟩, rfl⟩
  · have HN : Hid (¬ OkName b) := fun h => h1 h.1
    have t1 : decide ((b.size : Int) < 1) = true := by simp; omega
    have t1i : (b.size : Int) < 1 := by omega
    clear h1
    go_enter Try.func43, Try.ntmps43
    go_wp2
    go_ret
    exact ⟨5, rfl, .inl ⟨rfl, HN.out⟩, rfl⟩
end Go.Proofs.Ytbdiedcmhggnjaa

namespace Go.Proofs.Ytbdiedcmhggnjaa
open Go.RowKit F256
set_option linter.unusedVariables false
set_option linter.unusedSimpArgs false

set_option maxHeartbeats 4000000 in
theorem implHomeOf_any (s : Nat → Int) (b : ByteArray) (hb : b.size ≤ 1048576) (w : World) :
    Calls Try.prog 31 #[shapeV s, .string b] w fun e w' => ∃ x c, e = .returned (intR c x) ∧ HoAns s b x c ∧ Below w.heap.size w w' := by
  unfold shapeV
  go_enter Try.func31, Try.ntmps31
  go_wp2_with fail
  refine (implShape_any s _).mono ?_
  rintro e w1 ⟨x, rfl, hx, B1'⟩
  obtain ⟨X1, X2, B1, z1⟩ := two_new B1'
  obtain ⟨x0, x1, x2, x3, x4, x5, x6, x7, x8⟩ := box9 X1
  obtain ⟨y0, y1, y2, y3⟩ := res_cells X2
  have HX : Hid (Box w1 (w.heap.size + 1) #[.int .i64 0, .int .i64 0] 53) := X2
  clear B1' X1 X2
  rcases hx with ⟨rfl, hx⟩ | ⟨rfl, hx⟩
  · have HN : Hid (¬ OkShape s) := hx
    clear hx
    go_wp2
    exact bodyPost_ret (v := intR 3 0) (by simp [results, Try.results31, go_sem, intR, y0, y1]) rfl ⟨0, 3, rfl, .inl ⟨HN.out, rfl, rfl⟩, (B1.setCell (Nat.le_succ _) _).setCell (Nat.le_succ _) _⟩
  · have HO : Hid (OkShape s) := hx
    clear hx
    go_wp2_with fail
    refine (implName_any b hb _).mono ?_
    rintro e w2 ⟨x, rfl, hx, hw⟩
    obtain rfl := hw.symm
    rcases hx with ⟨rfl, hx⟩ | ⟨rfl, hx⟩
    · have HN : Hid (¬ OkName b) := hx
      clear hx
      go_wp2
      exact bodyPost_ret (v := intR 5 0) (by simp [results, Try.results31, go_sem, intR, y0, y1]) rfl ⟨0, 5, rfl, .inr (.inl ⟨HO.out, HN.out, rfl, rfl⟩), (B1.setCell (Nat.le_succ _) _).setCell (Nat.le_succ _) _⟩
    · have HN : Hid (OkName b) := hx
      clear hx
      have hg : 1 ≤ s 0 := by have := HO.out.1; unfold Shp3 at this; omega
      have hg2 : s 0 ≤ 1000 := by have := HO.out.1; unfold Shp3 at this; omega
      have hb8 : b.size ≤ 8 := HN.out.2.1
      have HM0 : Hid (∀ m : Int, m = (nameSum b b.size : Int) % s 0 → HoAns s b m 0) := fun m hm => .inr (.inr ⟨HO.out, HN.out, rfl, hm⟩)
      obtain ⟨a0, h0⟩ : ∃ a, a = s 0 := ⟨_, rfl⟩
      rw [← h0] at hg hg2 HM0 x0 ⊢
      clear h0 HX
      go_wp2
      go_loop [7, 23] (fun n i => ∃ k : Nat, k ≤ b.size ∧ n = .int .i64 (nameSum b k : Int) ∧ i = .int .i64 k) (fun n i => b.size - (intOf i).toNat)
      case atStart => exact ⟨0, Nat.zero_le _, rfl, rfl⟩
      case round =>
        obtain ⟨k, hk, rfl, rfl⟩ := hrel
        have hs1 := nameSum_lt b k
        by_cases hlt : k < b.size
        · have hik := index_name b k hlt
          have hz0 := nameByte_lt b k
          have HS : Hid (nameSum b (k + 1) = nameSum b k + nameByte b k) := rfl
          obtain ⟨z, hz⟩ : ∃ z, z = nameByte b k := ⟨_, rfl⟩
          rw [← hz] at hik HS hz0
          clear hz
          obtain ⟨m, hm⟩ : ∃ m, m = nameSum b k := ⟨_, rfl⟩
          rw [← hm] at hs1 HS ⊢
          clear hm
          go_wp2
          go_round
          case rel => exact ⟨k + 1, by omega, by rw [HS.out]; go_num, by go_num⟩
          case measure => simp [intOf]; omega
        · obtain rfl : k = b.size := by omega
          obtain ⟨m, hm⟩ : ∃ m, m = nameSum b b.size := ⟨_, rfl⟩
          rw [← hm] at hs1 ⊢
          have HM : Hid (m = nameSum b b.size) := hm
          clear hm
          go_wp2
          exact bodyPost_ret (v := intR 0 ((m : Int) % a0)) (by simp [results, Try.results31, go_sem, intR, y0, y1]) rfl ⟨(m : Int) % a0, 0, rfl, HM0.out _ (by rw [HM.out]), (B1.setCell (Nat.le_succ _) _).setCell (Nat.le_succ _) _⟩
end Go.Proofs.Ytbdiedcmhggnjaa

namespace Go.Proofs.Ytbdiedcmhggnjaa
open Go.RowKit F256
set_option linter.unusedVariables false
set_option linter.unusedSimpArgs false

/-- a ticket's cells -/
abbrev tkC (i k : Int) (b : ByteArray) (g : Int) : Array Value := #[.int .i64 i, .int .i64 k, .string b, .int .i64 g]
/-- which kinds there are, and what each asks -/
def TkAns (s : Nat → Int) (i k : Int) (b : ByteArray) (g x : Int) : Prop :=
  Stair [(OkShape s, 3), (InP i 1 1000000000, 3), (k = 1 ∨ k = 2, 5), (k = 1 → OkName b, 5), (k = 1 → g = (nameSum b b.size : Int) % s 0, 1), (k = 2 → InP g 0 (s 0 + s 1 - 1), 3), (k = 2 → b = ByteArray.empty, 1)] isZ x
theorem TkAns.one {s : Nat → Int} {i k : Int} {b : ByteArray} {g x y : Int} (h : TkAns s i k b g x) (l : TkAns s i k b g y) : x = y := Stair.one isZ_one _ h l
def TkPost (s : Nat → Int) (i k : Int) (b : ByteArray) (g : Int) (w : World) (e : Ending) (w' : World) : Prop :=
  ∃ x, e = .returned (.int .i64 x) ∧ TkAns s i k b g x ∧ Below w.heap.size w w'
theorem tkP {s : Nat → Int} {i k : Int} {b : ByteArray} {g x : Int} {w w' : World} {e : Ending} (he : e = .returned (.int .i64 x)) (h : TkAns s i k b g x) (hb : Below w.heap.size w w') : TkPost s i k b g w e w' := ⟨x, he, h, hb⟩

theorem toTicket_any (i k : Int) (b : ByteArray) (g : Int) (w : World) :
    Calls Try.prog 8 #[.agg (tkC i k b g)] w fun e w' => e = .returned (.agg (tkC i k b g)) ∧ Below w.heap.size w w' := by
  unfold tkC
  go_enter Try.func8, Try.ntmps8
  go_wp2
  refine bodyPost_ret (v := .agg #[.int .i64 i, .int .i64 k, .string b, .int .i64 g]) (by simp [results, Try.results8, go_sem]) rfl ⟨rfl, ?_⟩
  exact (((Below.refl _ _).alloc (Nat.le_refl _) _).alloc (by simp) _).alloc (by simp <;> omega) _

theorem szTicket_any (i k : Int) (b : ByteArray) (g : Int) (hb : b.size ≤ maxLen) (w : World) :
    Calls Try.prog 5 #[.agg (tkC i k b g), .int .i64 1048576] w fun e w' => (∃ x : Int, e = .returned (.int .i64 x) ∧ (x = -1 ∨ b.size ≤ 1048576 ∧ 0 ≤ x)) ∧ Below w.heap.size w w' := by
  unfold tkC maxLen at *
  by_cases h : b.size ≤ 1048576
  · go_enter Try.func5, Try.ntmps5
    go_wp2
    go_ret
    exact ⟨⟨_, rfl, .inr ⟨h, by omega⟩⟩, (Below.refl _ _).alloc (Nat.le_refl _) _⟩
  · have h1 : ((1048576 : Int) - b.size) < 0 := by omega
    go_enter Try.func5, Try.ntmps5
    go_wp2
    go_ret
    exact ⟨⟨-1, rfl, .inl rfl⟩, (Below.refl _ _).alloc (Nat.le_refl _) _⟩

set_option maxHeartbeats 4000000 in
theorem specTicket_any (s : Nat → Int) (i k : Int) (b : ByteArray) (g : Int) (hb : b.size ≤ 1048576) (w : World) :
    Calls Try.prog 6 #[shapeV s, .agg (tkC i k b g)] w (TkPost s i k b g w) := by
  unfold tkC shapeV
  have T0 := two_newb w #[.int .i64 (s 0), .int .i64 (s 1), .int .i64 (s 2), .int .i64 (s 3), .int .i64 (s 4), .int .i64 (s 5), .int .i64 (s 6), .int .i64 (s 7), .int .i64 (s 8)] #[.int .i64 i, .int .i64 k, .string b, .int .i64 g] 28 30
  go_enter Try.func6, Try.ntmps6
  go_wp2_with fail
  refine (specShape_any s _).mono ?_
  rintro e w1 ⟨x, rfl, hx, b1⟩
  have HT1 : Hid (Two w w1 #[.int .i64 (s 0), .int .i64 (s 1), .int .i64 (s 2), .int .i64 (s 3), .int .i64 (s 4), .int .i64 (s 5), .int .i64 (s 6), .int .i64 (s 7), .int .i64 (s 8)] #[.int .i64 i, .int .i64 k, .string b, .int .i64 g] 28 30) := T0.call b1
  clear T0 b1
  have T1 := HT1.out
  have x1_0 : w1.cell? ⟨w.heap.size, 0, none⟩ = some (.int .i64 (s 0)) := T1.b1.cell 0
  have xf1_0 := cell_regrown x1_0
  have x1_1 : w1.cell? ⟨w.heap.size, 1, none⟩ = some (.int .i64 (s 1)) := T1.b1.cell 1
  have xf1_1 := cell_regrown x1_1
  have x1_2 : w1.cell? ⟨w.heap.size, 2, none⟩ = some (.int .i64 (s 2)) := T1.b1.cell 2
  have xf1_2 := cell_regrown x1_2
  have x1_3 : w1.cell? ⟨w.heap.size, 3, none⟩ = some (.int .i64 (s 3)) := T1.b1.cell 3
  have xf1_3 := cell_regrown x1_3
  have x1_4 : w1.cell? ⟨w.heap.size, 4, none⟩ = some (.int .i64 (s 4)) := T1.b1.cell 4
  have xf1_4 := cell_regrown x1_4
  have x1_5 : w1.cell? ⟨w.heap.size, 5, none⟩ = some (.int .i64 (s 5)) := T1.b1.cell 5
  have xf1_5 := cell_regrown x1_5
  have x1_6 : w1.cell? ⟨w.heap.size, 6, none⟩ = some (.int .i64 (s 6)) := T1.b1.cell 6
  have xf1_6 := cell_regrown x1_6
  have x1_7 : w1.cell? ⟨w.heap.size, 7, none⟩ = some (.int .i64 (s 7)) := T1.b1.cell 7
  have xf1_7 := cell_regrown x1_7
  have x1_8 : w1.cell? ⟨w.heap.size, 8, none⟩ = some (.int .i64 (s 8)) := T1.b1.cell 8
  have xf1_8 := cell_regrown x1_8
  have y1_0 : w1.cell? ⟨w.heap.size + 1, 0, none⟩ = some (.int .i64 i) := T1.b2.cell 0
  have yf1_0 := cell_regrown y1_0
  have y1_1 : w1.cell? ⟨w.heap.size + 1, 1, none⟩ = some (.int .i64 k) := T1.b2.cell 1
  have yf1_1 := cell_regrown y1_1
  have y1_2 : w1.cell? ⟨w.heap.size + 1, 2, none⟩ = some (.string b) := T1.b2.cell 2
  have yf1_2 := cell_regrown y1_2
  have y1_3 : w1.cell? ⟨w.heap.size + 1, 3, none⟩ = some (.int .i64 g) := T1.b2.cell 3
  have yf1_3 := cell_regrown y1_3
  clear T1
  rcases hx with ⟨rfl, hx⟩ | ⟨rfl, hx⟩
  · have HN : Hid (¬ OkShape s) := hx
    clear hx
    go_wp2
    go_ret
    exact tkP rfl (Stair.fall HN.out) HT1.out.bel
  have HOK : Hid (OkShape s) := hx
  clear hx
  obtain ⟨t1, h1⟩ := exB (InP i 1 1000000000)
  have HI : Hid (t1 = true ↔ InP i 1 1000000000) := h1
  clear h1
  go_wp2_with fail
  refine (l1In_b HI.out _).mono ?_
  rintro e w2 ⟨rfl, hw2⟩
  obtain rfl := hw2.symm
  cases t1 with
  | false =>
    go_wp2
    go_ret
    exact tkP rfl (Stair.pass HOK.out (Stair.fall (fun h => by have := HI.out.2 h; simp at this))) HT1.out.bel
  | true =>
  have HI2 : Hid (InP i 1 1000000000) := HI.out.1 rfl
  clear HI
  by_cases hk1 : k = 1
  · subst hk1
    go_wp2_with fail
    refine (specName_any b hb _).mono ?_
    rintro e w2 ⟨x, rfl, hx, hw⟩
    obtain rfl := hw.symm
    rcases hx with ⟨rfl, hx⟩ | ⟨rfl, hx⟩
    · have HN : Hid (¬ OkName b) := hx
      clear hx
      go_wp2
      go_ret
      exact tkP rfl (Stair.pass HOK.out (Stair.pass HI2.out (Stair.pass (.inl rfl) (Stair.fall (fun h => HN.out (h rfl)))))) HT1.out.bel
    · have HN : Hid (OkName b) := hx
      clear hx
      have hg : 1 ≤ s 0 := by have := HOK.out.1; unfold Shp3 at this; omega
      have hg2 : s 0 ≤ 1000 := by have := HOK.out.1; unfold Shp3 at this; omega
      have cH := q_below (W := w1) (fun w' _ => specHome_in s b HN.out.2.1 hg hg2 w')
      unfold shapeV at cH
      clear hg hg2
      obtain ⟨m, hm⟩ : ∃ m, m = (nameSum b b.size : Int) % s 0 := ⟨_, rfl⟩
      rw [← hm] at cH
      have HM : Hid (m = (nameSum b b.size : Int) % s 0) := hm
      clear hm
      by_cases hgm : g = m
      · have HG : Hid (g = (nameSum b b.size : Int) % s 0) := hgm.trans HM.out
        subst hgm
        go_wp2
        refine WQ.region (by kernel_rfl) (by kernel_rfl) ?_
        repeat (first | (apply WQ.skip; (case hw => rfl); intro K hK; go_simp; apply hK; clear hK K) | (apply WQ.want; (case hw => rfl); intro K hK; go_simp; first | (apply hK; clear hK K) | (apply Exists.intro; apply And.intro; (case left => intro p; (first | (go_at_call 18; exact cH _ _))); apply hK; clear hK K)))
        refine WQ.nil ?_
        intro w3 hw3
        have b3 := below_rg hw3
        have HB3 : Hid (Below w.heap.size w w3) := (HT1.out.call b3).bel
        clear b3 hw3
        go_wp2
        go_ret
        exact tkP rfl (Stair.pass HOK.out (Stair.pass HI2.out (Stair.pass (.inl rfl) (Stair.pass (fun _ => HN.out) (Stair.pass (fun _ => HG.out) (Stair.pass (fun h => by simp at h) (Stair.pass (fun h => by simp at h) (Stair.last rfl)))))))) HB3.out
      · have HG : Hid (¬ g = (nameSum b b.size : Int) % s 0) := fun h => hgm (h.trans HM.out.symm)
        go_wp2
        refine WQ.region (by kernel_rfl) (by kernel_rfl) ?_
        repeat (first | (apply WQ.skip; (case hw => rfl); intro K hK; go_simp; apply hK; clear hK K) | (apply WQ.want; (case hw => rfl); intro K hK; go_simp; first | (apply hK; clear hK K) | (apply Exists.intro; apply And.intro; (case left => intro p; (first | (go_at_call 18; exact cH _ _))); apply hK; clear hK K)))
        refine WQ.nil ?_
        intro w3 hw3
        have b3 := below_rg hw3
        have HB3 : Hid (Below w.heap.size w w3) := (HT1.out.call b3).bel
        clear b3 hw3
        go_wp2
        go_ret
        exact tkP rfl (Stair.pass HOK.out (Stair.pass HI2.out (Stair.pass (.inl rfl) (Stair.pass (fun _ => HN.out) (Stair.fall (fun h => HG.out (h rfl))))))) HB3.out
  · by_cases hk2 : k = 2
    · subst hk2
      obtain ⟨t2, h2⟩ := exB (InP g 0 (s 0 + s 1 - 1))
      have cG := q_same (W := w1) (fun w' => l1In_b h2 w')
      have cA := q_below (W := w1) (fun w' _ => l5All_any s HOK.out w')
      unfold shapeV at cA
      have HG : Hid (t2 = true ↔ InP g 0 (s 0 + s 1 - 1)) := h2
      have hO := okB HOK.out
      have hwr : IntKind.i64.wrap (s 0 + s 1 - 1) = s 0 + s 1 - 1 := by rw [IntKind.wrap_i64]; omega
      clear hO
      clear h2
      have hst : (t2 = false) ∨ (t2 = true) := by
        cases t2 <;> simp
      go_wp2
      rcases hst with rfl | rfl
      all_goals
        refine WQ.region (by kernel_rfl) (by kernel_rfl) ?_
        repeat (first | (apply WQ.skip; (case hw => rfl); intro K hK; go_simp; apply hK; clear hK K) | (apply WQ.want; (case hw => rfl); intro K hK; go_simp; first | (apply hK; clear hK K) | (apply Exists.intro; apply And.intro; (case left => intro p; (first | (go_at_call 16; exact cG _ _) | (go_at_call 19; exact cA _ _))); apply hK; clear hK K)))
        refine WQ.nil ?_
        intro w3 hw3
        have b3 := below_rg hw3
        have HT3 : Hid (Two w w3 #[.int .i64 (s 0), .int .i64 (s 1), .int .i64 (s 2), .int .i64 (s 3), .int .i64 (s 4), .int .i64 (s 5), .int .i64 (s 6), .int .i64 (s 7), .int .i64 (s 8)] #[.int .i64 i, .int .i64 2, .string b, .int .i64 g] 28 30) := HT1.out.call b3
        have z3_2 : w3.cell? ⟨w.heap.size + 1, 2, none⟩ = some (.string b) := HT3.out.b2.cell 2
        clear b3 hw3 x1_0 xf1_0 x1_1 xf1_1 x1_2 xf1_2 x1_3 xf1_3 x1_4 xf1_4 x1_5 xf1_5 x1_6 xf1_6 x1_7 xf1_7 x1_8 xf1_8 y1_0 yf1_0 y1_1 yf1_1 y1_2 yf1_2 y1_3 yf1_3
      · go_wp2
        go_ret
        exact tkP rfl (Stair.pass HOK.out (Stair.pass HI2.out (Stair.pass (.inr rfl) (Stair.pass (fun h => by simp at h) (Stair.pass (fun h => by simp at h) (Stair.fall (fun h => by have := HG.out.2 (h rfl); simp at this))))))) HT3.out.bel
      · by_cases he : b = ByteArray.empty
        · have HE : Hid (b = ByteArray.empty) := he
          have hE : b.toList.isEmpty = true := (nm_iff b).2 he
          clear he
          go_wp2
          go_ret
          exact tkP rfl (Stair.pass HOK.out (Stair.pass HI2.out (Stair.pass (.inr rfl) (Stair.pass (fun h => by simp at h) (Stair.pass (fun h => by simp at h) (Stair.pass (fun _ => HG.out.1 (by simp)) (Stair.pass (fun _ => HE.out) (Stair.last rfl)))))))) HT3.out.bel
        · have HE : Hid (¬ b = ByteArray.empty) := he
          have hE : b.toList.isEmpty = false := Bool.eq_false_iff.2 (fun h => he ((nm_iff b).1 h))
          clear he
          go_wp2
          go_ret
          exact tkP rfl (Stair.pass HOK.out (Stair.pass HI2.out (Stair.pass (.inr rfl) (Stair.pass (fun h => by simp at h) (Stair.pass (fun h => by simp at h) (Stair.pass (fun _ => HG.out.1 (by simp)) (Stair.fall (fun h => HE.out (h rfl))))))))) HT3.out.bel
    · have HK : Hid (¬ (k = 1 ∨ k = 2)) := fun h => h.elim hk1 hk2
      go_wp2
      go_ret
      exact tkP rfl (Stair.pass HOK.out (Stair.pass HI2.out (Stair.fall HK.out))) HT1.out.bel
set_option maxHeartbeats 4000000 in
theorem readTk_any (s : Nat → Int) (i : Int) (b : ByteArray) (g : Int) (hb : b.size ≤ 1048576) (hok : OkShape s) (w : World) :
    Calls Try.prog 22 #[shapeV s, .agg (tkC i 1 b g)] w fun e w' => ∃ x, e = .returned (.int .i64 x) ∧ Stair [(OkName b, 5), (g = (nameSum b b.size : Int) % s 0, 1)] isZ x ∧ Below w.heap.size w w' := by
  unfold tkC
  have CH := implHomeOf_any s b hb
  unfold shapeV at *
  have T0 := two_newb w #[.int .i64 (s 0), .int .i64 (s 1), .int .i64 (s 2), .int .i64 (s 3), .int .i64 (s 4), .int .i64 (s 5), .int .i64 (s 6), .int .i64 (s 7), .int .i64 (s 8)] #[.int .i64 i, .int .i64 1, .string b, .int .i64 g] 28 30
  have HOK : Hid (OkShape s) := hok
  clear hok
  go_enter Try.func22, Try.ntmps22
  go_wp2_with fail
  refine (CH _).mono ?_
  rintro e w1 ⟨x, c, rfl, hx, b1⟩
  have HT1 : Hid (Two w w1 #[.int .i64 (s 0), .int .i64 (s 1), .int .i64 (s 2), .int .i64 (s 3), .int .i64 (s 4), .int .i64 (s 5), .int .i64 (s 6), .int .i64 (s 7), .int .i64 (s 8)] #[.int .i64 i, .int .i64 1, .string b, .int .i64 g] 28 30) := T0.call b1
  clear T0 b1
  unfold intR
  have bA : Below w1.heap.size w1 (w1.alloc (.cells #[.int .i64 c, .int .i64 x] 53)) := (Below.refl _ _).alloc (Nat.le_refl _) _
  have y_3 : (w1.alloc (.cells #[.int .i64 c, .int .i64 x] 53)).cell? ⟨w.heap.size + 1, 3, none⟩ = some (.int .i64 g) := (HT1.out.call bA).b2.cell 3
  have HB : Hid (Below w.heap.size w (w1.alloc (.cells #[.int .i64 c, .int .i64 x] 53))) := (HT1.out.call bA).bel
  clear bA
  rcases hx with ⟨h1, -⟩ | ⟨h1, h2, rfl, rfl⟩ | ⟨h1, h2, rfl, hx⟩
  · exact absurd HOK.out h1
  · have HN : Hid (¬ OkName b) := h2
    clear h1 h2
    go_wp2
    go_ret
    exact ⟨_, rfl, Stair.fall HN.out, HB.out⟩
  · have HN : Hid (OkName b) := h2
    clear h1 h2
    by_cases hgm : g = x
    · have HG : Hid (g = (nameSum b b.size : Int) % s 0) := hgm.trans hx
      clear hx
      subst hgm
      go_wp2
      go_ret
      exact ⟨_, rfl, Stair.pass HN.out (Stair.pass HG.out (Stair.last rfl)), HB.out⟩
    · have HG : Hid (¬ g = (nameSum b b.size : Int) % s 0) := fun h => hgm (h.trans hx.symm)
      clear hx
      go_wp2
      go_ret
      exact ⟨_, rfl, Stair.pass HN.out (Stair.fall HG.out), HB.out⟩
set_option maxHeartbeats 4000000 in
theorem rebuildTk_any (s : Nat → Int) (i : Int) (b : ByteArray) (g : Int) (hok : OkShape s) (w : World) :
    Calls Try.prog 23 #[shapeV s, .agg (tkC i 2 b g)] w fun e w' => ∃ x, e = .returned (.int .i64 x) ∧ Stair [(InP g 0 (s 0 + s 1 - 1), 3), (b = ByteArray.empty, 1)] isZ x ∧ Below w.heap.size w w' := by
  unfold tkC
  obtain ⟨t2, h2⟩ := exB (InP g 0 (s 0 + s 1 - 1))
  have CG := isGroup_b hok h2
  unfold shapeV at *
  have T0 := two_newb w #[.int .i64 (s 0), .int .i64 (s 1), .int .i64 (s 2), .int .i64 (s 3), .int .i64 (s 4), .int .i64 (s 5), .int .i64 (s 6), .int .i64 (s 7), .int .i64 (s 8)] #[.int .i64 i, .int .i64 2, .string b, .int .i64 g] 28 30
  have HG : Hid (t2 = true ↔ InP g 0 (s 0 + s 1 - 1)) := h2
  clear hok h2
  go_enter Try.func23, Try.ntmps23
  go_wp2_with fail
  refine (CG _).mono ?_
  rintro e w1 ⟨rfl, b1⟩
  have HT1 : Hid (Two w w1 #[.int .i64 (s 0), .int .i64 (s 1), .int .i64 (s 2), .int .i64 (s 3), .int .i64 (s 4), .int .i64 (s 5), .int .i64 (s 6), .int .i64 (s 7), .int .i64 (s 8)] #[.int .i64 i, .int .i64 2, .string b, .int .i64 g] 28 30) := T0.call b1
  clear T0 b1
  have z_2 : w1.cell? ⟨w.heap.size + 1, 2, none⟩ = some (.string b) := HT1.out.b2.cell 2
  cases t2 with
  | false =>
    go_wp2
    go_ret
    exact ⟨_, rfl, Stair.fall (fun h => by have := HG.out.2 h; simp at this), HT1.out.bel⟩
  | true =>
    by_cases he : b = ByteArray.empty
    · have HE : Hid (b = ByteArray.empty) := he
      have hE : b.toList.isEmpty = true := (nm_iff b).2 he
      clear he
      go_wp2
      go_ret
      exact ⟨_, rfl, Stair.pass (HG.out.1 (by simp)) (Stair.pass HE.out (Stair.last rfl)), HT1.out.bel⟩
    · have HE : Hid (¬ b = ByteArray.empty) := he
      have hE : b.toList.isEmpty = false := Bool.eq_false_iff.2 (fun h => he ((nm_iff b).1 h))
      clear he
      go_wp2
      go_ret
      exact ⟨_, rfl, Stair.pass (HG.out.1 (by simp)) (Stair.fall HE.out), HT1.out.bel⟩
theorem tk_read {s : Nat → Int} {i : Int} {b : ByteArray} {g x : Int} (ho : OkShape s) (hi : InP i 1 1000000000) (h : Stair [(OkName b, 5), (g = (nameSum b b.size : Int) % s 0, 1)] isZ x) : TkAns s i 1 b g x := by
  refine Stair.pass ho (Stair.pass hi (Stair.pass (.inl rfl) ?_))
  rcases h with ⟨h1, rfl⟩ | ⟨h1, h⟩
  · exact Stair.fall (fun h => h1 (h rfl))
  · rcases h with ⟨h2, rfl⟩ | ⟨h2, h⟩
    · exact Stair.pass (fun _ => h1) (Stair.fall (fun h => h2 (h rfl)))
    · exact Stair.pass (fun _ => h1) (Stair.pass (fun _ => h2) (Stair.pass (fun h => by simp at h) (Stair.pass (fun h => by simp at h) h)))
theorem tk_rebuild {s : Nat → Int} {i : Int} {b : ByteArray} {g x : Int} (ho : OkShape s) (hi : InP i 1 1000000000) (h : Stair [(InP g 0 (s 0 + s 1 - 1), 3), (b = ByteArray.empty, 1)] isZ x) : TkAns s i 2 b g x := by
  refine Stair.pass ho (Stair.pass hi (Stair.pass (.inr rfl) (Stair.pass (fun h => by simp at h) (Stair.pass (fun h => by simp at h) ?_))))
  rcases h with ⟨h1, rfl⟩ | ⟨h1, h⟩
  · exact Stair.fall (fun h => h1 (h rfl))
  · rcases h with ⟨h2, rfl⟩ | ⟨h2, h⟩
    · exact Stair.pass (fun _ => h1) (Stair.fall (fun h => h2 (h rfl)))
    · exact Stair.pass (fun _ => h1) (Stair.pass (fun _ => h2) h)
set_option maxHeartbeats 4000000 in
theorem implTicket_any (s : Nat → Int) (i k : Int) (b : ByteArray) (g : Int) (hb : b.size ≤ 1048576) (w : World) :
    Calls Try.prog 9 #[shapeV s, .agg (tkC i k b g)] w (TkPost s i k b g w) := by
  unfold tkC shapeV
  have T0 := two_newb w #[.int .i64 (s 0), .int .i64 (s 1), .int .i64 (s 2), .int .i64 (s 3), .int .i64 (s 4), .int .i64 (s 5), .int .i64 (s 6), .int .i64 (s 7), .int .i64 (s 8)] #[.int .i64 i, .int .i64 k, .string b, .int .i64 g] 28 30
  go_enter Try.func9, Try.ntmps9
  go_wp2_with fail
  refine (implShape_any s _).mono ?_
  rintro e w1 ⟨x, rfl, hx, b1⟩
  have HT1 : Hid (Two w w1 #[.int .i64 (s 0), .int .i64 (s 1), .int .i64 (s 2), .int .i64 (s 3), .int .i64 (s 4), .int .i64 (s 5), .int .i64 (s 6), .int .i64 (s 7), .int .i64 (s 8)] #[.int .i64 i, .int .i64 k, .string b, .int .i64 g] 28 30) := T0.call b1
  clear T0 b1
  have T1 := HT1.out
  have x1_0 : w1.cell? ⟨w.heap.size, 0, none⟩ = some (.int .i64 (s 0)) := T1.b1.cell 0
  have xf1_0 := cell_regrown x1_0
  have x1_1 : w1.cell? ⟨w.heap.size, 1, none⟩ = some (.int .i64 (s 1)) := T1.b1.cell 1
  have xf1_1 := cell_regrown x1_1
  have x1_2 : w1.cell? ⟨w.heap.size, 2, none⟩ = some (.int .i64 (s 2)) := T1.b1.cell 2
  have xf1_2 := cell_regrown x1_2
  have x1_3 : w1.cell? ⟨w.heap.size, 3, none⟩ = some (.int .i64 (s 3)) := T1.b1.cell 3
  have xf1_3 := cell_regrown x1_3
  have x1_4 : w1.cell? ⟨w.heap.size, 4, none⟩ = some (.int .i64 (s 4)) := T1.b1.cell 4
  have xf1_4 := cell_regrown x1_4
  have x1_5 : w1.cell? ⟨w.heap.size, 5, none⟩ = some (.int .i64 (s 5)) := T1.b1.cell 5
  have xf1_5 := cell_regrown x1_5
  have x1_6 : w1.cell? ⟨w.heap.size, 6, none⟩ = some (.int .i64 (s 6)) := T1.b1.cell 6
  have xf1_6 := cell_regrown x1_6
  have x1_7 : w1.cell? ⟨w.heap.size, 7, none⟩ = some (.int .i64 (s 7)) := T1.b1.cell 7
  have xf1_7 := cell_regrown x1_7
  have x1_8 : w1.cell? ⟨w.heap.size, 8, none⟩ = some (.int .i64 (s 8)) := T1.b1.cell 8
  have xf1_8 := cell_regrown x1_8
  have y1_0 : w1.cell? ⟨w.heap.size + 1, 0, none⟩ = some (.int .i64 i) := T1.b2.cell 0
  have yf1_0 := cell_regrown y1_0
  have y1_1 : w1.cell? ⟨w.heap.size + 1, 1, none⟩ = some (.int .i64 k) := T1.b2.cell 1
  have yf1_1 := cell_regrown y1_1
  have y1_2 : w1.cell? ⟨w.heap.size + 1, 2, none⟩ = some (.string b) := T1.b2.cell 2
  have yf1_2 := cell_regrown y1_2
  have y1_3 : w1.cell? ⟨w.heap.size + 1, 3, none⟩ = some (.int .i64 g) := T1.b2.cell 3
  have yf1_3 := cell_regrown y1_3
  clear T1
  rcases hx with ⟨rfl, hx⟩ | ⟨rfl, hx⟩
  · have HN : Hid (¬ OkShape s) := hx
    clear hx
    go_wp2
    go_ret
    exact tkP rfl (Stair.fall HN.out) HT1.out.bel
  have HOK : Hid (OkShape s) := hx
  clear hx
  obtain ⟨t1, h1⟩ := exB (InP i 1 1000000000)
  have HI : Hid (t1 = true ↔ InP i 1 1000000000) := h1
  clear h1
  go_wp2_with fail
  refine (inBounds_b (by omega) HI.out _).mono ?_
  rintro e w2 ⟨rfl, hw2⟩
  obtain rfl := hw2.symm
  cases t1 with
  | false =>
    go_wp2
    go_ret
    exact tkP rfl (Stair.pass HOK.out (Stair.fall (fun h => by have := HI.out.2 h; simp at this))) HT1.out.bel
  | true =>
  have HI2 : Hid (InP i 1 1000000000) := HI.out.1 rfl
  clear HI
  by_cases hk1 : k = 1
  · subst hk1
    have CR := readTk_any s i b g hb HOK.out
    unfold shapeV tkC at CR
    go_wp2_with fail
    refine (CR _).mono ?_
    rintro e w2 ⟨x, rfl, hx, b2⟩
    have HX : Hid (TkAns s i 1 b g x) := tk_read HOK.out HI2.out hx
    have HB2 : Hid (Below w.heap.size w w2) := (HT1.out.call b2).bel
    clear hx b2 x1_0 xf1_0 x1_1 xf1_1 x1_2 xf1_2 x1_3 xf1_3 x1_4 xf1_4 x1_5 xf1_5 x1_6 xf1_6 x1_7 xf1_7 x1_8 xf1_8 y1_0 yf1_0 y1_1 yf1_1 y1_2 yf1_2 y1_3 yf1_3
    go_wp2
    go_ret
    exact tkP rfl HX.out HB2.out
  · by_cases hk2 : k = 2
    · subst hk2
      have CR := rebuildTk_any s i b g HOK.out
      unfold shapeV tkC at CR
      go_wp2_with fail
      refine (CR _).mono ?_
      rintro e w2 ⟨x, rfl, hx, b2⟩
      have HX : Hid (TkAns s i 2 b g x) := tk_rebuild HOK.out HI2.out hx
      have HB2 : Hid (Below w.heap.size w w2) := (HT1.out.call b2).bel
      clear hx b2 x1_0 xf1_0 x1_1 xf1_1 x1_2 xf1_2 x1_3 xf1_3 x1_4 xf1_4 x1_5 xf1_5 x1_6 xf1_6 x1_7 xf1_7 x1_8 xf1_8 y1_0 yf1_0 y1_1 yf1_1 y1_2 yf1_2 y1_3 yf1_3
      go_wp2
      go_ret
      exact tkP rfl HX.out HB2.out
    · have HK : Hid (¬ (k = 1 ∨ k = 2)) := fun h => h.elim hk1 hk2
      go_wp2
      go_ret
      exact tkP rfl (Stair.pass HOK.out (Stair.pass HI2.out (Stair.fall HK.out))) HT1.out.bel
end Go.Proofs.Ytbdiedcmhggnjaa

namespace Go.Proofs.Ytbdiedcmhggnjaa
open Go.ChangeShapes Go.WideShapes Go.ChangeAt Go.RowKit F256
set_option linter.unusedVariables false
set_option linter.unusedSimpArgs false

theorem opensTicket : Opens (layI.two (layI.two (layS.two layI))) 25 :=
  opens_struct Try.underlying25 (show _ = 4 by kernel_rfl)
    (opens_more ⟨_, rfl, rfl, rfl⟩ (opensI Try.underlying2 (by kernel_rfl))
    (opens_more ⟨_, rfl, rfl, rfl⟩ (opensI Try.underlying2 (by kernel_rfl))
    (opens_more ⟨_, rfl, rfl, rfl⟩ (opensS Try.underlying9 (by kernel_rfl))
    (opens_last ⟨_, rfl, rfl, rfl⟩ (opensI Try.underlying2 (by kernel_rfl)) rfl))))
theorem Stair.exT {K : Int → Prop} (hK : ∃ x, K x) : ∀ l : List (Prop × Int), ∃ x, Stair l K x
  | [] => hK
  | (p, c) :: l => by
    by_cases h : p
    · obtain ⟨x, hx⟩ := Stair.exT hK l
      exact ⟨x, .inr ⟨h, hx⟩⟩
    · exact ⟨c, .inl ⟨h, rfl⟩⟩
theorem tk_det {s : Nat → Int} {i k : Int} {b : ByteArray} {g X : Int} {w : World} {f : Nat} {args : Array Value} (hX : TkAns s i k b g X) (h : Calls Try.prog f args w (TkPost s i k b g w)) : Calls Try.prog f args w fun e w' => e = .returned (.int .i64 X) ∧ Below w.heap.size w w' :=
  h.mono fun e w' ⟨x, h1, h2, h3⟩ => ⟨by rw [h1, h2.one hX], h3⟩

set_option maxHeartbeats 8000000 in
set_option maxRecDepth 20000 in
theorem fnExactTicketFault_walk (s : Nat → Int) (a : Int × Int × ByteArray × Int) (cs : List Value) (w : World) (hs : ∀ i, -9223372036854775808 ≤ s i ∧ s i ≤ 9223372036854775807) (r : (layI.two (layI.two (layS.two layI))).rd w w.heap.size a cs) :
    Calls Try.prog 3 #[shapeV s, .agg cs.toArray] w fun e w' => e = .returned (.bool true) ∧ Below w.heap.size w w' := by
  obtain ⟨i, k, b, g⟩ := a
  obtain ⟨_, _, rfl, ⟨rfl, -⟩, _, _, rfl, ⟨rfl, -⟩, _, _, rfl, ⟨rfl, hb⟩, ⟨rfl, -⟩⟩ := r
  obtain ⟨X, hX⟩ : ∃ X, TkAns s i k b g X := Stair.exT (K := isZ) ⟨0, rfl⟩ _
  have CT := toShape_any s
  have CK := toTicket_any i k b g
  have CZ := szTicket_any i k b g hb
  show Calls Try.prog 3 #[shapeV s, .agg #[.int .i64 i, .int .i64 k, .string b, .int .i64 g]] w _
  have T0 := two_newb w #[.int .i64 (s 0), .int .i64 (s 1), .int .i64 (s 2), .int .i64 (s 3), .int .i64 (s 4), .int .i64 (s 5), .int .i64 (s 6), .int .i64 (s 7), .int .i64 (s 8)] #[.int .i64 i, .int .i64 k, .string b, .int .i64 g] 23 25
  unfold shapeV at CT ⊢
  unfold tkC at CK CZ
  clear hs
  go_enter Try.func3, Try.ntmps3
  go_wp2_with fail
  refine (CZ _).mono ?_
  rintro e w1 ⟨⟨x, rfl, hx⟩, b1⟩
  have HT1 : Hid (Two w w1 #[.int .i64 (s 0), .int .i64 (s 1), .int .i64 (s 2), .int .i64 (s 3), .int .i64 (s 4), .int .i64 (s 5), .int .i64 (s 6), .int .i64 (s 7), .int .i64 (s 8)] #[.int .i64 i, .int .i64 k, .string b, .int .i64 g] 23 25) := T0.call b1
  clear b1 T0 CZ
  have T1 := HT1.out
  have x1_0 : w1.cell? ⟨w.heap.size, 0, none⟩ = some (.int .i64 (s 0)) := T1.b1.cell 0
  have xf1_0 := cell_regrown x1_0
  have x1_1 : w1.cell? ⟨w.heap.size, 1, none⟩ = some (.int .i64 (s 1)) := T1.b1.cell 1
  have xf1_1 := cell_regrown x1_1
  have x1_2 : w1.cell? ⟨w.heap.size, 2, none⟩ = some (.int .i64 (s 2)) := T1.b1.cell 2
  have xf1_2 := cell_regrown x1_2
  have x1_3 : w1.cell? ⟨w.heap.size, 3, none⟩ = some (.int .i64 (s 3)) := T1.b1.cell 3
  have xf1_3 := cell_regrown x1_3
  have x1_4 : w1.cell? ⟨w.heap.size, 4, none⟩ = some (.int .i64 (s 4)) := T1.b1.cell 4
  have xf1_4 := cell_regrown x1_4
  have x1_5 : w1.cell? ⟨w.heap.size, 5, none⟩ = some (.int .i64 (s 5)) := T1.b1.cell 5
  have xf1_5 := cell_regrown x1_5
  have x1_6 : w1.cell? ⟨w.heap.size, 6, none⟩ = some (.int .i64 (s 6)) := T1.b1.cell 6
  have xf1_6 := cell_regrown x1_6
  have x1_7 : w1.cell? ⟨w.heap.size, 7, none⟩ = some (.int .i64 (s 7)) := T1.b1.cell 7
  have xf1_7 := cell_regrown x1_7
  have x1_8 : w1.cell? ⟨w.heap.size, 8, none⟩ = some (.int .i64 (s 8)) := T1.b1.cell 8
  have xf1_8 := cell_regrown x1_8
  have y1_0 : w1.cell? ⟨w.heap.size + 1, 0, none⟩ = some (.int .i64 i) := T1.b2.cell 0
  have yf1_0 := cell_regrown y1_0
  have y1_1 : w1.cell? ⟨w.heap.size + 1, 1, none⟩ = some (.int .i64 k) := T1.b2.cell 1
  have yf1_1 := cell_regrown y1_1
  have y1_2 : w1.cell? ⟨w.heap.size + 1, 2, none⟩ = some (.string b) := T1.b2.cell 2
  have yf1_2 := cell_regrown y1_2
  have y1_3 : w1.cell? ⟨w.heap.size + 1, 3, none⟩ = some (.int .i64 g) := T1.b2.cell 3
  have yf1_3 := cell_regrown y1_3
  clear T1
  rcases hx with rfl | ⟨hsz, hx⟩
  · go_wp2
    go_ret
    exact ⟨rfl, HT1.out.bel⟩
  have hx0 : ¬ x < 0 := by omega
  have CS : ∀ w', Calls Try.prog 6 #[shapeV s, .agg (tkC i k b g)] w' fun e w'' => e = .returned (.int .i64 X) ∧ Below w'.heap.size w' w'' := fun w' => tk_det hX (specTicket_any s i k b g hsz w')
  have CI : ∀ w', Calls Try.prog 9 #[shapeV s, .agg (tkC i k b g)] w' fun e w'' => e = .returned (.int .i64 X) ∧ Below w'.heap.size w' w'' := fun w' => tk_det hX (implTicket_any s i k b g hsz w')
  unfold shapeV tkC at CS CI
  clear hX hsz hx hb
  go_wp2_with fail
  have cT2 := q_below (W := w1) (fun w' _ => CT w')
  have cK2 := q_below (W := w1) (fun w' _ => CK w')
  have cS2 := q_below (W := w1) (fun w' _ => CS w')
  refine WQ.region (by kernel_rfl) (by kernel_rfl) ?_
  repeat (first | (apply WQ.skip; (case hw => rfl); intro K hK; go_simp; apply hK; clear hK K) | (apply WQ.want; (case hw => rfl); intro K hK; go_simp; first | (apply hK; clear hK K) | (apply Exists.intro; apply And.intro; (case left => intro p; (first | (go_at_call 7; exact cT2 _ _) | (go_at_call 8; exact cK2 _ _) | (go_at_call 6; exact cS2 _ _))); apply hK; clear hK K)))
  refine WQ.nil ?_
  intro w2 hw2
  have bb2 := below_rg hw2
  have HT2 : Hid (Two w w2 #[.int .i64 (s 0), .int .i64 (s 1), .int .i64 (s 2), .int .i64 (s 3), .int .i64 (s 4), .int .i64 (s 5), .int .i64 (s 6), .int .i64 (s 7), .int .i64 (s 8)] #[.int .i64 i, .int .i64 k, .string b, .int .i64 g] 23 25) := HT1.out.call bb2
  clear hw2 bb2 cT2 cK2 cS2 x1_0 xf1_0 x1_1 xf1_1 x1_2 xf1_2 x1_3 xf1_3 x1_4 xf1_4 x1_5 xf1_5 x1_6 xf1_6 x1_7 xf1_7 x1_8 xf1_8 y1_0 yf1_0 y1_1 yf1_1 y1_2 yf1_2 y1_3 yf1_3
  have T2 := HT2.out
  have x2_0 : w2.cell? ⟨w.heap.size, 0, none⟩ = some (.int .i64 (s 0)) := T2.b1.cell 0
  have xf2_0 := cell_regrown x2_0
  have x2_1 : w2.cell? ⟨w.heap.size, 1, none⟩ = some (.int .i64 (s 1)) := T2.b1.cell 1
  have xf2_1 := cell_regrown x2_1
  have x2_2 : w2.cell? ⟨w.heap.size, 2, none⟩ = some (.int .i64 (s 2)) := T2.b1.cell 2
  have xf2_2 := cell_regrown x2_2
  have x2_3 : w2.cell? ⟨w.heap.size, 3, none⟩ = some (.int .i64 (s 3)) := T2.b1.cell 3
  have xf2_3 := cell_regrown x2_3
  have x2_4 : w2.cell? ⟨w.heap.size, 4, none⟩ = some (.int .i64 (s 4)) := T2.b1.cell 4
  have xf2_4 := cell_regrown x2_4
  have x2_5 : w2.cell? ⟨w.heap.size, 5, none⟩ = some (.int .i64 (s 5)) := T2.b1.cell 5
  have xf2_5 := cell_regrown x2_5
  have x2_6 : w2.cell? ⟨w.heap.size, 6, none⟩ = some (.int .i64 (s 6)) := T2.b1.cell 6
  have xf2_6 := cell_regrown x2_6
  have x2_7 : w2.cell? ⟨w.heap.size, 7, none⟩ = some (.int .i64 (s 7)) := T2.b1.cell 7
  have xf2_7 := cell_regrown x2_7
  have x2_8 : w2.cell? ⟨w.heap.size, 8, none⟩ = some (.int .i64 (s 8)) := T2.b1.cell 8
  have xf2_8 := cell_regrown x2_8
  have y2_0 : w2.cell? ⟨w.heap.size + 1, 0, none⟩ = some (.int .i64 i) := T2.b2.cell 0
  have yf2_0 := cell_regrown y2_0
  have y2_1 : w2.cell? ⟨w.heap.size + 1, 1, none⟩ = some (.int .i64 k) := T2.b2.cell 1
  have yf2_1 := cell_regrown y2_1
  have y2_2 : w2.cell? ⟨w.heap.size + 1, 2, none⟩ = some (.string b) := T2.b2.cell 2
  have yf2_2 := cell_regrown y2_2
  have y2_3 : w2.cell? ⟨w.heap.size + 1, 3, none⟩ = some (.int .i64 g) := T2.b2.cell 3
  have yf2_3 := cell_regrown y2_3
  clear T2
  go_wp2_with fail
  have cT3 := q_below (W := w2) (fun w' _ => CT w')
  have cK3 := q_below (W := w2) (fun w' _ => CK w')
  have cS3 := q_below (W := w2) (fun w' _ => CI w')
  refine WQ.region (by kernel_rfl) (by kernel_rfl) ?_
  repeat (first | (apply WQ.skip; (case hw => rfl); intro K hK; go_simp; apply hK; clear hK K) | (apply WQ.want; (case hw => rfl); intro K hK; go_simp; first | (apply hK; clear hK K) | (apply Exists.intro; apply And.intro; (case left => intro p; (first | (go_at_call 7; exact cT3 _ _) | (go_at_call 8; exact cK3 _ _) | (go_at_call 9; exact cS3 _ _))); apply hK; clear hK K)))
  refine WQ.nil ?_
  intro w3 hw3
  have bb3 := below_rg hw3
  have HT3 : Hid (Two w w3 #[.int .i64 (s 0), .int .i64 (s 1), .int .i64 (s 2), .int .i64 (s 3), .int .i64 (s 4), .int .i64 (s 5), .int .i64 (s 6), .int .i64 (s 7), .int .i64 (s 8)] #[.int .i64 i, .int .i64 k, .string b, .int .i64 g] 23 25) := HT2.out.call bb3
  clear hw3 bb3 cT3 cK3 cS3 x2_0 xf2_0 x2_1 xf2_1 x2_2 xf2_2 x2_3 xf2_3 x2_4 xf2_4 x2_5 xf2_5 x2_6 xf2_6 x2_7 xf2_7 x2_8 xf2_8 y2_0 yf2_0 y2_1 yf2_1 y2_2 yf2_2 y2_3 yf2_3
  have T3 := HT3.out
  have x3_0 : w3.cell? ⟨w.heap.size, 0, none⟩ = some (.int .i64 (s 0)) := T3.b1.cell 0
  have xf3_0 := cell_regrown x3_0
  have x3_1 : w3.cell? ⟨w.heap.size, 1, none⟩ = some (.int .i64 (s 1)) := T3.b1.cell 1
  have xf3_1 := cell_regrown x3_1
  have x3_2 : w3.cell? ⟨w.heap.size, 2, none⟩ = some (.int .i64 (s 2)) := T3.b1.cell 2
  have xf3_2 := cell_regrown x3_2
  have x3_3 : w3.cell? ⟨w.heap.size, 3, none⟩ = some (.int .i64 (s 3)) := T3.b1.cell 3
  have xf3_3 := cell_regrown x3_3
  have x3_4 : w3.cell? ⟨w.heap.size, 4, none⟩ = some (.int .i64 (s 4)) := T3.b1.cell 4
  have xf3_4 := cell_regrown x3_4
  have x3_5 : w3.cell? ⟨w.heap.size, 5, none⟩ = some (.int .i64 (s 5)) := T3.b1.cell 5
  have xf3_5 := cell_regrown x3_5
  have x3_6 : w3.cell? ⟨w.heap.size, 6, none⟩ = some (.int .i64 (s 6)) := T3.b1.cell 6
  have xf3_6 := cell_regrown x3_6
  have x3_7 : w3.cell? ⟨w.heap.size, 7, none⟩ = some (.int .i64 (s 7)) := T3.b1.cell 7
  have xf3_7 := cell_regrown x3_7
  have x3_8 : w3.cell? ⟨w.heap.size, 8, none⟩ = some (.int .i64 (s 8)) := T3.b1.cell 8
  have xf3_8 := cell_regrown x3_8
  have y3_0 : w3.cell? ⟨w.heap.size + 1, 0, none⟩ = some (.int .i64 i) := T3.b2.cell 0
  have yf3_0 := cell_regrown y3_0
  have y3_1 : w3.cell? ⟨w.heap.size + 1, 1, none⟩ = some (.int .i64 k) := T3.b2.cell 1
  have yf3_1 := cell_regrown y3_1
  have y3_2 : w3.cell? ⟨w.heap.size + 1, 2, none⟩ = some (.string b) := T3.b2.cell 2
  have yf3_2 := cell_regrown y3_2
  have y3_3 : w3.cell? ⟨w.heap.size + 1, 3, none⟩ = some (.int .i64 g) := T3.b2.cell 3
  have yf3_3 := cell_regrown y3_3
  clear T3
  go_wp2
  go_ret
  exact ⟨rfl, HT3.out.bel⟩

set_option maxRecDepth 100000 in
theorem fnExactTicketFault_lifted (os : Os) (started : os.Started) (H : Type) (enc : TypeId × Value → H) :
    ReturnsInHanded {} Try.checked os 3 .any (Rows.fnExactTicketFaultSpec.pre6 enc Try.prog Try.f3 Rows.fnExactTicketFaultRow.domain false) (Rows.fnExactTicketFaultSpec.post enc Try.prog Try.f3 false true false false) := by
  refine returnsInHanded_of_change (C := Try.checked) frame_own started (by kernel_rfl) Try.func3
    (ChangeSpec.witness6 (enc := enc) (C := Try.checked) false ⟨#[], #[.agg #[.int .i64 0, .int .i64 0, .int .i64 0, .int .i64 0, .int .i64 0, .int .i64 0, .int .i64 0, .int .i64 0, .int .i64 0], .agg #[.int .i64 0, .int .i64 0, .string ByteArray.empty, .int .i64 0]], []⟩ 8 (by kernel_rfl) (by kernel_rfl) (by kernel_rfl) (by kernel_rfl)) ?_
  intro W base args ds gs before hval0 hW hcnd _
  have hval : ∀ (j : Nat) t v, Try.f3.params[j]? = some t → args[j]? = some v → Value.okWide Try.prog W .any base t v := hval0
  have hW' := hW
  obtain ⟨p, q, hA0, hV, rfl, hfz, hnd⟩ := hW
  have hA : DataW.TrodAll enc Try.prog W 0 (fun _ => true) true Try.f3.params.toList args.toList ds p := hA0
  rw [Try.params3] at hA hval
  obtain ⟨v0, vs0, d0, ds0, p0, q0, hargs, rfl, rfl, h0, r0⟩ := trodAll_cons hA
  obtain ⟨v1, vs1, d1, ds1, p1, q1, rfl, rfl, rfl, h1, r1⟩ := trodAll_cons r0
  obtain ⟨rfl, rfl, rfl⟩ := trodAll_nil r1
  obtain rfl : args = #[v0, v1] := by cases args; simp_all
  obtain ⟨rfl, rfl⟩ := trodVars_none hV
  have k0 := h0
  have lt0 : ∀ x ∈ p0, x.block < W.heap.size := by obtain ⟨m, hm⟩ := k0; exact DataW.trod_lt m _ _ _ hm
  have k1 := h1
  have lt1 : ∀ x ∈ p1, x.block < W.heap.size := by obtain ⟨m, hm⟩ := k1; exact DataW.trod_lt m _ _ _ hm
  obtain ⟨s0, rfl, hs0⟩ := shape_of_trod Try.underlying23 Try.underlying2 (by kernel_rfl) (by kernel_rfl) (fun i hi => by
    match i, hi with
    | 0, _ => exact ⟨_, rfl, rfl, rfl⟩
    | 1, _ => exact ⟨_, rfl, rfl, rfl⟩
    | 2, _ => exact ⟨_, rfl, rfl, rfl⟩
    | 3, _ => exact ⟨_, rfl, rfl, rfl⟩
    | 4, _ => exact ⟨_, rfl, rfl, rfl⟩
    | 5, _ => exact ⟨_, rfl, rfl, rfl⟩
    | 6, _ => exact ⟨_, rfl, rfl, rfl⟩
    | 7, _ => exact ⟨_, rfl, rfl, rfl⟩
    | 8, _ => exact ⟨_, rfl, rfl, rfl⟩) (hval 0 23 v0 rfl rfl) h0
  obtain ⟨cs1, a1, rfl, rd1⟩ := struct_of_trod opensTicket Try.underlying25 (hval 1 25 v1 rfl rfl) h1
  clear hA0 hval0
  refine (fnExactTicketFault_walk s0 a1 cs1 W hs0 rd1).mono fun e W' ⟨he, bel⟩ => ?_
  subst he
  exact ⟨_, rfl, _, _, _, [], _, [], hW', trodAll_mk1 (shut_bool Try.underlying4 _), (trodAll_cons_mk (Below.trod frame_laid (by kernel_rfl) (of_decide_eq_true (by kernel_rfl)) k0 bel lt0) (trodAll_cons_mk (Below.trod frame_laid (by kernel_rfl) (of_decide_eq_true (by kernel_rfl)) k1 bel lt1) trodAll_mk0)), rfl, bel.frame _, fun h => by cases h⟩

theorem fnExactTicketFault_proved : Rows.FnExactTicketFaultSaid :=
  OpenClaim.holds_of_wide 3 Try.f3 rfl rfl rfl rfl rfl rfl rfl ⟨rfl, rfl, rfl, rfl, rfl⟩ rfl rfl rfl rfl rfl (by kernel_rfl) Try.func3 (by kernel_rfl)
    (of_decide_eq_true (by kernel_rfl)) (by unfold Func.isWrapper; first | (rw [if_pos (by decide +kernel)]; kernel_rfl) | (rw [if_neg (by decide +kernel)]; exact ⟨rfl, rfl⟩))
    (fun os started H enc _ => fnExactTicketFault_lifted os started H enc)
#print axioms fnExactTicketFault_proved
end Go.Proofs.Ytbdiedcmhggnjaa
