/- A region that draws its order and whose last store writes a cell that it has read: loads are taken first, whatever comes up; the condition on the world need not hold behind that store, since it waits for all that is taken first. -/
import Derived.Test.YtopaofcpjiicmaaRecDefs
import Derived.Test.YtopaofcpjiicmaaWColD
import Derived.Lib.QuietBelow
import Derived.Test.YtopaofcpjiicmaaLay8
import Derived.Deep.RegionLaw
import Derived.Deep.DeepCutAuto
import Derived.Test.YtopaofcpjiicmaaWJoin
import Derived.Laws.CopyOwn
import Derived.Maps.AppendAt
import Derived.Test.YtopaofcpjiicmaaCells
import Derived.Test.YtopaofcpjiicmaaLay7
import Derived.Test.YtopaofcpjiicmaaWorldD
import Derived.Deep.MidRow
import Derived.Laws.Tables
import Derived.Laws.Rows
import Derived.Test.YtopaofcpjiicmaaCellsT
import Derived.Test.YtopaofcpjiicmaaOwn
import Derived.OrdersHeld
import Derived.Deep.RegionHeld
namespace Go.Proofs.Ytopaofcpjiicmaa
open Go.RowKit F256
set_option linter.unusedVariables false

theorem q_below {f : Nat} {args : Array Value} {W : World} {v : Value} (h : ∀ w', Below W.heap.size W w' → Calls Try.prog f args w' fun e w'' => e = .returned v ∧ Below w'.heap.size w' w'') :
    ∀ d os, Calls Try.prog f args (Go.Sort.grow (redrawn W d) os) fun e w'' => e = .returned v ∧ ∃ p : Regrown, w'' = Go.Sort.grow (redrawn W p.d) p.os := fun d os => Calls.regrown_of (h _ (below_regrown W d os))
theorem q_same {f : Nat} {args : Array Value} {W : World} {v : Value} (h : ∀ w', Calls Try.prog f args w' fun e w'' => e = .returned v ∧ w'' = w') :
    ∀ d os, Calls Try.prog f args (Go.Sort.grow (redrawn W d) os) fun e w'' => e = .returned v ∧ ∃ p : Regrown, w'' = Go.Sort.grow (redrawn W p.d) p.os :=
  q_below fun w' _ => (h w').mono fun e w'' ⟨h1, h2⟩ => ⟨h1, by rw [h2]; exact Below.refl _ _⟩
theorem det_b {f : Nat} {args : Array Value} {w : World} {P : Prop} {b : Bool} (h : Calls Try.prog f args w (BoolP P w)) (hb : b = true ↔ P) : Calls Try.prog f args w fun e w' => e = .returned (.bool b) ∧ Below w.heap.size w w' :=
  h.mono fun e w' ⟨b', h1, h2, h3⟩ => ⟨by rw [h1]; congr 2; cases b <;> cases b' <;> simp_all, h3⟩
theorem below_rg {W w' : World} (h : ∃ p : Regrown, w' = Go.Sort.grow (redrawn W p.d) p.os) : Below W.heap.size W w' := by
  obtain ⟨p, rfl⟩ := h
  exact below_regrown W p.d p.os
/-- the walk in the text's order, behind a wall (what is behind it is not looked into) -/
structure WQ (P : Program) (ops : Array Oper) (C : World → Prop) (Q : Act → Prop) (l : List Oper) (a : Act) : Prop where
  out : wpQuiet P ops C Q l a
theorem WQ.skip {P : Program} {ops : Array Oper} {C : World → Prop} {Q : Act → Prop} {a : Act} {o : Oper} {rest : List Oper} (hw : Region.wanted o (yielded ops a.tmps) = false)
    (h : ∀ K : Act → Prop, (∀ a, WQ P ops C Q rest a → K a) → K (a.put o.dst undef)) : WQ P ops C Q (o :: rest) a := by
  refine ⟨?_⟩
  unfold wpQuiet
  rw [if_neg (by rw [hw]; decide)]
  exact (h _ (fun _ h => h)).out
theorem WQ.want {P : Program} {ops : Array Oper} {C : World → Prop} {Q : Act → Prop} {a : Act} {o : Oper} {rest : List Oper} (hw : Region.wanted o (yielded ops a.tmps) = true)
    (h : ∀ K : Act → Prop, (∀ a, WQ P ops C Q rest a → K a) → o.quiet P a C K) : WQ P ops C Q (o :: rest) a := by
  refine ⟨?_⟩
  unfold wpQuiet
  rw [if_pos hw]
  exact Oper.quiet_mono (fun a h => h.out) (h _ (fun _ h => h))
theorem WQ.nil {P : Program} {ops : Array Oper} {C : World → Prop} {Q : Act → Prop} {a : Act} (h : Q a) : WQ P ops C Q [] a := ⟨wpQuiet_nil h⟩
theorem WQ.region {P : Program} {id : Nat} {Q : Exit → Act → World → Prop} {a : Act} {w : World} {l : List Oper} (hm : P.follows .mixedOrders = true) (hB : Region.lexB .any l.toArray = true)
    (h : WQ P l.toArray (fun w' => ∃ p : Regrown, w' = Go.Sort.grow (redrawn w p.d) p.os) (fun a' => ∀ w', (∃ p : Regrown, w' = Go.Sort.grow (redrawn w p.d) p.os) → Q .normal a' w') l a) : (Code.region id l.toArray true).wp P Q a w := wp_region_quiet_below hm hB h.out
end Go.Proofs.Ytopaofcpjiicmaa

namespace Go.Proofs.Ytopaofcpjiicmaa
open Go.RowKit F256
set_option linter.unusedVariables false
set_option linter.unusedSimpArgs false

def blankB : BlockD := ⟨0, (4, fun _ => 0)⟩
def freshD (rows : Nat) : DriveD := ⟨false, (rows, fun _ => blankB)⟩
theorem ownB_T {w : World} {lo hi n : Nat} {v : Value} {f : Nat → Nat} (h : Own w lo hi v n f) (hh : hi ≤ w.heap.size) (kf : ∀ i, f i < 256) : OwnT layBytes w lo hi (n, f) [v] := by
  refine ⟨v.ownBlock.toList, ⟨v, rfl, rfl, h.weaken (Nat.zero_le _) hh, kf⟩, ?_, fun b hb => ?_⟩
  · cases v.ownBlock <;> simp
  · have hb' : v.ownBlock = some b := by simpa using hb
    exact ⟨(h.1.lt b hb').1, h.2 b hb'⟩
theorem OwnT.fin1 {α : Type} {A : Lay α} {w : World} {s : Nat} {a : α} {cs : List Value} (h : OwnT A w (s + 1) w.heap.size a cs) (o : Nat) (l : List Value) (w' : World) (e : w' = Go.Proofs.Ytopaofcpjiicmaa.stN w s o l) : OwnT A w' s w'.heap.size a cs := by
  subst e
  exact (h.stN s o l (by omega)).weaken (by omega) (by rw [stN_size]; exact Nat.le_refl _)
theorem Three.low {w wc w' : World} {c1 c2 c3 : Array Value} {t1 t2 t3 : TypeId} (h : Three w wc c1 c2 c3 t1 t2 t3) (hb : Below (w.heap.size + 1 + 1 + 1) wc w') : Three w w' c1 c2 c3 t1 t2 t3 :=
  ⟨h.b1.below hb (by omega), h.b2.below hb (by omega), h.b3.below hb (by omega), h.bel.trans (hb.mono (by omega))⟩
end Go.Proofs.Ytopaofcpjiicmaa

namespace Go.Proofs.Ytopaofcpjiicmaa
open Go.RowKit F256
set_option linter.unusedVariables false
section
variable {α : Type} {E : Lay α} {t : TypeId} {w w1 : World} {lo g cap n k : Nat} {x : Nat → α} {ce : Nat → List Value} {Ls : Nat → List Nat}
/-- a store into an element that is not laid yet -/
theorem SlP.poke (h : SlP E t w lo g cap n k x ce Ls) {i j : Nat} (hk : k ≤ i) (hi : i < n) (hj : j < E.sz) (u : Value) : SlP E t (w.setCell ⟨g, i * E.sz + j, none⟩ u) lo g cap n k x (upd ce i ((ce i).set j u)) Ls := by
  refine ⟨?_, fun m hm => ?_, fun m hm => ?_, h.nd, h.low⟩
  · have := (h.row.stored (i * E.sz + j) u).1
    rw [catN_set h.lens hi hj] at this
    exact this
  · by_cases c : m = i
    · subst c; rw [upd_at, List.length_set]; exact h.lens m hm
    · rw [upd_ne ce _ c]; exact h.lens m hm
  · rw [upd_ne ce _ (by omega)]
    exact E.own_kept (h.each m hm) (fun b hb => heap_setCell_other w _ b u (fun hh => (List.nodup_cons.1 h.nd).1 (by rw [← show b = g from hh]; exact mem_catN.2 ⟨m, hm, hb⟩)))
/-- the element k is laid now; w1: a world in which the others were there and none of its blocks -/
theorem SlP.count {x1 : Nat → α} {ce1 : Nat → List Value} (h1 : SlP E t w1 lo g cap n k x1 ce1 Ls) (h : SlP E t w lo g cap n k x ce Ls) {a : α} {K : List Nat} (ha : E.own w a (ce k) K) (hnd : K.Nodup) (hK : ∀ b, b ∈ K → w1.heap.size ≤ b) (hlo : lo ≤ w1.heap.size) :
    SlP E t w lo g cap n (k + 1) (upd x k a) ce (upd Ls k K) := by
  have eL : catN (k + 1) (upd Ls k K) = catN k Ls ++ K := by
    rw [catN_succ, upd_at, catN_congr (g := Ls) (fun i hi => upd_ne Ls K (by omega))]
  refine ⟨h.row, h.lens, fun i hi => ?_, ?_, ?_⟩
  · by_cases c : i = k
    · subst c; rw [upd_at, upd_at]; exact ha
    · rw [upd_ne x a c, upd_ne Ls K c]; exact h.each i (by omega)
  · rw [eL]
    refine List.nodup_cons.2 ⟨fun hb => ?_, List.nodup_append.2 ⟨(List.nodup_cons.1 h.nd).2, hnd, fun b hb c hc hh => ?_⟩⟩
    · rcases List.mem_append.1 hb with h3 | h3
      · exact (List.nodup_cons.1 h.nd).1 h3
      · have := hK g h3; have := h1.lt; omega
    · subst hh
      have k1 := h1.mem_lt b hb
      have k2 := hK b hc
      omega
  · rw [eL]
    intro b hb
    rcases List.mem_append.1 hb with h3 | h3
    · exact h.low b h3
    · have := hK b h3; omega
/-- a store into the element k, which lays it -/
theorem SlP.fill (h1 : SlP E t w1 lo g cap n k x ce Ls) (hb : Below w1.heap.size w1 w) (hk : k < n) {j : Nat} (hj : j < E.sz) (u : Value) {a : α} {cs : List Value} (hcs : (ce k).set j u = cs) (ha : OwnT E w w1.heap.size w.heap.size a cs) (hlo : lo ≤ w1.heap.size) :
    ∃ ce' Ls', SlP E t (w.setCell ⟨g, k * E.sz + j, none⟩ u) lo g cap n (k + 1) (upd x k a) ce' Ls' ∧ ∀ i, k < i → ce' i = ce i := by
  subst hcs
  obtain ⟨K, a1, a2, a3⟩ := ha
  have hg := h1.lt
  refine ⟨_, _, h1.count ((h1.below hb).poke (Nat.le_refl k) hk hj u) (K := K) ?_ a2 (fun b hb => (a3 b hb).1) hlo, fun i hi => upd_ne ce _ (by omega)⟩
  rw [upd_at]
  exact E.own_kept a1 (fun b hb => heap_setCell_other w _ b u (fun hh => by have := (a3 b hb).1; have h5 : b = g := hh; omega))
theorem SlP.congr {y : Nat → α} (h : SlP E t w lo g cap n k x ce Ls) (hy : ∀ i, i < k → x i = y i) : SlP E t w lo g cap n k y ce Ls := ⟨h.row, h.lens, fun i hi => by rw [← hy i hi]; exact h.each i hi, h.nd, h.low⟩
/-- all elements zero and without memory -/
theorem SlP.zero {zs : List Value} {a : α} (h : SlP E t w lo g cap n 0 x (fun _ => zs) Ls) (hz : E.own w a zs []) (hg : lo ≤ g) : OwnT (E.slice t) w lo w.heap.size (n, fun _ => a) [.slice (Option.some ⟨g, 0, none⟩) n cap] := by
  have e : ∀ m, catN m (fun _ => ([] : List Nat)) = [] := fun m => by
    induction m with
    | zero => rfl
    | succ m ih => rw [catN_succ, ih]; rfl
  have h2 : SlP E t w lo g cap n n (fun _ => a) (fun _ => zs) (fun _ => []) := ⟨h.row, h.lens, fun i _ => hz, by rw [e]; simp, fun b hb => by rw [e] at hb; cases hb⟩
  exact h2.done hg
end
/-- make([]E, n), as it runs -/
theorem run_makeT {α : Type} {E : Lay α} {T e : TypeId} {by_ : Nat} {zs : List Value} (I : ElInfo E T e by_ zs) (x : Nat → α) (Ls : Nat → List Nat) (w : World) (n : Nat) (hn : n ≤ 10000000) :
    ∃ w', (Instr.makeSlice T (.int .i64 (n : Int)) (.int .i64 (n : Int))).run Try.prog w = .ok (.slice (some ⟨w.heap.size, 0, none⟩) n n) w' ∧ SlP E e w' w.heap.size w.heap.size n n 0 x (fun _ => zs) Ls ∧ Below w.heap.size w w' := by
  obtain ⟨hs, hzs, hu, hi, few⟩ := I
  obtain ⟨i0, hi0⟩ : ∃ i0, Try.prog.info? e = some i0 := by
    cases h : Try.prog.info? e with
    | none => rw [h] at hi; cases hi
    | some i0 => exact ⟨i0, rfl⟩
  rw [hi0] at hi
  simp only [Option.map_some, Option.some.injEq, Prod.mk.injEq] at hi
  obtain ⟨h1, h2, h3⟩ := hi
  obtain ⟨z, hz, hzc⟩ : ∃ z, i0.zero = some z ∧ z.cells = zs.toArray := by
    cases h : i0.zero with
    | none => rw [h] at h1; cases h1
    | some z => rw [h] at h1; exact ⟨z, rfl, by simpa using h1⟩
  obtain ⟨w', hrun, hown, hgrow⟩ := run_make_full (P := Try.prog) w w.heap.size T e i0 z E.sz hu hi0 hz h2 .i64 .i64 n (by
    rw [h3]
    have : by_ * n ≤ 1000 * 10000000 := Nat.mul_le_mul few hn
    omega) (by unfold maxLen; omega) (Nat.le_refl _)
  rw [hzc, ← hzs, catN_made zs (by omega)] at hown
  rw [hzs] at hown
  exact ⟨w', hrun, ⟨hown, fun _ _ => hzs, fun i hi => by omega, by simp [catN_zero], fun b hb => by rw [catN_zero] at hb; cases hb⟩, below_of_grown hgrow⟩
end Go.Proofs.Ytopaofcpjiicmaa

namespace Go.Proofs.Ytopaofcpjiicmaa
open Go.RowKit F256
set_option linter.unusedVariables false
def noRec : RecD := ⟨0, 0, ByteArray.empty, 0, 0, 0, (0, fun _ => 0), (0, fun _ => 0), (0, fun _ => 0)⟩
def zeroT : TapeD := ⟨false, (0, fun _ => noRec)⟩
def zeroW : WorldD := ⟨fun _ => 0, (0, fun _ => (0, fun _ => freshD 0)), (0, fun _ => 0), (0, fun _ => zeroT), 0, 0, false⟩
def newW (s : Nat → Int) : WorldD := ⟨s, ((s 0 + s 1).toNat, fun _ => ((s 2 + s 3).toNat, fun _ => freshD (s 4).toNat)), (0, fun _ => 0), (2, fun _ => zeroT), 0, -1, false⟩
def NewAns (s : Nat → Int) (d : WorldResultD) : Prop := (¬ OkShape s ∧ d = ⟨3, zeroW⟩) ∨ (OkShape s ∧ d = ⟨0, newW s⟩)
theorem NewAns.one {s : Nat → Int} {d e : WorldResultD} (h : NewAns s d) (k : NewAns s e) : d = e := by
  rcases h with ⟨h1, h2⟩ | ⟨h1, h2⟩ <;> rcases k with ⟨k1, k2⟩ | ⟨k1, k2⟩
  · rw [h2, k2]
  · exact absurd k1 h1
  · exact absurd h1 k1
  · rw [h2, k2]
theorem new_ex (s : Nat → Int) : ∃ d, NewAns s d := by
  by_cases h : OkShape s
  · exact ⟨_, .inr ⟨h, rfl⟩⟩
  · exact ⟨_, .inl ⟨h, rfl⟩⟩
theorem own_noInts (w : World) (f : Nat → Int) (h : ∀ i, -9223372036854775808 ≤ f i ∧ f i ≤ 9223372036854775807) : layInts.own w (0, f) [.slice none 0 0] [] := ⟨_, rfl, rfl, ⟨⟨rfl, .inl ⟨rfl, rfl⟩⟩, fun k hk => by cases hk⟩, h⟩
theorem own_noSl {α : Type} {E : Lay α} {t : TypeId} (w : World) (x : Nat → α) : (E.slice t).own w (0, x) [.slice none 0 0] [] := ⟨_, fun _ => [], fun _ => [], rfl, rfl, World.ownsRow_nil w 0 t E.sz, fun i hi => by omega⟩
theorem Box.chgl {w w' : World} {b : Nat} {cs : Array Value} {t : TypeId} {K : List Nat} (h : Box w b cs t) (hc : ChgL K w w') (hb : b ∉ K) : Box w' b cs t := (hc.block b h.lt hb).trans h
theorem ChgL.bel {K : List Nat} {w w' : World} {B : Nat} (hc : ChgL K w w') (hK : ∀ b, b ∈ K → B ≤ b) (hB : B ≤ w.heap.size) : Below B w w' := ⟨hc.os, hc.tape, hc.output, hc.size, fun k hk => hc.block k (by omega) (fun h => by have := hK k h; omega)⟩
theorem ChgL.after {K : List Nat} {a b c : World} (h : ChgL K a b) (k : Below a.heap.size b c) : ChgL K a c := ⟨k.os.trans h.os, k.tape.trans h.tape, k.output.trans h.output, Nat.le_trans h.size k.size, fun i hi hn => (k.block i hi).trans (h.block i hi hn)⟩
theorem Two.chgl {w wc w' : World} {c1 c2 : Array Value} {t1 t2 : TypeId} {P : Nat} (h : Two w wc c1 c2 t1 t2) (hc : ChgL [P] wc w') (hP : w.heap.size + 1 < P) : Two w w' c1 c2 t1 t2 :=
  ⟨h.b1.chgl hc (by simp; omega), h.b2.chgl hc (by simp; omega), h.bel.trans (hc.bel (fun b hb => by simp at hb; omega) h.bel.size)⟩
theorem own_st {α : Type} {A : Lay α} {w : World} {a : α} {cs : List Value} {K : List Nat} {g off : Nat} {l : List Value} (h : A.own w a cs K) (hg : g ∉ K) : A.own (Go.Proofs.Ytopaofcpjiicmaa.stN w g off l) a cs K := A.own_kept h (fun b hb => stN_heap g b (fun hh => hg (by rw [← hh]; exact hb)) l w off)
theorem OwnT.finb {α : Type} {A : Lay α} {w : World} {lo b : Nat} {a : α} {cs : List Value} (h : OwnT A w lo w.heap.size a cs) (hb : b < lo) {lo' : Nat} (hl : lo' ≤ lo) (o : Nat) (l : List Value) (w' : World) (e : w' = Go.Proofs.Ytopaofcpjiicmaa.stN w b o l) : OwnT A w' lo' w'.heap.size a cs := by
  subst e
  exact (h.stN b o l hb).weaken hl (by rw [stN_size]; exact Nat.le_refl _)
end Go.Proofs.Ytopaofcpjiicmaa

namespace Go.Proofs.Ytopaofcpjiicmaa
open Go.RowKit F256
set_option linter.unusedVariables false
set_option linter.unusedSimpArgs false
theorem OwnI.full {w : World} {lo hi g n : Nat} {f : Nat → Int} (h : OwnI w lo hi (.slice (some ⟨g, 0, none⟩) n n) n f) : w.heap[g]? = some (.cells (intsOf n f).toArray 2 (0, 0)) := by
  rcases h.1.2 with ⟨h', _⟩ | ⟨g', cap', cur, h', _, hg, _, _, hcs, htake⟩
  · simp at h'
  · simp only [Value.slice.injEq, Option.some.injEq, Addr.mk.injEq, and_true, true_and] at h'
    obtain ⟨rfl, rfl⟩ := h'
    have : cur = (intsOf n f).toArray := by
      rw [← htake, List.take_of_length_le (by simp; omega)]
    rw [← this]
    exact hg
theorem ownI_of_full {w : World} {lo g n : Nat} {f : Nat → Int} (hg : w.heap[g]? = some (.cells (intsOf n f).toArray 2 (0, 0))) (hlo : lo ≤ g) (hm : n ≤ maxLen) : OwnI w lo w.heap.size (.slice (some ⟨g, 0, none⟩) n n) n f :=
  ⟨⟨by rw [intsOf_length]; omega, .inr ⟨g, n, _, rfl, hlo, hg, Nat.le_refl _, hm, by simp [intsOf_length], by simp [List.take_of_length_le, intsOf_length]⟩⟩, fun k hk => by
    simp [Value.ownBlock] at hk
    subst hk
    exact (Array.getElem?_eq_some_iff.1 hg).1⟩
theorem splice_ints (N off m : Nat) (f t h : Nat → Int) (hm : off + m ≤ N) (hh : ∀ i, i < N → h i = if off ≤ i ∧ i < off + m then t (i - off) else f i) : splice (intsOf N f) off (intsOf m t) = intsOf N h := by
  unfold splice
  apply List.ext_getElem?
  intro i
  by_cases hi : i < N
  · rw [intsOf_get N h i hi, hh i hi]
    by_cases h1 : i < off
    · have e1 : ¬ (off ≤ i ∧ i < off + m) := by omega
      rw [if_neg e1, List.getElem?_append_left (by rw [List.length_take, intsOf_length]; omega), List.getElem?_take, if_pos h1, intsOf_get N f i hi]
    · rw [List.getElem?_append_right (by rw [List.length_take, intsOf_length]; omega)]
      have e0 : (List.take off (intsOf N f)).length = off := by rw [List.length_take, intsOf_length]; omega
      rw [e0]
      by_cases h2 : i < off + m
      · rw [if_pos ⟨by omega, h2⟩, List.getElem?_append_left (by rw [intsOf_length]; omega), intsOf_get m t _ (by omega)]
      · have e1 : ¬ (off ≤ i ∧ i < off + m) := by omega
        rw [if_neg e1, List.getElem?_append_right (by rw [intsOf_length]; omega), intsOf_length, List.getElem?_drop, show off + m + (i - off - m) = i by omega, intsOf_get N f i hi]
  · rw [List.getElem?_eq_none (by simp [intsOf_length]; omega), List.getElem?_eq_none (by rw [intsOf_length]; omega)]

theorem copy_srcI {w : World} {hi n cap : Nat} {ao : Option Addr} {f : Nat → Int} (r : RdI w hi (.slice ao n cap) n f) (h : 0 < (intsOf n f).length) : ∃ ad, ao = some ad ∧ ∀ j v, (intsOf n f)[j]? = some v → w.cell? (ad.add j) = some v := by
  rw [intsOf_length] at h
  obtain ⟨ao', cap', he, _, hc⟩ := r
  simp only [Value.slice.injEq, true_and] at he
  obtain ⟨rfl, rfl⟩ := he
  obtain ⟨b, off, rfl, _, hcell⟩ := hc (by omega)
  refine ⟨_, rfl, fun j v hj => ?_⟩
  by_cases hjn : j < n
  · rw [intsOf_get n f j hjn] at hj
    rw [add_none', hcell j hjn]
    exact hj
  · rw [List.getElem?_eq_none (by rw [intsOf_length]; omega)] at hj
    cases hj
theorem intsOf_one (n : Nat) (f : Nat → Int) : ∀ v ∈ intsOf n f, v.oneCell' = true := fun v hv => by
  simp only [intsOf, List.mem_map] at hv
  obtain ⟨i, _, rfl⟩ := hv
  rfl
theorem size_i64 : (Try.prog.info? 2).map (·.size) = some 1 := by kernel_rfl

theorem ownI_T {w : World} {lo hi n : Nat} {v : Value} {f : Nat → Int} (h : OwnI w lo hi v n f) (hh : hi ≤ w.heap.size) (kf : ∀ i, -9223372036854775808 ≤ f i ∧ f i ≤ 9223372036854775807) : OwnT layInts w lo hi (n, f) [v] := by
  refine ⟨v.ownBlock.toList, ⟨v, rfl, rfl, h.weaken (Nat.zero_le _) hh, kf⟩, ?_, fun b hb => ?_⟩
  · cases v.ownBlock <;> simp
  · have hb' : v.ownBlock = some b := by simpa using hb
    exact ⟨(h.1.lt b hb').1, h.2 b hb'⟩
/-- a copy of each element by a function that is handed in -/
def ToF {α : Type} (A : Lay α) (sz : α → Nat) (fn g : Nat) : Prop := ∀ (v : Value) (d : α) (hi : Nat) (w : World), A.rd w hi d [v] → hi ≤ w.heap.size → sz d ≤ 1048576 →
  Calls Try.prog fn #[v, .func (.func g) #[] #[]] w fun e w' => ∃ v', e = .returned v' ∧ OwnT A w' w.heap.size w'.heap.size d [v'] ∧ Below w.heap.size w w'
set_option maxHeartbeats 1000000 in
theorem copyBytes_is : ToS layBytes lenD 18 := fun v d hi w h hhi hn => by
  obtain ⟨n, f⟩ := d
  obtain ⟨v', e1, r1, kf⟩ := h
  cases e1
  simp only at r1 kf
  skip
  have hn' : n ≤ 1048576 := hn
  clear hn
  have R1 := fun (w1 : World) (hb : Below w.heap.size w w1) => r1.below hb hhi
  obtain ⟨ao, cap, rfl, hm1, hc1⟩ := r1
  clear hc1
  have HS : Hid (splice (cellsOf n fun _ => 0) 0 (cellsOf n f) = cellsOf n f) := splice_cells n 0 n _ f f (by omega) (fun i hi => by simp [hi])
  have L1 : (cellsOf n f).length = Nat.min n n := by rw [cellsOf_length]; exact (Nat.min_self n).symm
  have L2 : 0 + (cellsOf n f).length ≤ (cellsOf n fun _ => 0).length := by simp [cellsOf_length]
  have HL1 : Hid ((cellsOf n f).length = Nat.min n n) := L1
  have HL2 : Hid (0 + (cellsOf n f).length ≤ (cellsOf n fun _ => 0).length) := L2
  clear L1 L2
  go_enter Try.func18, Try.ntmps18
  go_wp2_with (first | (at_make; refine wp_makeB _ rfl _ _ rfl _ _ n rfl rfl (by simp) (by simp) (by omega) ?_; intro w1 hown1 hb1 hz1) | (refine wpList_copy_splice rfl (.tmp 7) (.tmp 8) 22 22 rfl 5 Try.underlying22 size_u8 (some ⟨w.heap.size, 0, none⟩) ao n n n cap rfl rfl w.heap.size 0 (cellsOf n fun _ => 0) 5 hown1.full (cellsOf n f) HL1.out (fun hp => ⟨rfl, copy_src (R1 w1 hb1) hp⟩) HL2.out (cellsOf_one n f) w.heap.size w hb1 (Nat.le_refl _) ?_; intro w2 hF2 hb2))
  go_ret
  have F2 := hF2.out
  rw [HS.out] at F2
  exact ⟨_, rfl, ownB_T (own_of_full F2 (Nat.le_refl _) (by unfold maxLen; omega)) (Nat.le_refl _) kf, hb2⟩
end Go.Proofs.Ytopaofcpjiicmaa

namespace Go.Proofs.Ytopaofcpjiicmaa
open Go.RowKit F256
set_option linter.unusedVariables false
theorem run_append_none' {P : Program} (w : World) (base : Nat) (t ty e : TypeId) (i : TypeInfo) (size : Nat) (ht : P.underlying t = some (.slice e)) (hi : P.info? e = some i) (v : Value) (n c : Nat) (xs : List Value) (hown : w.ownsRow base e size v n xs) :
    (Builtin.append_ #[t, t] ty #[v, .slice none 0 c]).run P w = .ok v w := by
  rcases hown.2 with ⟨rfl, rfl⟩ | ⟨g, cap, cur, rfl, _, _, hnc, _⟩
  · simp [Builtin.append_, run_underlying ht, sizeOf, typeInfo, hi, Builtin.lenOf, Builtin.firstCells]
  · simp [Builtin.append_, run_underlying ht, sizeOf, typeInfo, hi, Builtin.lenOf, Builtin.firstCells, hnc, storeCells]
theorem lit_row (w : World) (e : TypeId) : (w.alloc (.cells #[] e)).ownsRow w.heap.size e 1 (.slice (some ⟨w.heap.size, 0, none⟩) 0 0) 0 [] := World.ownsRow_lit (base := w.heap.size) (e := e) (size := 1) w #[] 0 (Nat.le_refl _) (Nat.zero_le _) rfl
theorem run_appendR {T e : TypeId} {z : Value} {by_ : Nat} (hu : Try.prog.underlying T = some (.slice e)) (hi : (Try.prog.info? e).map (fun i => (i.zero, i.size, i.bytes)) = some (some z, 1, by_)) (hz : z.cells.size = 1) (hby : by_ ≤ 100) (ty : TypeId) (W : World) (p : Nat) (hown : W.ownsRow p e 1 (.slice (some ⟨p, 0, none⟩) 0 0) 0 [])
    (ao : Option Addr) (m cap : Nat) (cs : List Value) (hl : cs.length = m) (hsrc : 0 < cs.length → ∃ ad, ao = some ad ∧ ∀ j v, cs[j]? = some v → W.cell? (ad.add j) = some v) (h1 : ∀ v ∈ cs, v.oneCell' = true) (hm : m ≤ 10000000) :
    ∃ v' w', (Builtin.append_ #[T, T] ty #[.slice (some ⟨p, 0, none⟩) 0 0, .slice ao m cap]).run Try.prog W = .ok v' w' ∧ w'.ownsRow p e 1 v' m cs ∧ Below p W w' := by
  obtain ⟨i0, hi0, hz0, hz1, hz2⟩ := info_parts hi
  have hlo : p ≤ W.heap.size := Nat.le_of_lt (hown.lt p rfl).2
  have big : ∀ ad, ao = some ad → (∀ j v, cs[j]? = some v → W.cell? (ad.add j) = some v) → ∃ v' w', (Builtin.append_ #[T, T] ty #[.slice (some ⟨p, 0, none⟩) 0 0, .slice ao m cap]).run Try.prog W = .ok v' w' ∧ w'.ownsRow p e 1 v' m cs ∧ Below p W w' := fun ad ha hc => by
    subst ha
    have hb2 : (0 + m) * by_ ≤ 140737488355328 := by
      have : (0 + m) * by_ ≤ 10000000 * 100 := Nat.mul_le_mul (by omega) hby
      omega
    obtain ⟨v', w', hr, r1, r2, _⟩ := run_append_own_at (P := Try.prog) W p T ty e i0 z 1 by_ hu hi0 hz0 hz1 hz2 hz (by decide) _ 0 [] hown ad m cap cs (by omega) hc h1 (by unfold maxLen; omega) hb2 hlo
    refine ⟨v', w', hr, ?_, (Below.refl _ _).grown r2 hlo (fun k hk => (hown.lt k hk).1)⟩
    rw [Nat.zero_add, List.nil_append] at r1
    exact r1
  by_cases h0 : 0 < cs.length
  · obtain ⟨ad, ha, hc⟩ := hsrc h0
    exact big ad ha hc
  · have hcs : cs = [] := List.eq_nil_of_length_eq_zero (by omega)
    subst hcs
    cases ao with
    | some ad => exact big ad rfl (fun j v hj => by simp at hj)
    | none =>
      have hm0 : m = 0 := by simpa using hl.symm
      subst hm0
      exact ⟨_, W, run_append_none' W p T ty e i0 1 hu hi0 _ 0 cap _ hown, hown, Below.refl _ _⟩
theorem one_i : (Value.int .i64 0).cells.size = 1 := rfl
theorem one_b : (Value.int .u8 0).cells.size = 1 := rfl
/-- append([]int64{}, x...) -/
theorem run_appendRI (ty : TypeId) (W : World) (p : Nat) (hown : W.ownsRow p 2 1 (.slice (some ⟨p, 0, none⟩) 0 0) 0 []) {hi m cap : Nat} {ao : Option Addr} {f : Nat → Int} (r : layInts.rd W hi (m, f) [.slice ao m cap]) (hm : m ≤ 10000000) :
    ∃ v' w', (Builtin.append_ #[55, 55] ty #[.slice (some ⟨p, 0, none⟩) 0 0, .slice ao m cap]).run Try.prog W = .ok v' w' ∧ OwnT layInts w' p w'.heap.size (m, f) [v'] ∧ Below p W w' := by
  obtain ⟨v, e, ⟨r1, _⟩, kf⟩ := r
  cases e
  obtain ⟨v', w', hr, h2, h3⟩ := run_appendR Try.underlying55 info_i64 one_i (by decide) ty W p hown ao m cap (intsOf m f) (intsOf_length m f) (fun hp => copy_srcI r1 hp) (intsOf_one m f) hm
  exact ⟨v', w', hr, ownI_T ⟨h2, fun k hk => (h2.lt k hk).2⟩ (Nat.le_refl _) kf, h3⟩
/-- append([]byte{}, x...) -/
theorem run_appendRB (ty : TypeId) (W : World) (p : Nat) (hown : W.ownsRow p 5 1 (.slice (some ⟨p, 0, none⟩) 0 0) 0 []) {hi m cap : Nat} {ao : Option Addr} {f : Nat → Nat} (r : layBytes.rd W hi (m, f) [.slice ao m cap]) (hm : m ≤ 10000000) :
    ∃ v' w', (Builtin.append_ #[22, 22] ty #[.slice (some ⟨p, 0, none⟩) 0 0, .slice ao m cap]).run Try.prog W = .ok v' w' ∧ OwnT layBytes w' p w'.heap.size (m, f) [v'] ∧ Below p W w' := by
  obtain ⟨v, e, r1, kf⟩ := r
  cases e
  obtain ⟨v', w', hr, h2, h3⟩ := run_appendR Try.underlying22 info_u8 one_b (by decide) ty W p hown ao m cap (cellsOf m f) (cellsOf_length m f) (fun hp => copy_src r1 hp) (cellsOf_one m f) hm
  exact ⟨v', w', hr, ownB_T ⟨h2, fun k hk => (h2.lt k hk).2⟩ (Nat.le_refl _) kf, h3⟩
theorem wp_run2 {ops : Array Oper} {rest : List Oper} {o : Oper} {a : Act} {W w' : World} {Q : Exit → Act → World → Prop} {T : TypeId} {v' x1 x2 : Value} (hg : o.guard = none) (s y : Operand) (hop : o.op = Op.call { callee := Callee.builtin Builtin.append, args := #[s, y], argTypes := #[T, T] })
    (h1 : a.eval s = x1) (h2 : a.eval y = x2) (hrun : (Builtin.append_ #[T, T] o.type #[x1, x2]).run Try.prog W = .ok v' w') (hK : wpList Try.prog ops Q rest (a.put o.dst v') w') : wpList Try.prog ops Q (o :: rest) a W := by
  refine wpList_plain hg fun K hK' => ?_
  unfold Oper.wp
  simp [execOp, hop, resolve, invoke, builtin, h1, h2, hrun, Result.andThen]
  exact hK' _ _ hK
theorem step_run2 {ops : Array Oper} {o : Oper} {a : Act} {W w' : World} {K : Act → World → Prop} {Q : Exit → Act → World → Prop} {F : Prop} {T : TypeId} {v' x1 x2 : Value} (hg : o.guard = none) (s y : Operand) (hop : o.op = Op.call { callee := Callee.builtin Builtin.append, args := #[s, y], argTypes := #[T, T] })
    (h1 : a.eval s = x1) (h2 : a.eval y = x2) (hrun : (Builtin.append_ #[T, T] o.type #[x1, x2]).run Try.prog W = .ok v' w') (hK : K (a.put o.dst v') w') : if Region.wanted o (yielded ops a.tmps) = true then Oper.wp Try.prog o a W K Q else F := by
  have hw : Region.wanted o (yielded ops a.tmps) = true := by simp [Region.wanted, hg]
  rw [if_pos hw]
  unfold Oper.wp
  simp [execOp, hop, resolve, invoke, builtin, h1, h2, hrun, Result.andThen]
  exact hK
end Go.Proofs.Ytopaofcpjiicmaa

namespace Go.Proofs.Ytopaofcpjiicmaa
open Go.RowKit F256
set_option linter.unusedVariables false
set_option linter.unusedSimpArgs false
def SameI (n m : Nat) (f g : Nat → Int) : Prop := n = m ∧ ∀ i, i < n → f i = g i
set_option maxHeartbeats 1000000 in
theorem equalB_any (v1 v2 : Value) (n m : Nat) (f g : Nat → Nat) (h1 h2 : Nat) (w : World) (r1 : Rd w h1 v1 n f) (r2 : Rd w h2 v2 m g) :
    Calls Try.prog 25 #[v1, v2] w (BoolP (SameP n m f g) w) := by
  obtain ⟨ao, cap, rfl, hm, hc⟩ := r1
  obtain ⟨ao2, cap2, rfl, hm2, hc2⟩ := r2
  unfold maxLen at hm hm2
  by_cases hnm : n = m
  · subst hnm
    go_enter Try.func25, Try.ntmps25
    go_wp2
    go_loopw [13] (fun i wr => ∃ k : Nat, k ≤ n ∧ i = .int .i64 k ∧ (∀ i, i < k → f i = g i) ∧ ∃ m, wr = w.drewN m) (fun i _ => n - (intOf i).toNat)
    case atStart => exact ⟨0, Nat.zero_le _, rfl, fun i hi => by omega, 0, rfl⟩
    case round =>
      obtain ⟨k, hk, rfl, hall, q, rfl⟩ := hrel
      have HALL : Hid (∀ i, i < k → f i = g i) := hall
      clear hall
      by_cases hlt : k < n
      · obtain ⟨b, off, rfl, hblt, hcell⟩ := hc (by omega)
        obtain ⟨b2, off2, rfl, hblt2, hcell2⟩ := hc2 (by omega)
        have hck : w.cell? ⟨b, off + k, none⟩ = some (.int .u8 (f k)) := hcell k hlt
        have hck2 : w.cell? ⟨b2, off2 + k, none⟩ = some (.int .u8 (g k)) := hcell2 k hlt
        obtain ⟨x, hx⟩ : ∃ x, x = f k := ⟨_, rfl⟩
        obtain ⟨y, hy⟩ : ∃ y, y = g k := ⟨_, rfl⟩
        have HX : Hid (x = f k) := hx
        have HY : Hid (y = g k) := hy
        rw [← hx] at hck
        rw [← hy] at hck2
        clear hc hc2 hcell hcell2 hx hy
        by_cases heq : x = y
        · subst heq
          go_wp2
          go_quiet (fail)
          go_wp2
          go_roundw
          case rel => exact ⟨k + 1, by omega, by go_num, fun i hi => by
                        by_cases c : i = k
                        · rw [c, ← HX.out, ← HY.out]
                        · exact HALL.out i (by omega), _, rfl⟩
          case measure => simp [intOf]; omega
        · have tn : ((x : Int) != (y : Int)) = true := by simp; omega
          go_wp2
          go_quiet (fail)
          go_wp2
          go_ret
          exact boolNo rfl (fun h => absurd (h.2 k hlt) (by rw [← HX.out, ← HY.out]; exact heq)) (below_drewN (below_drewN (Below.refl _ _) _) _)
      · have hkn : k = n := by omega
        subst hkn
        go_wp2
        go_ret
        exact boolYes rfl ⟨rfl, HALL.out⟩ (below_drewN (Below.refl _ _) _)
  · have tn : ((n : Int) != (m : Int)) = true := by simp; omega
    clear hc hc2
    go_enter Try.func25, Try.ntmps25
    go_wp2
    go_ret
    exact boolNo rfl (fun h => hnm h.1) (Below.refl _ _)

end Go.Proofs.Ytopaofcpjiicmaa

namespace Go.Proofs.Ytopaofcpjiicmaa
open Go.RowKit F256
set_option linter.unusedVariables false
set_option linter.unusedSimpArgs false
theorem toList_inj {a b : ByteArray} : a.toList = b.toList ↔ a = b := by
  constructor
  · intro h
    rw [ByteArray.toList_eq, ByteArray.toList_eq] at h
    cases a
    cases b
    congr
    exact Array.toList_inj.1 h
  · intro h; rw [h]
/-- all fields alike -/
structure SameR (a b : RecD) : Prop where
  kind : a.kind = b.kind
  seq : a.seq = b.seq
  name : a.name = b.name
  length : a.length = b.length
  group : a.group = b.group
  row : a.row = b.row
  rows : SameI a.rows.1 b.rows.1 a.rows.2 b.rows.2
  data : SameP a.data.1 b.data.1 a.data.2 b.data.2
  delta : SameP a.delta.1 b.delta.1 a.delta.2 b.delta.2
end Go.Proofs.Ytopaofcpjiicmaa

namespace Go.Proofs.Ytopaofcpjiicmaa
open Go.RowKit F256
set_option linter.unusedVariables false

/-- what is read lies in cells of its own -/
def RdOne {α : Type} (E : Lay α) : Prop := ∀ (w : World) (hi : Nat) (a : α) (cs : List Value), E.rd w hi a cs → ∀ u, u ∈ cs → u.oneCell' = true
theorem rdOne_plain {α : Type} (enc : α → Value) (ok : α → Prop) (one : ∀ a, (enc a).oneCell' = true) : RdOne (Lay.plain enc ok one) := fun w hi a cs h u hu => by
  obtain ⟨rfl, _⟩ := h
  simp at hu
  subst hu
  exact one a
theorem rdOne_two {α β : Type} {A : Lay α} {B : Lay β} (ha : RdOne A) (hb : RdOne B) : RdOne (A.two B) := fun w hi p cs h u hu => by
  obtain ⟨c, d, rfl, h1, h2⟩ := h
  rcases List.mem_append.1 hu with h | h
  · exact ha _ _ _ _ h1 u h
  · exact hb _ _ _ _ h2 u h
theorem rdOne_as {α β : Type} {A : Lay α} (ha : RdOne A) (f : β → α) : RdOne (A.as f) := fun w hi p cs h u hu => ha w hi (f p) cs h u hu
theorem rdOne_bytes : RdOne layBytes := fun w hi p cs h u hu => by
  obtain ⟨v, rfl, ⟨ao, cap, rfl, _⟩, _⟩ := h
  simp at hu
  subst hu
  rfl
theorem rdOne_ints : RdOne layInts := fun w hi p cs h u hu => by
  obtain ⟨v, rfl, ⟨⟨ao, cap, rfl, _⟩, _⟩, _⟩ := h
  simp at hu
  subst hu
  rfl
theorem rdOne_slice {α : Type} (E : Lay α) (t : TypeId) : RdOne (E.slice t) := fun w hi p cs h u hu => by
  obtain ⟨ao, cap, rfl, _⟩ := h
  simp at hu
  subst hu
  rfl
theorem rdOne_rec : RdOne layRec := rdOne_as (rdOne_two (rdOne_plain _ _ _) (rdOne_two (rdOne_plain _ _ _) (rdOne_two (rdOne_plain _ _ _) (rdOne_two (rdOne_plain _ _ _) (rdOne_two (rdOne_plain _ _ _) (rdOne_two (rdOne_plain _ _ _) (rdOne_two rdOne_ints (rdOne_two rdOne_bytes rdOne_bytes)))))))) _
def cat2 {β : Type} (x : Nat → β) (n : Nat) (y : Nat → β) : Nat → β := fun i => if i < n then x i else y (i - n)
theorem cat2_lt {β : Type} (x : Nat → β) {n i : Nat} (y : Nat → β) (h : i < n) : cat2 x n y i = x i := if_pos h
theorem cat2_ge {β : Type} (x : Nat → β) (n : Nat) (y : Nat → β) (i : Nat) : cat2 x n y (n + i) = y i := by
  unfold cat2
  rw [if_neg (by omega)]
  congr 1
  omega
theorem catN_cat2 {β : Type} (x : Nat → List β) (n : Nat) (y : Nat → List β) : ∀ m, catN (n + m) (cat2 x n y) = catN n x ++ catN m y
  | 0 => by rw [catN_zero, List.append_nil]; exact catN_congr (fun i hi => cat2_lt x y hi)
  | m + 1 => by rw [← Nat.add_assoc, catN_succ, catN_cat2 x n y m, catN_succ, cat2_ge, List.append_assoc]
/-- a row of its own, in a block from lo on: n elements that read as x below hi, ce their cells -/
structure View {α : Type} (E : Lay α) (t : TypeId) (w : World) (lo hi : Nat) (v : Value) (n : Nat) (x : Nat → α) (ce : Nat → List Value) : Prop where
  row : w.ownsRow lo t E.sz v n (catN n ce)
  each : ∀ i, i < n → E.rd w hi (x i) (ce i)
section
variable {α : Type} {E : Lay α} {t : TypeId} {w w' : World} {lo hi n : Nat} {v : Value} {x : Nat → α} {ce : Nat → List Value}
theorem View.nil (x : Nat → α) (ce : Nat → List Value) (w : World) (lo hi : Nat) : View E t w lo hi (.slice none 0 0) 0 x ce := ⟨World.ownsRow_nil w lo t E.sz, fun i hi => by omega⟩
theorem View.lit0 (x : Nat → α) (ce : Nat → List Value) (w : World) (hi : Nat) : View E t (w.alloc (.cells #[] t)) w.heap.size hi (.slice (some ⟨w.heap.size, 0, none⟩) 0 0) 0 x ce := by
  have h := World.ownsRow_lit (base := w.heap.size) (e := t) (size := E.sz) w #[] 0 (Nat.le_refl _) (Nat.zero_le _) (by simp)
  exact ⟨by simpa [catN_zero] using h, fun i hi => by omega⟩
theorem View.form (h : View E t w lo hi v n x ce) : ∃ ao cap, v = .slice ao n cap := by
  rcases h.row.2 with ⟨hv, hn⟩ | ⟨g, cap, cur, rfl, _⟩
  · exact ⟨none, 0, by rw [hv, hn]⟩
  · exact ⟨_, _, rfl⟩
theorem View.form0 (h : View E t w lo hi v n x ce) (h0 : n ≠ 0) : ∃ g cap, v = .slice (some ⟨g, 0, none⟩) n cap := by
  rcases h.row.2 with ⟨hv, hn⟩ | ⟨g, cap, cur, rfl, _⟩
  · exact absurd hn h0
  · exact ⟨_, _, rfl⟩
theorem View.len (h : View E t w lo hi v n x ce) : n ≤ maxLen := by
  rcases h.row.2 with ⟨hv, hn⟩ | ⟨g, cap, cur, rfl, hbg, hgg, hnc, hcm, rest⟩
  · omega
  · omega
theorem View.kept (h : View E t w lo hi v n x ce) (hk : ∀ b, v.ownBlock = some b → w'.heap[b]? = w.heap[b]?) (hb : Below hi w w') : View E t w' lo hi v n x ce := by
  refine ⟨⟨h.row.1, ?_⟩, fun i hi => E.rd_below (h.each i hi) hb (Nat.le_refl _)⟩
  rcases h.row.2 with hn | ⟨g, cap, cur, rfl, hbg, hgg, rest⟩
  · exact .inl hn
  · exact .inr ⟨g, cap, cur, rfl, hbg, (hk g (by simp [Value.ownBlock])).trans hgg, rest⟩
theorem View.below (h : View E t w lo hi v n x ce) (hb : Below w.heap.size w w') (hh : hi ≤ w.heap.size) : View E t w' lo hi v n x ce :=
  h.kept (fun b hv => hb.block b (h.row.lt b hv).2) (hb.mono hh)
theorem View.congr {y : Nat → α} (h : View E t w lo hi v n x ce) (hy : ∀ i, i < n → x i = y i) : View E t w lo hi v n y ce := ⟨h.row, fun i hi => by rw [← hy i hi]; exact h.each i hi⟩
theorem View.lens (h : View E t w lo hi v n x ce) : ∀ i, i < n → (ce i).length = E.sz := fun i hi => E.rd_len (h.each i hi)
theorem View.cell {g cap : Nat} (h : View E t w lo hi (.slice (some ⟨g, 0, none⟩) n cap) n x ce) {i j : Nat} (hi : i < n) (hj : j < E.sz) : w.cell? ⟨g, i * E.sz + j, none⟩ = (ce i)[j]? := by
  rw [h.row.cellAt _ (mul_lt hi hj), catN_get h.lens hi hj]
theorem View.rd (h : View E t w lo hi v n x ce) (hh : hi ≤ w.heap.size) : (E.slice t).rd w w.heap.size (n, x) [v] := by
  have hlt := fun b hb => (h.row.lt b hb).2
  obtain ⟨ao, cap, rfl⟩ := h.form
  refine ⟨ao, cap, rfl, h.len, fun h0 => ?_⟩
  obtain ⟨g, cap', e⟩ := h.form0 h0
  cases e
  refine ⟨g, 0, rfl, hlt g (by simp [Value.ownBlock]), fun i hi => ⟨ce i, E.rd_mono (h.each i hi) hh, fun j hj => ?_⟩⟩
  rw [Nat.zero_add]
  exact h.cell hi hj
theorem View.store1 {g cap : Nat} (h : View E t w lo hi (.slice (some ⟨g, 0, none⟩) n cap) n x ce) (h1 : E.sz = 1) (hlo : hi ≤ lo) {i : Nat} (hi' : i < n) {u : Value} {a : α} (ha : E.rd w hi a [u]) :
    View E t (w.setCell ⟨g, i, none⟩ u) lo hi (.slice (some ⟨g, 0, none⟩) n cap) n (upd x i a) (upd ce i [u]) ∧ Below lo w (w.setCell ⟨g, i, none⟩ u) := by
  have hg := h.row.lt g rfl
  have hb : Below lo w (w.setCell ⟨g, i, none⟩ u) := (Below.refl _ _).setCell hg.1 _
  refine ⟨⟨?_, fun m hm => ?_⟩, hb⟩
  · have := (h.row.stored (i * E.sz + 0) u).1
    rw [catN_set h.lens hi' (by omega)] at this
    rw [show i * E.sz + 0 = i by rw [h1]; omega] at this
    have hl := h.lens i hi'
    rw [h1] at hl
    obtain ⟨c, hc⟩ := List.length_eq_one_iff.1 hl
    rw [hc] at this
    exact this
  · by_cases c : m = i
    · subst c
      rw [upd_at, upd_at]
      exact E.rd_below ha hb hlo
    · rw [upd_ne x a c, upd_ne ce _ c]
      exact E.rd_below (h.each m hm) hb hlo
/-- the elements of a part of a row -/
def Src (E : Lay α) (w : World) (hi : Nat) (ao : Option Addr) (m : Nat) (y : Nat → α) (cy : Nat → List Value) : Prop :=
  (m ≠ 0 → ∃ b off, ao = some ⟨b, off, none⟩ ∧ ∀ j, j < m → ∀ k, k < E.sz → w.cell? ⟨b, off + (j * E.sz + k), none⟩ = (cy j)[k]?) ∧ ∀ j, j < m → E.rd w hi (y j) (cy j)
theorem src_one {b : Nat} {y : α} {cs : List Value} (hc : ∀ k, k < E.sz → w.cell? ⟨b, k, none⟩ = cs[k]?) (hy : E.rd w hi y cs) : Src E w hi (some ⟨b, 0, none⟩) 1 (fun _ => y) (fun _ => cs) :=
  ⟨fun _ => ⟨b, 0, rfl, fun j hj k hk => by
    obtain rfl : j = 0 := by omega
    rw [← hc k hk]
    congr 2
    omega⟩, fun _ _ => hy⟩
theorem add_oo (b o j : Nat) : (⟨b, o, none⟩ : Addr).add j = ⟨b, o + j, none⟩ := by unfold Addr.add; split <;> simp_all
end
/-- append(v, y...) onto a row of its own -/
theorem run_appendV {α : Type} {E : Lay α} {T e : TypeId} {by_ : Nat} {zs : List Value} (I : ElInfo E T e by_ zs) (R1 : RdOne E) (ty : TypeId) {W : World} {lo hi n : Nat} {v : Value} {x : Nat → α} {ce : Nat → List Value} (h : View E e W lo hi v n x ce)
    {ao : Option Addr} {m : Nat} (c : Nat) {y : Nat → α} {cy : Nat → List Value} (hs : Src E W hi ao m y cy) (hlo : lo ≤ W.heap.size) (hhi : hi ≤ lo) (hn : n + m ≤ 10000000) (hc0 : ao = none → c = 0 ∨ m = 0) :
    ∃ v' w', (Builtin.append_ #[T, T] ty #[v, .slice ao m c]).run Try.prog W = .ok v' w' ∧ View E e w' lo hi v' (n + m) (cat2 x n y) (cat2 ce n cy) ∧ W.grownBy w' v.ownBlock ∧ Below lo W w' := by
  obtain ⟨hz, hzs, hu, hinf, few⟩ := I
  obtain ⟨i0, hi0⟩ : ∃ i0, Try.prog.info? e = some i0 := by
    cases h : Try.prog.info? e with
    | none => rw [h] at hinf; cases hinf
    | some i0 => exact ⟨i0, rfl⟩
  rw [hi0] at hinf
  simp only [Option.map_some, Option.some.injEq, Prod.mk.injEq] at hinf
  obtain ⟨h1, h2, h3⟩ := hinf
  obtain ⟨z, hz0, hzc⟩ : ∃ z, i0.zero = some z ∧ z.cells = zs.toArray := by
    cases h : i0.zero with
    | none => rw [h] at h1; cases h1
    | some z => rw [h] at h1; exact ⟨z, rfl, by simpa using h1⟩
  obtain ⟨hcell, hrd⟩ := hs
  have hlen : (catN m cy).length = m * E.sz := catN_len (fun j hj => E.rd_len (hrd j hj))
  have big : ∀ ad, ao = some ad → (∀ j u, (catN m cy)[j]? = some u → W.cell? (ad.add j) = some u) → ∃ v' w', (Builtin.append_ #[T, T] ty #[v, .slice ao m c]).run Try.prog W = .ok v' w' ∧ View E e w' lo hi v' (n + m) (cat2 x n y) (cat2 ce n cy) ∧ W.grownBy w' v.ownBlock ∧ Below lo W w' := fun ad ha hc => by
    subst ha
    obtain ⟨v', w', hr, r1, r2, r3, r4⟩ := run_append_own_at (P := Try.prog) W lo T ty e i0 z E.sz by_ hu hi0 hz0 h2 h3 (by rw [hzc]; simpa using hzs) hz v n (catN n ce) h.row ad m c (catN m cy) hlen hc
      (fun u hu => by
        obtain ⟨i, hi, hm⟩ := mem_catN.1 hu
        exact R1 _ _ _ _ (hrd i hi) u hm) (by unfold maxLen; omega) (by
        have : (n + m) * by_ ≤ 10000000 * 1000 := Nat.mul_le_mul hn few
        omega) hlo
    have hb : Below lo W w' := (Below.refl _ _).grown r2 hlo (fun k hk => (h.row.lt k hk).1)
    refine ⟨v', w', hr, ⟨by rw [catN_cat2]; exact r1, fun i hi => ?_⟩, r2, hb⟩
    by_cases c1 : i < n
    · rw [cat2_lt x y c1, cat2_lt ce cy c1]
      exact E.rd_below (h.each i c1) hb hhi
    · obtain ⟨k, rfl⟩ : ∃ k, i = n + k := ⟨i - n, by omega⟩
      rw [cat2_ge, cat2_ge]
      exact E.rd_below (hrd k (by omega)) hb hhi
  by_cases hm : m = 0
  · subst hm
    cases ao with
    | some ad => exact big ad rfl (fun j u hj => by rw [catN_zero] at hj; simp at hj)
    | none =>
      refine ⟨v, W, run_append_none' W lo T ty e i0 E.sz hu hi0 v n c _ h.row, ⟨by rw [catN_cat2, catN_zero, List.append_nil]; exact h.row, fun i hi => ?_⟩, ⟨rfl, rfl, rfl, Nat.le_refl _, fun _ _ _ => rfl⟩, Below.refl _ _⟩
      have hi' : i < n := by omega
      rw [cat2_lt x y hi', cat2_lt ce cy hi']
      exact h.each i hi'
  · obtain ⟨b, off, rfl, hcc⟩ := hcell hm
    refine big _ rfl (fun j u hj => ?_)
    have hj' : j < m * E.sz := by rw [← hlen]; exact (List.getElem?_eq_some_iff.1 hj).1
    have e1 : j / E.sz < m := Nat.div_lt_of_lt_mul (by rw [Nat.mul_comm]; exact hj')
    have e2 : j % E.sz < E.sz := Nat.mod_lt _ hz
    have e3 : j / E.sz * E.sz + j % E.sz = j := by rw [Nat.mul_comm]; exact Nat.div_add_mod j E.sz
    rw [add_oo, ← e3, hcc _ e1 _ e2, ← catN_get (fun j hj => E.rd_len (hrd j hj)) e1 e2, e3]
    exact hj
end Go.Proofs.Ytopaofcpjiicmaa

namespace Go.Proofs.Ytopaofcpjiicmaa
open Go.RowKit F256
set_option linter.unusedVariables false

def spl (xs : List Value) : Nat → List Value → List Value
  | _, [] => xs
  | o, v :: r => spl (xs.set o v) (o + 1) r
theorem spl_get (cs : List Value) : ∀ (xs : List Value) (o j : Nat), o + cs.length ≤ xs.length → (spl xs o cs)[j]? = if o ≤ j ∧ j < o + cs.length then cs[j - o]? else xs[j]? := by
  induction cs with
  | nil => intro xs o j h; rw [if_neg (by simp)]; rfl
  | cons v r ih =>
    intro xs o j h
    simp only [List.length_cons] at h
    show (spl (xs.set o v) (o + 1) r)[j]? = _
    rw [ih (xs.set o v) (o + 1) j (by rw [List.length_set]; omega)]
    by_cases c1 : o = j
    · subst c1
      rw [if_neg (by omega), if_pos (by simp), List.getElem?_set]
      simp
      omega
    · by_cases c2 : o + 1 ≤ j ∧ j < o + 1 + r.length
      · rw [if_pos c2, if_pos (by simp; omega)]
        obtain ⟨i, rfl⟩ : ∃ i, j = o + 1 + i := ⟨j - (o + 1), by omega⟩
        rw [show o + 1 + i - (o + 1) = i by omega, show o + 1 + i - o = i + 1 by omega]
        simp
      · rw [if_neg c2, if_neg (by simp; omega), List.getElem?_set, if_neg c1]
theorem catN_upd {n s i : Nat} {ce : Nat → List Value} {cs : List Value} (hs : 0 < s) (hl : ∀ k, k < n → (ce k).length = s) (hc : cs.length = s) (hi : i < n) : spl (catN n ce) (i * s) cs = catN n (upd ce i cs) := by
  have hl' : ∀ k, k < n → (upd ce i cs k).length = s := fun k hk => by
    by_cases c : k = i
    · subst c; rw [upd_at]; exact hc
    · rw [upd_ne ce cs c]; exact hl k hk
  have hb : i * s + s ≤ n * s := by
    have := Nat.mul_le_mul_right s (show i + 1 ≤ n from hi)
    rw [Nat.succ_mul] at this
    exact this
  apply List.ext_getElem?
  intro j
  rw [spl_get _ _ _ _ (by rw [catN_len hl, hc]; exact hb)]
  by_cases hj : j < n * s
  · have e3 : j / s * s + j % s = j := by rw [Nat.mul_comm]; exact Nat.div_add_mod j s
    have e1 : j / s < n := Nat.div_lt_of_lt_mul (by rw [Nat.mul_comm]; exact hj)
    have e2 : j % s < s := Nat.mod_lt _ hs
    have g1 := catN_get hl e1 e2
    have g2 := catN_get hl' e1 e2
    rw [e3] at g1 g2
    rw [g1, g2]
    by_cases c : j / s = i
    · have h5 : i * s ≤ j ∧ j < i * s + cs.length := by rw [← c, hc]; omega
      rw [if_pos h5, c, upd_at]
      congr 1
      rw [← c]; omega
    · rw [upd_ne ce cs c, if_neg]
      rw [hc]
      intro hh
      apply c
      have := Nat.div_eq_of_lt_le (m := j) (n := s) (k := i) (by rw [Nat.mul_comm] at *; omega) (by rw [Nat.succ_mul]; omega)
      exact this
  · rw [if_neg (by rw [hc]; omega), List.getElem?_eq_none (l := catN n ce) (by rw [catN_len hl]; omega), List.getElem?_eq_none (l := catN n (upd ce i cs)) (by rw [catN_len hl']; omega)]
theorem row_setCells {lo : Nat} {t : TypeId} {s g cap n : Nat} (cs : List Value) : ∀ (w : World) (xs : List Value) (o : Nat), w.ownsRow lo t s (.slice (some ⟨g, 0, none⟩) n cap) n xs → (w.setCells g o cs).ownsRow lo t s (.slice (some ⟨g, 0, none⟩) n cap) n (spl xs o cs) := by
  induction cs with
  | nil => intro w xs o h; exact h
  | cons v r ih => intro w xs o h; exact ih _ _ _ (h.stored o v).1
theorem chgL_setCells (g : Nat) (cs : List Value) : ∀ (w : World) (o : Nat), ChgL [g] w (w.setCells g o cs) := by
  induction cs with
  | nil => intro w o; exact ChgL.refl _ _
  | cons v r ih => intro w o; exact (ChgL.store [g] w g o v (by simp)).trans (ih _ _)
section
variable {α : Type} {E : Lay α} {t : TypeId} {w : World} {lo hi n g cap : Nat} {x : Nat → α} {ce : Nat → List Value}
theorem View.drew {v : Value} (h : View E t w lo hi v n x ce) : View E t w.drew lo hi v n x ce := h.kept (fun _ _ => rfl) ⟨rfl, rfl, rfl, Nat.le_refl _, fun _ _ => rfl⟩
theorem View.congr2 {v : Value} {y : Nat → α} {cy : Nat → List Value} (h : View E t w lo hi v n x ce) (hy : ∀ i, i < n → x i = y i) (hc : ∀ i, i < n → ce i = cy i) : View E t w lo hi v n y cy := ⟨by rw [← catN_congr hc]; exact h.row, fun i hi => by rw [← hy i hi, ← hc i hi]; exact h.each i hi⟩
theorem View.chg {v : Value} {w' : World} {K : List Nat} (h : View E t w lo hi v n x ce) (hc : ChgL K w w') (hK : ∀ b, b ∈ K → hi ≤ b ∧ v.ownBlock ≠ some b) (hh : hi ≤ w.heap.size) : View E t w' lo hi v n x ce :=
  h.kept (fun b hv => hc.block b (h.row.lt b hv).2 (fun hm => (hK b hm).2 hv)) (hc.bel (fun b hb => (hK b hb).1) hh)
/-- an element's cells -/
theorem View.range (h : View E t w lo hi (.slice (some ⟨g, 0, none⟩) n cap) n x ce) {i : Nat} (hi' : i < n) : w.rangeAt g (i * E.sz) (ce i) := fun j v hv => by
  have hj : j < E.sz := by rw [← h.lens i hi']; exact (List.getElem?_eq_some_iff.1 hv).1
  rw [h.cell hi' hj]
  exact hv
theorem View.there (h : View E t w lo hi (.slice (some ⟨g, 0, none⟩) n cap) n x ce) {i : Nat} (hi' : i < n) : w.there g (i * E.sz) E.sz := fun j hj => by
  refine ⟨?_, h.row.frozenAt _⟩
  rw [h.cell hi' hj, List.getElem?_eq_getElem (by rw [h.lens i hi']; exact hj)]
  rfl
/-- an element laid anew -/
theorem View.put (h : View E t w lo hi (.slice (some ⟨g, 0, none⟩) n cap) n x ce) (hs : 0 < E.sz) (hlo : hi ≤ lo) {i : Nat} (hi' : i < n) {a : α} {cs : List Value} (ha : E.rd w hi a cs) :
    View E t (w.setCells g (i * E.sz) cs) lo hi (.slice (some ⟨g, 0, none⟩) n cap) n (upd x i a) (upd ce i cs) := by
  have hg := h.row.lt g rfl
  have hb : Below lo w (w.setCells g (i * E.sz) cs) := (chgL_setCells g cs w _).bel (fun b hb => by simp at hb; omega) (by omega)
  refine ⟨?_, fun m hm => ?_⟩
  · have := row_setCells cs w _ (i * E.sz) h.row
    rw [catN_upd hs h.lens (E.rd_len ha) hi'] at this
    exact this
  · by_cases c : m = i
    · subst c
      rw [upd_at, upd_at]
      exact E.rd_below ha hb hlo
    · rw [upd_ne x a c, upd_ne ce _ c]
      exact E.rd_below (h.each m hm) hb hlo
end
end Go.Proofs.Ytopaofcpjiicmaa

namespace Go.Proofs.Ytopaofcpjiicmaa
open Go.RowKit F256
set_option linter.unusedVariables false
theorem mark_T {α : Type} {A : Lay α} {c : α → Nat} {mk : Nat → α → α} {fn : Nat} (hm : MkV A c mk fn) {w : World} {lo hi : Nat} {d : α} {cs : List Value} (h : OwnT A w lo hi d cs) (j : Nat) (hj : j + c d ≤ 100000000) :
    Calls Try.prog fn #[.agg cs.toArray, .int .i64 j] w fun e w' => e = .returned (.int .i64 ((j + c d : Nat) : Int)) ∧ OwnT A w' lo hi (mk j d) cs ∧ Chg lo hi w w' := by
  obtain ⟨L, h1, h2, h3⟩ := h
  exact (hm cs d L j w h1 h2 hj).mono fun e w' ⟨he, ho, hc⟩ => ⟨he, ⟨L, ho, h2, h3⟩, hc.chg h3⟩
theorem Chg.bel {lo hi B : Nat} {w w' : World} (h : Chg lo hi w w') (hl : B ≤ lo) (hB : B ≤ w.heap.size) : Below B w w' := ⟨h.os, h.tape, h.output, h.size, fun k hk => h.block k (by omega) (.inl (by omega))⟩
theorem sumN_mono2 {f g : Nat → Nat} : ∀ {n : Nat}, (∀ i, i < n → f i ≤ g i) → sumN f n ≤ sumN g n
  | 0, _ => Nat.le_refl _
  | n + 1, h => by
    rw [sumN_succ, sumN_succ]
    exact Nat.add_le_add (sumN_mono2 (fun i hi => h i (by omega))) (h n (by omega))
theorem sumN_const (c : Nat) : ∀ n : Nat, sumN (fun _ => c) n = n * c
  | 0 => by simp [sumN]
  | n + 1 => by rw [sumN_succ, sumN_const c n, Nat.succ_mul]
theorem sumN_plus (f : Nat → Nat) (c k : Nat) : ∀ n : Nat, sumN (fun i => c + k * f i) n = n * c + k * sumN f n
  | 0 => by simp [sumN]
  | n + 1 => by rw [sumN_succ, sumN_plus f c k n, sumN_succ, Nat.succ_mul, Nat.mul_add]; omega
/-- marks of a slice: at most k times its measure -/
theorem cSl_le {α : Type} {c s : α → Nat} {k : Nat} (h : ∀ a, c a ≤ k + k * s a) (p : Nat × (Nat → α)) : cSl c p ≤ k * szSl s p := by
  unfold cSl szSl
  have h1 : sumN (fun i => c (p.2 i)) p.1 ≤ sumN (fun i => k + k * s (p.2 i)) p.1 := sumN_mono2 (fun i _ => h (p.2 i))
  rw [sumN_plus (fun i => s (p.2 i)) k k p.1] at h1
  rw [Nat.mul_add]
  have : p.1 * k = k * p.1 := Nat.mul_comm _ _
  omega
theorem cBlock_le (d : BlockD) : cBlockD d ≤ 6 + 6 * szBlockD d := by unfold cBlockD szBlockD; omega
theorem cDrive_le (d : DriveD) : cDriveD d ≤ 6 + 6 * szDriveD d := by
  have := cSl_le (k := 6) cBlock_le d.blocks
  unfold cDriveD szDriveD
  omega
theorem cRec_le (d : RecD) : cRecD d ≤ 6 + 6 * szRecD d := by unfold cRecD szRecD; omega
theorem cTape_le (d : TapeD) : cTapeD d ≤ 6 + 6 * szTapeD d := by
  have := cSl_le (k := 6) cRec_le d.recs
  unfold cTapeD szTapeD
  omega
theorem cvWorld_le (d : WorldD) : cvWorldD d ≤ 6 * szWorldD d := by
  have h1 := cSl_le (c := cSl cDriveD) (s := szSl szDriveD) (k := 6) (fun p => Nat.le_trans (cSl_le (k := 6) cDrive_le p) (by omega)) d.groups
  have h3 := cSl_le (k := 6) cTape_le d.tapes
  unfold cvWorldD szWorldD
  omega
theorem szFresh (R : Nat) : szDriveD (freshD R) = R + R * 4 := by
  show R + sumN (fun _ => 4) R = _
  rw [sumN_const]
theorem szNew (s : Nat → Int) (h : OkShape s) : szWorldD (newW s) ≤ 10000 := by
  obtain ⟨h1, h2, h3, _⟩ := h
  unfold Shp3 at h1
  unfold Shp at h2
  obtain ⟨G, hG⟩ : ∃ G, (s 0 + s 1).toNat = G := ⟨_, rfl⟩
  obtain ⟨D, hD⟩ : ∃ D, (s 2 + s 3).toNat = D := ⟨_, rfl⟩
  obtain ⟨R, hR⟩ : ∃ R, (s 4).toNat = R := ⟨_, rfl⟩
  have e1 : szSl szDriveD (D, fun _ => freshD R) = D + D * (R + R * 4) := by
    show D + sumN (fun _ => szDriveD (freshD R)) D = _
    rw [sumN_const, szFresh]
  have e2 : szWorldD (newW s) = (G + G * (D + D * (R + R * 4))) + 0 + (2 + 2 * 0) := by
    unfold szWorldD newW
    simp only [hG, hD, hR]
    have a : szSl (szSl szDriveD) (G, fun _ => (D, fun _ => freshD R)) = G + G * (D + D * (R + R * 4)) := by
      show G + sumN (fun _ => szSl szDriveD (D, fun _ => freshD R)) G = _
      rw [sumN_const, e1]
    have b : szSl szTapeD (2, fun _ => zeroT) = 2 + 2 * 0 := by
      show 2 + sumN (fun _ => szTapeD zeroT) 2 = _
      rw [sumN_const]
      rfl
    rw [a, b]
    rfl
  rw [e2]
  have k1 : D * (R + R * 4) ≤ 6 * 30 := Nat.mul_le_mul (by omega) (by omega)
  have k2 : G * (D + D * (R + R * 4)) ≤ 6 * 186 := Nat.mul_le_mul (by omega) (by omega)
  omega
theorem cvNew (s : Nat → Int) {d : WorldResultD} (h : NewAns s d) : cvWorldResultD d ≤ 90000 := by
  rcases h with ⟨_, rfl⟩ | ⟨h, rfl⟩
  · show cvWorldD zeroW ≤ _
    have : cvWorldD zeroW = 0 := rfl
    omega
  · show cvWorldD (newW s) ≤ _
    have := cvWorld_le (newW s)
    have := szNew s h
    omega
end Go.Proofs.Ytopaofcpjiicmaa

namespace Go.Proofs.Ytopaofcpjiicmaa
open Go.RowKit F256
set_option linter.unusedVariables false
theorem OwnT.one {α : Type} {A : Lay α} {w : World} {lo hi : Nat} {a : α} {cs : List Value} (h : OwnT A w lo hi a cs) : ∀ v, v ∈ cs → v.oneCell' = true := by
  obtain ⟨L, h1, _⟩ := h
  exact fun v hv => A.own_one h1 v hv
theorem wp_allocStore {ops : Array Oper} {rest : List Oper} {o1 o2 : Oper} {a : Act} {w : World} {Q : Exit → Act → World → Prop} (T : TypeId) (k : Nat) (x : Operand) (cs : List Value) (zs : Array Value) (n : Nat)
    (hop1 : o1.op = Op.alloc T) (hop2 : o2.op = Op.store T (.tmp k) x) (hg1 : o1.guard = none) (hg2 : o2.guard = none) (hd1 : o1.dst = some k) (hd2 : o2.dst = none)
    (hp : (a.put (some k) (.pointer (some ⟨w.heap.size, 0, none⟩))).eval (.tmp k) = .pointer (some ⟨w.heap.size, 0, none⟩)) (hx : (a.put (some k) (.pointer (some ⟨w.heap.size, 0, none⟩))).eval x = .agg cs.toArray)
    (hi : (Try.prog.info? T).map (fun i => (i.zero.map (·.cells), i.size)) = some (some zs, n)) (hz : zs.size = n) (hl : cs.length = n) (h1 : ∀ v, v ∈ cs → v.oneCell' = true)
    (h : wpList Try.prog ops Q rest (a.put (some k) (.pointer (some ⟨w.heap.size, 0, none⟩))) (w.alloc (.cells cs.toArray T))) : wpList Try.prog ops Q (o1 :: o2 :: rest) a w := by
  obtain ⟨i0, hi0⟩ : ∃ i0, Try.prog.info? T = some i0 := by
    cases h : Try.prog.info? T with
    | none => rw [h] at hi; cases hi
    | some i0 => exact ⟨i0, rfl⟩
  rw [hi0] at hi
  simp only [Option.map_some, Option.some.injEq, Prod.mk.injEq] at hi
  obtain ⟨h2, h3⟩ := hi
  obtain ⟨z, hzz, hzc⟩ : ∃ z, i0.zero = some z ∧ z.cells = zs := by
    cases h : i0.zero with
    | none => rw [h] at h2; cases h2
    | some z => rw [h] at h2; exact ⟨z, rfl, by simpa using h2⟩
  have hr : (Instr.alloc T true (.tuple #[])).run Try.prog w = .ok (.pointer (some ⟨w.heap.size, 0, none⟩)) (w.alloc (.cells zs T)) := by
    simp [Instr.alloc, zeroValue, typeInfo, hi0, hzz, hzc, newVar, newRow]
  have hw : (w.alloc (.cells zs T)).setRow w.heap.size cs.toArray = w.alloc (.cells cs.toArray T) := by
    have hh : ((w.alloc (.cells zs T)).setRow w.heap.size cs.toArray).heap = w.heap.push (.cells cs.toArray T) := by
      apply Array.ext_getElem?
      intro i
      by_cases c : i = w.heap.size
      · subst c
        rw [setRow_heap (w.alloc (.cells zs T)) w.heap.size zs cs.toArray T (0, 0) (box_new w zs T), Array.getElem?_push, if_pos rfl]
      · rw [setRow_other _ _ _ _ c, Array.getElem?_push, if_neg c]
        show (w.heap.push _)[i]? = _
        rw [Array.getElem?_push, if_neg c]
    show ({ w with heap := ((w.alloc (.cells zs T)).setRow w.heap.size cs.toArray).heap } : World) = _
    rw [hh]
    rfl
  refine wpList_plain hg1 fun K hK => ?_
  unfold Oper.wp execOp
  simp only [hop1, Sem.run_bind, hr, Result.andThen_ok]
  refine hK _ _ ?_
  rw [hd1]
  refine wpList_store_row hg2 T (.tmp k) x hop2 w.heap.size cs.toArray hp hx T zs (box_new w zs T) (by rw [hi0]; simp [h3, hl]) (by simp [hz, hl]) (by simp; exact h1) ?_
  rw [hw, hd2]
  exact h
/-- a whole struct loaded -/
theorem wp_loadBox {ops : Array Oper} {rest : List Oper} {o : Oper} {a : Act} {w : World} {Q : Exit → Act → World → Prop} (T : TypeId) (x : Operand) (ho : o.op = .load T x) (hgd : o.guard = none) (b : Nat) (hx : a.eval x = .pointer (some ⟨b, 0, none⟩)) {cs : List Value} (hB : Box w b cs.toArray T) {fs : Array Field} (hu : Try.prog.underlying T = some (.struct fs)) {n : Nat} (hi : (Try.prog.info? T).map (·.size) = some n) (hl : cs.length = n)
    (h : wpList Try.prog ops Q rest (a.put o.dst (.agg cs.toArray)) w) : wpList Try.prog ops Q (o :: rest) a w :=
  wpList_load_row hgd T x ho b hx T cs.toArray (0, 0) (.struct fs) hB hu rfl (by rw [hi]; simp [hl]) h
theorem OwnT.len {α : Type} {A : Lay α} {w : World} {lo hi : Nat} {a : α} {cs : List Value} (h : OwnT A w lo hi a cs) : cs.length = A.sz := by
  obtain ⟨L, h1, _⟩ := h
  exact A.own_len h1
end Go.Proofs.Ytopaofcpjiicmaa

namespace Go.Proofs.Ytopaofcpjiicmaa
open Go.RowKit F256
set_option linter.unusedVariables false
set_option linter.unusedSimpArgs false
theorem el_Thing : ElInfo layThing 24 29 48 [.string ByteArray.empty, .bool false, .slice none 0 0] := ⟨by decide, rfl, Try.underlying24, by kernel_rfl, by decide⟩
theorem size_Thing : (Try.prog.info? 29).map (·.size) = some 3 := by kernel_rfl
theorem info_ThingZ : (Try.prog.info? 29).map (fun i => (i.zero.map (·.cells), i.size)) = some (some #[.string ByteArray.empty, .bool false, .slice none 0 0], 3) := by kernel_rfl
theorem info_Thing3 {cs : List Value} (h : cs.length = 3) : (Try.prog.info? 29).map (·.size) = some cs.length := by rw [h]; kernel_rfl
theorem rdOne_thing : RdOne layThing := rdOne_as (rdOne_two (rdOne_plain _ _ _) (rdOne_two (rdOne_plain _ _ _) rdOne_bytes)) _
/-- all fields alike -/
structure SameT (a b : ThingD) : Prop where
  name : a.name = b.name
  lost : a.lost = b.lost
  bytes : SameP a.bytes.1 b.bytes.1 a.bytes.2 b.bytes.2
structure SameTs (p q : Nat × (Nat → ThingD)) : Prop where
  len : p.1 = q.1
  each : ∀ i, i < p.1 → SameT (p.2 i) (q.2 i)
set_option maxHeartbeats 8000000 in
set_option maxRecDepth 20000 in
theorem copyThing_is : ToV layThing szThingD 21 := fun cs d hi w r hhi hn => by
  obtain ⟨ao2, cap2, rfl, h2, k0⟩ := Thing_rd r
  clear r
  unfold szThingD at hn
  have R2 : Hid (layBytes.rd w hi d.bytes [.slice ao2 d.bytes.1 cap2]) := h2
  clear h2
  have Q0 : Hid (d.name.size ≤ maxLen) := k0
  clear k0
  have T0 := two_newb w #[.string d.name, .bool d.lost, .slice ao2 d.bytes.1 cap2] #[.string ByteArray.empty, .bool false, .slice none 0 0] 29 29
  go_enter Try.func21, Try.ntmps21
  go_wp2_with fail
  refine (copyBytes_is _ d.bytes hi _ (layBytes.rd_below R2.out T0.bel hhi) (Nat.le_trans hhi T0.bel.size) (by omega)).mono ?_
  rintro e w1 ⟨v0, rfl, o0, b0⟩
  obtain ⟨bo2, bcap2, hv⟩ := bytes_formT o0
  obtain rfl := one_eq hv
  clear hv
  have T0c := T0.call b0
  have z0 := T0.b2.lt
  have y0 := b0.size
  have c0_2 : w1.cell? ⟨w.heap.size, 2, none⟩ = some (.slice ao2 d.bytes.1 cap2) := T0c.b1.cell 2
  have c0f_2 : w1.frozen? ⟨w.heap.size, 2, none⟩ = false := T0c.b1.frozen 2
  have T1x : Two w (w1.setCell ⟨w.heap.size, 2, none⟩ (.slice bo2 d.bytes.1 bcap2)) #[.string d.name, .bool d.lost, .slice bo2 d.bytes.1 bcap2] #[.string ByteArray.empty, .bool false, .slice none 0 0] 29 29 := ⟨T0c.b1.stL [.slice bo2 d.bytes.1 bcap2] 2, T0c.b2.seto _ _ (by omega), T0c.bel.setCell (Nat.le_refl _) _⟩
  have O2_0 := (o0.stN w.heap.size 2 [.slice bo2 d.bytes.1 bcap2] (by omega))
  have e1 : (w1.setCell ⟨w.heap.size, 2, none⟩ (.slice bo2 d.bytes.1 bcap2)).heap.size = w1.heap.size := by simp
  clear o0 b0 
  go_upto_region 2 with fail
  obtain ⟨W1, hW1⟩ : ∃ x, x = w1.setCell ⟨w.heap.size, 2, none⟩ (.slice bo2 d.bytes.1 bcap2) := ⟨_, rfl⟩
  have O2 : Hid (OwnT layBytes W1 (w.heap.size + 1 + 1) (w1.heap.size) d.bytes [.slice bo2 d.bytes.1 bcap2]) := by rw [hW1]; exact OwnT.weaken O2_0 (by simp) (Nat.le_refl _)
  rw [← hW1] at T1x e1 ⊢
  clear hW1 O2_0 T0c c0_2 c0f_2
  have y_0 : W1.cell? ⟨w.heap.size, 0, none⟩ = some (.string d.name) := T1x.b1.cell 0
  have y_1 : W1.cell? ⟨w.heap.size, 1, none⟩ = some (.bool d.lost) := T1x.b1.cell 1
  have y_2 : W1.cell? ⟨w.heap.size, 2, none⟩ = some (.slice bo2 d.bytes.1 bcap2) := T1x.b1.cell 2
  have r_0 : W1.cell? ⟨w.heap.size + 1, 0, none⟩ = some (.string ByteArray.empty) := T1x.b2.cell 0
  have rf_0 : W1.frozen? ⟨w.heap.size + 1, 0, none⟩ = false := T1x.b2.frozen 0
  have r_1 : W1.cell? ⟨w.heap.size + 1, 1, none⟩ = some (.bool false) := T1x.b2.cell 1
  have rf_1 : W1.frozen? ⟨w.heap.size + 1, 1, none⟩ = false := T1x.b2.frozen 1
  have r_2 : W1.cell? ⟨w.heap.size + 1, 2, none⟩ = some (.slice none 0 0) := T1x.b2.cell 2
  have rf_2 : W1.frozen? ⟨w.heap.size + 1, 2, none⟩ = false := T1x.b2.frozen 2
  have HB : Hid (Below w.heap.size w W1) := T1x.bel
  have zz := T1x.b2.lt
  clear T1x
  go_wp2
  refine bodyPost_ret (v := .agg #[.string d.name, .bool d.lost, .slice bo2 d.bytes.1 bcap2]) (by simp [results, Try.results21, go_sem, r_0, y_0, r_1, y_1, r_2, y_2]) rfl ?_
  have F : OwnT layThing W1 (w.heap.size + 1 + 1) w1.heap.size d ([.string d.name] ++ ([.bool d.lost] ++ [.slice bo2 d.bytes.1 bcap2])) := OwnT.conv (OwnT.pre (A := layS) (a := d.name) (c := [.string d.name]) ⟨rfl, Q0.out, rfl⟩ (OwnT.pre (A := layB) (a := d.lost) (c := [.bool d.lost]) ⟨rfl, trivial, rfl⟩ O2.out))
  refine ⟨[.string d.name, .bool d.lost, .slice bo2 d.bytes.1 bcap2], rfl, ?_, ?_⟩
  · exact OwnT.finb (F.weaken (Nat.le_refl _) (by omega)) (b := w.heap.size + 1) (by omega) (by omega) 0 [.string d.name, .bool d.lost, .slice bo2 d.bytes.1 bcap2] _ rfl
  · exact HB.out.trans (stN_below (by omega) [.string d.name, .bool d.lost, .slice bo2 d.bytes.1 bcap2] 0)
set_option maxHeartbeats 8000000 in
set_option maxRecDepth 20000 in
theorem copyThingS_is : ToF (layThing.slice 29) (szSl szThingD) 20 21 := fun v d hi w h hhi hn => by
  obtain ⟨n, x⟩ := d
  obtain ⟨ao, cap, hv, hm, hc⟩ := h
  cases hv
  have hn1 := szSl_n hn
  have hn2 : ∀ i, i < n → szThingD (x i) ≤ 1048576 := fun i hi => szSl_at hn hi
  simp only at hn1 hm hc
  clear hn
  go_enter Try.func20, Try.ntmps20
  go_wp2_with (at_make; refine wp_makeT layThing [.string ByteArray.empty, .bool false, .slice none 0 0] _ 29 48 (el_Thing).hs rfl Try.underlying24 (el_Thing).hi x (fun _ => []) _ rfl _ _ rfl _ _ n rfl rfl rfl rfl (by omega) (by omega) ?_; intro w1 sp1 hb1)
  go_loopw [12] (fun i wr => ∃ k : Nat, k ≤ n ∧ i = .int .i64 k ∧ ∃ ce Ls, SlP layThing 29 wr w.heap.size w.heap.size n n k x ce Ls ∧ Below w.heap.size w wr) (fun i _ => n - (intOf i).toNat)
  case atStart => exact ⟨0, Nat.zero_le _, rfl, _, _, sp1, hb1⟩
  case round =>
    clear sp1 hb1
    obtain ⟨k, hk, rfl, ce, Ls, sp, hb⟩ := hrel
    by_cases hlt : k < n
    · obtain ⟨b, off, rfl, hblt, hel⟩ := hc (by omega)
      obtain ⟨ck, hrk, hcell⟩ := elem_rd (t := 0) hel hb hhi hblt hlt
      obtain ⟨ao2, cap2, rfl, -⟩ := Thing_rd hrk
      have c0 : wr.cell? ⟨b, off + k * 3, none⟩ = some (.string (x k).name) := hcell 0 (by decide)
      have c1 : wr.cell? ⟨b, off + k * 3 + 1, none⟩ = some (.bool (x k).lost) := hcell 1 (by decide)
      have c2 : wr.cell? ⟨b, off + k * 3 + 2, none⟩ = some (.slice ao2 (x k).bytes.1 cap2) := hcell 2 (by decide)
      clear hc hel hcell
      go_wp2_with fail
      refine (copyThing_is _ (x k) hi wr hrk (Nat.le_trans hhi hb.size) (hn2 k hlt)).mono ?_
      rintro e w2 ⟨cs', rfl, o2, hb2⟩
      obtain ⟨bao2, bcap2, rfl⟩ := Thing_cells o2
      obtain ⟨z0, s0⟩ := sp.some hb2 hlt (show 0 < layThing.sz by decide)
      have s0 : w2.cell? ⟨w.heap.size, k * 3, none⟩ = some z0 := s0
      have sf0 := (sp.below hb2).frozen (k * 3)
      obtain ⟨z1, s1⟩ := sp.some hb2 hlt (show 1 < layThing.sz by decide)
      have s1 : w2.cell? ⟨w.heap.size, k * 3 + 1, none⟩ = some z1 := s1
      have sf1 := (sp.below hb2).frozen (k * 3 + 1)
      obtain ⟨z2, s2⟩ := sp.some hb2 hlt (show 2 < layThing.sz by decide)
      have s2 : w2.cell? ⟨w.heap.size, k * 3 + 2, none⟩ = some z2 := s2
      have sf2 := (sp.below hb2).frozen (k * 3 + 2)
      have N := sp.next hb2 hlt o2 hb.size
      have N2 : Below w.heap.size w (stN w2 w.heap.size (k * layThing.sz) [.string (x k).name, .bool (x k).lost, .slice bao2 (x k).bytes.1 bcap2]) := (hb.trans (hb2.mono hb.size)).trans (stN_below (Nat.le_refl _) _ _)
      clear o2 hb2 sp hb
      go_wp2_with fail
      go_roundw
      case rel =>
        obtain ⟨ce', Ls', N⟩ := N
        exact ⟨k + 1, by omega, by go_num, ce', Ls', N, N2⟩
      case measure => simp [intOf]; omega
    · obtain rfl : k = n := by omega
      go_wp2
      go_ret
      exact ⟨_, rfl, sp.done (Nat.le_refl _), hb⟩
set_option maxHeartbeats 8000000 in
set_option maxRecDepth 20000 in
theorem l13Copy_is : ToV layThing szThingD 34 := fun cs d hi w r hhi hn => by
  obtain ⟨ao2, cap2, rfl, h2, k0⟩ := Thing_rd r
  clear r
  unfold szThingD lenD at hn
  have Q0 : Hid (d.name.size ≤ maxLen) := k0
  clear k0
  have T0 := two_newb w #[.string d.name, .bool d.lost, .slice ao2 d.bytes.1 cap2] #[.string ⟨#[]⟩, .bool false, .slice none 0 0] 29 29
  go_enter Try.func34, Try.ntmps34
  go_upto_region 1 with fail
  obtain ⟨W0, hW0⟩ : ∃ x, x = (w.alloc (.cells #[.string d.name, .bool d.lost, .slice ao2 d.bytes.1 cap2] 29)).alloc (.cells #[.string ⟨#[]⟩, .bool false, .slice none 0 0] 29) := ⟨_, rfl⟩
  have z0 : W0.heap.size = w.heap.size + 1 + 1 := by rw [hW0]; simp
  rw [← hW0] at T0 ⊢
  clear hW0
  have bA0 : Below W0.heap.size W0 (W0.alloc (.cells #[] 5)) := (Below.refl _ _).alloc (Nat.le_refl _) _
  have TA0 := T0.call bA0
  obtain ⟨v', w1, hrun, o0, b0⟩ := run_appendRB 22 (W0.alloc (.cells #[] 5)) W0.heap.size (lit_row W0 5) (layBytes.rd_below h2 TA0.bel hhi) (show d.bytes.1 ≤ 10000000 by omega)
  obtain ⟨bo2, bcap2, hv⟩ := bytes_formT o0
  obtain rfl := one_eq hv
  clear hv
  have zw0 : W0.heap.size + 1 ≤ w1.heap.size := Nat.le_trans (by simp) b0.size
  have TB0 : Two w w1 #[.string d.name, .bool d.lost, .slice ao2 d.bytes.1 cap2] #[.string ⟨#[]⟩, .bool false, .slice none 0 0] 29 29 := ⟨TA0.b1.below b0 (by omega), TA0.b2.below b0 (by omega), TA0.bel.trans (b0.mono (by omega))⟩
  have xa : (W0.alloc (.cells #[] 5)).cell? ⟨w.heap.size, 2, none⟩ = some (.slice ao2 d.bytes.1 cap2) := TA0.b1.cell 2
  have xb : w1.cell? ⟨w.heap.size, 2, none⟩ = some (.slice ao2 d.bytes.1 cap2) := TB0.b1.cell 2
  have xf : w1.frozen? ⟨w.heap.size, 2, none⟩ = false := TB0.b1.frozen 2
  have T1 : Two w (w1.setCell ⟨w.heap.size, 2, none⟩ (.slice bo2 d.bytes.1 bcap2)) #[.string d.name, .bool d.lost, .slice bo2 d.bytes.1 bcap2] #[.string ⟨#[]⟩, .bool false, .slice none 0 0] 29 29 := ⟨TB0.b1.stL [.slice bo2 d.bytes.1 bcap2] 2, TB0.b2.seto _ _ (by omega), TB0.bel.setCell (Nat.le_refl _) _⟩
  have O2x := o0.stN w.heap.size 2 [.slice bo2 d.bytes.1 bcap2] (by omega)
  have e0 : (w1.setCell ⟨w.heap.size, 2, none⟩ (.slice bo2 d.bytes.1 bcap2)).heap.size = w1.heap.size := by simp
  clear TA0 TB0 o0 b0 bA0 T0
  go_upto_region 2 with (at_builtin; refine wp_run2 rfl (.tmp 3) (.tmp 5) rfl ?_ ?_ hrun ?_; (simp [Act.eval]); (simp [Act.eval]))
  obtain ⟨W1, hW1⟩ : ∃ x, x = w1.setCell ⟨w.heap.size, 2, none⟩ (.slice bo2 d.bytes.1 bcap2) := ⟨_, rfl⟩
  have O2 : Hid (OwnT layBytes W1 W0.heap.size w1.heap.size d.bytes [.slice bo2 d.bytes.1 bcap2]) := by rw [hW1]; exact O2x
  rw [← hW1] at T1 e0 ⊢
  clear hW1 hrun xa xb xf O2x
  have y_0 : W1.cell? ⟨w.heap.size, 0, none⟩ = some (.string d.name) := T1.b1.cell 0
  have y_1 : W1.cell? ⟨w.heap.size, 1, none⟩ = some (.bool d.lost) := T1.b1.cell 1
  have y_2 : W1.cell? ⟨w.heap.size, 2, none⟩ = some (.slice bo2 d.bytes.1 bcap2) := T1.b1.cell 2
  have r_0 : W1.cell? ⟨w.heap.size + 1, 0, none⟩ = some (.string ⟨#[]⟩) := T1.b2.cell 0
  have rf_0 : W1.frozen? ⟨w.heap.size + 1, 0, none⟩ = false := T1.b2.frozen 0
  have r_1 : W1.cell? ⟨w.heap.size + 1, 1, none⟩ = some (.bool false) := T1.b2.cell 1
  have rf_1 : W1.frozen? ⟨w.heap.size + 1, 1, none⟩ = false := T1.b2.frozen 1
  have r_2 : W1.cell? ⟨w.heap.size + 1, 2, none⟩ = some (.slice none 0 0) := T1.b2.cell 2
  have rf_2 : W1.frozen? ⟨w.heap.size + 1, 2, none⟩ = false := T1.b2.frozen 2
  have HB : Hid (Below w.heap.size w W1) := T1.bel
  clear T1
  go_wp2
  refine bodyPost_ret (v := .agg #[.string d.name, .bool d.lost, .slice bo2 d.bytes.1 bcap2]) (by simp [results, Try.results34, go_sem, r_0, y_0, r_1, y_1, r_2, y_2]) rfl ?_
  have F : OwnT layThing W1 (w.heap.size + 1 + 1) W1.heap.size d ([.string d.name] ++ ([.bool d.lost] ++ [.slice bo2 d.bytes.1 bcap2])) := OwnT.conv (OwnT.pre (A := layS) (a := d.name) (c := [.string d.name]) ⟨rfl, Q0.out, rfl⟩ (OwnT.pre (A := layB) (a := d.lost) (c := [.bool d.lost]) ⟨rfl, trivial, rfl⟩ (O2.out.weaken (by omega) (by omega))))
  refine ⟨[.string d.name, .bool d.lost, .slice bo2 d.bytes.1 bcap2], rfl, ?_, ?_⟩
  · exact OwnT.finb F (b := w.heap.size + 1) (by omega) (by omega) 0 [.string d.name, .bool d.lost, .slice bo2 d.bytes.1 bcap2] _ rfl
  · exact HB.out.trans (stN_below (by omega) [.string d.name, .bool d.lost, .slice bo2 d.bytes.1 bcap2] 0)
end Go.Proofs.Ytopaofcpjiicmaa

namespace Go.Proofs.Ytopaofcpjiicmaa
open Go.RowKit F256
set_option linter.unusedVariables false
set_option linter.unusedSimpArgs false
theorem catN_nodup {n : Nat} {F : Nat → List Nat} (h1 : ∀ k, k < n → (F k).Nodup) (h2 : ∀ k j, k < n → j < n → k ≠ j → ∀ b, b ∈ F k → b ∉ F j) : (catN n F).Nodup := by
  induction n with
  | zero => simp [catN]
  | succ n ih =>
    rw [catN_succ]
    refine List.nodup_append.2 ⟨ih (fun k hk => h1 k (by omega)) (fun k j hk hj => h2 k j (by omega) (by omega)), h1 n (by omega), fun b hb c hc hh => ?_⟩
    subst hh
    obtain ⟨k, hk, hbk⟩ := mem_catN.1 hb
    exact h2 k n (by omega) (by omega) (by omega) b hbk hc
theorem catN_each {n : Nat} {F : Nat → List Nat} (h : (catN n F).Nodup) {k : Nat} (hk : k < n) : (F k).Nodup := by
  induction n with
  | zero => omega
  | succ n ih =>
    rw [catN_succ] at h
    obtain ⟨h1, h2, _⟩ := List.nodup_append.1 h
    by_cases c : k = n
    · subst c; exact h2
    · exact ih h1 (by omega)
/-- the places of those that are keptI, of the first n -/
def keptI (p : Nat → Bool) (n : Nat) : List Nat := (List.range n).filter p
theorem kept_succ (p : Nat → Bool) (n : Nat) : keptI p (n + 1) = keptI p n ++ (if p n then [n] else []) := by
  unfold keptI
  rw [List.range_succ, List.filter_append]
  cases h : p n <;> simp [h]
theorem kept_lt {p : Nat → Bool} {n i : Nat} (h : i ∈ keptI p n) : i < n := by
  unfold keptI at h
  exact List.mem_range.1 (List.mem_filter.1 h).1
theorem kept_le (p : Nat → Bool) (n : Nat) : (keptI p n).length ≤ n := by
  have := List.length_filter_le p (List.range n)
  unfold keptI
  simpa using this
theorem kept_nodup (p : Nat → Bool) (n : Nat) : (keptI p n).Nodup := List.Pairwise.filter _ List.nodup_range
def selF (p : Nat → Bool) (n : Nat) : Nat → Nat := fun m => (keptI p n).getD m 0
theorem selF_mem {p : Nat → Bool} {n m : Nat} (h : m < (keptI p n).length) : selF p n m ∈ keptI p n := by
  unfold selF
  rw [List.getD_eq_getElem?_getD, List.getElem?_eq_getElem h]
  exact List.getElem_mem h
theorem selF_lt {p : Nat → Bool} {n m : Nat} (h : m < (keptI p n).length) : selF p n m < n := kept_lt (selF_mem h)
theorem selF_inj {p : Nat → Bool} {n a b : Nat} (ha : a < (keptI p n).length) (hb : b < (keptI p n).length) (h : selF p n a = selF p n b) : a = b := by
  unfold selF at h
  rw [List.getD_eq_getElem?_getD, List.getD_eq_getElem?_getD, List.getElem?_eq_getElem ha, List.getElem?_eq_getElem hb] at h
  have hp := List.pairwise_iff_getElem.1 (kept_nodup p n)
  rcases Nat.lt_trichotomy a b with c | c | c
  · exact absurd h (hp a b ha hb c)
  · exact c
  · exact absurd h.symm (hp b a hb ha c)
/-- the first k of the keptI places do not hang on what comes behind -/
theorem selF_more {p : Nat → Bool} {n m : Nat} (h : m < (keptI p n).length) : selF p (n + 1) m = selF p n m := by
  unfold selF
  rw [kept_succ, List.getD_eq_getElem?_getD, List.getD_eq_getElem?_getD, List.getElem?_append_left h]
theorem selF_last {p : Nat → Bool} {n : Nat} (h : p n = true) : selF p (n + 1) (keptI p n).length = n := by
  unfold selF
  rw [kept_succ, List.getD_eq_getElem?_getD, List.getElem?_append_right (Nat.le_refl _), Nat.sub_self, if_pos h]
  rfl
theorem cat_sel {β : Type} {p : Nat → Bool} {n : Nat} {ce : Nat → List β} (h : p n = true) : catN (keptI p (n + 1)).length (fun i => ce (selF p (n + 1) i)) = catN (keptI p n).length (fun i => ce (selF p n i)) ++ ce n := by
  have e : (keptI p (n + 1)).length = (keptI p n).length + 1 := by rw [kept_succ, if_pos h]; simp
  rw [e, catN_succ, catN_congr (g := fun i => ce (selF p n i)) (fun i hi => by rw [selF_more hi])]
  rw [selF_last h]
theorem kept_skip {p : Nat → Bool} {n : Nat} (h : p n = false) : keptI p (n + 1) = keptI p n := by rw [kept_succ, if_neg (by simp [h])]; simp
section
variable {α : Type} {E : Lay α} {t : TypeId} {w w' : World} {g cap n : Nat} {x : Nat → α} {ce : Nat → List Value} {Ls : Nat → List Nat}
/-- of an owned slice some elements are keptI, in a row of its own or in the old one -/
theorem SlO.select (h : SlO E t w g cap n x ce Ls) (nd : (g :: catN n Ls).Nodup) {p : Nat → Bool} {v : Value} (hr : w'.ownsRow 0 t E.sz v (keptI p n).length (catN (keptI p n).length (fun i => ce (selF p n i)))) (hv : ∀ b, v.ownBlock = some b → b = g ∨ w.heap.size ≤ b) (hk : ∀ b, b ∈ catN n Ls → w'.heap[b]? = w.heap[b]?) :
    (E.slice t).own w' ((keptI p n).length, fun i => x (selF p n i)) [v] (v.ownBlock.toList ++ catN (keptI p n).length (fun i => Ls (selF p n i))) ∧ (v.ownBlock.toList ++ catN (keptI p n).length (fun i => Ls (selF p n i))).Nodup ∧ ∀ b, b ∈ v.ownBlock.toList ++ catN (keptI p n).length (fun i => Ls (selF p n i)) → b ∈ g :: catN n Ls ∨ (w.heap.size ≤ b ∧ b < w'.heap.size) := by
  obtain ⟨n1, n2⟩ := List.nodup_cons.1 nd
  have hin : ∀ b, b ∈ catN (keptI p n).length (fun i => Ls (selF p n i)) → b ∈ catN n Ls := fun b hb => by
    obtain ⟨i, hi, hb⟩ := mem_catN.1 hb
    exact mem_catN.2 ⟨selF p n i, selF_lt hi, hb⟩
  refine ⟨⟨v, fun i => ce (selF p n i), fun i => Ls (selF p n i), rfl, rfl, hr, fun i hi => ?_⟩, ?_, fun b hb => ?_⟩
  · exact E.own_kept (h.each _ (selF_lt hi)) (fun b hb => hk b (mem_catN.2 ⟨_, selF_lt hi, hb⟩))
  · refine List.nodup_append.2 ⟨by cases v.ownBlock <;> simp, catN_nodup (fun k hk' => catN_each n2 (selF_lt hk')) (fun k j hk' hj hne b hb => cat_apart n2 (selF_lt hj) (selF_lt hk') (fun e => hne (selF_inj hk' hj e)) hb), fun a ha b hb hab => ?_⟩
    subst hab
    have ha' : v.ownBlock = some a := by simpa using ha
    rcases hv a ha' with e | e
    · subst e; exact n1 (hin _ hb)
    · have := h.mem_lt a (List.mem_cons_of_mem _ (hin _ hb)); omega
  · rcases List.mem_append.1 hb with hb | hb
    · have hb' : v.ownBlock = some b := by simpa using hb
      rcases hv b hb' with e | e
      · exact .inl (by rw [e]; exact List.mem_cons_self ..)
      · exact .inr ⟨e, (hr.lt b hb').2⟩
    · exact .inl (List.mem_cons_of_mem _ (hin b hb))
end
/-- the kept ones ahead, the others as they were -/
def mixF {β : Type} (p : Nat → Bool) (j : Nat) (f : Nat → β) : Nat → β := fun m => if m < (keptI p j).length then f (selF p j m) else f m
theorem mix_at {β : Type} {p : Nat → Bool} {j m : Nat} (f : Nat → β) (h : (keptI p j).length ≤ m) : mixF p j f m = f m := by unfold mixF; rw [if_neg (by omega)]
theorem mix_skip {β : Type} {p : Nat → Bool} {j : Nat} (f : Nat → β) (h : p j = false) (m : Nat) : mixF p (j + 1) f m = mixF p j f m := by
  unfold mixF
  rw [kept_skip h]
  by_cases c : m < (keptI p j).length
  · rw [if_pos c, if_pos c, selF_more c]
  · rw [if_neg c, if_neg c]
theorem mix_keep {β : Type} {p : Nat → Bool} {j : Nat} (f : Nat → β) (h : p j = true) (m : Nat) : upd (mixF p j f) (keptI p j).length (f j) m = mixF p (j + 1) f m := by
  have e : (keptI p (j + 1)).length = (keptI p j).length + 1 := by rw [kept_succ, if_pos h]; simp
  unfold mixF
  by_cases c : m = (keptI p j).length
  · subst c
    rw [upd_at, if_pos (by omega), selF_last h]
  · rw [upd_ne _ _ c]
    by_cases c2 : m < (keptI p j).length
    · rw [if_pos c2, if_pos (by omega), selF_more c2]
    · rw [if_neg c2, if_neg (by omega)]
theorem kept_all {p : Nat → Bool} {n : Nat} (h : ∀ i, i < n → p i = true) : keptI p n = List.range n := by
  unfold keptI
  exact List.filter_eq_self.2 (fun i hi => h i (List.mem_range.1 hi))
theorem sel_all {p : Nat → Bool} {n m : Nat} (h : ∀ i, i < n → p i = true) (hm : m < n) : selF p n m = m := by
  unfold selF
  rw [kept_all h, List.getD_eq_getElem?_getD, List.getElem?_range hm]
  rfl
theorem mix_all {β : Type} {p : Nat → Bool} {j : Nat} (f : Nat → β) (h : ∀ i, i < j → p i = true) (m : Nat) : mixF p j f m = f m := by
  unfold mixF
  by_cases c : m < (keptI p j).length
  · rw [if_pos c, sel_all h (by rw [kept_all h] at c; simpa using c)]
  · rw [if_neg c]
theorem kept_less {p : Nat → Bool} {n i : Nat} (hi : i < n) (h : p i = false) : (keptI p n).length < n := by
  induction n with
  | zero => omega
  | succ n ih =>
    by_cases c : i = n
    · subst c
      rw [kept_skip h]
      have := kept_le p i
      omega
    · have := ih (by omega)
      have h2 : (keptI p (n + 1)).length ≤ (keptI p n).length + 1 := by rw [kept_succ]; split <;> simp
      omega
theorem row_short {w : World} {g cap n m s : Nat} {t : TypeId} {xs ys : List Value} (h : w.ownsRow 0 t s (.slice (some ⟨g, 0, none⟩) n cap) n xs) (hm : m ≤ n) (hy : xs.take (m * s) = ys) : w.ownsRow 0 t s (.slice (some ⟨g, 0, none⟩) m cap) m ys := by
  have hl := h.1
  have hms : m * s ≤ n * s := Nat.mul_le_mul_right s hm
  refine ⟨by rw [← hy, List.length_take, hl]; omega, ?_⟩
  rcases h.2 with ⟨hn, _⟩ | ⟨g', cap', cur, he, hbg, hgg, hnc, hcm, hcs, htk⟩
  · cases hn
  · cases he
    refine .inr ⟨g, cap, cur, rfl, hbg, hgg, by omega, hcm, hcs, ?_⟩
    rw [← hy, ← htk, List.take_take, Nat.min_eq_left hms]
theorem catN_take {n m s : Nat} {ce : Nat → List Value} (h : ∀ i, i < n → (ce i).length = s) (hm : m ≤ n) : (catN n ce).take (m * s) = catN m ce := by
  induction n with
  | zero => obtain rfl : m = 0 := by omega
            simp [catN]
  | succ n ih =>
    by_cases c : m = n + 1
    · subst c
      exact List.take_of_length_le (by rw [catN_len h]; exact Nat.le_refl _)
    · have hl : (catN n ce).length = n * s := catN_len (fun i hi => h i (by omega))
      have hms : m * s ≤ n * s := Nat.mul_le_mul_right s (by omega)
      rw [catN_succ, List.take_append_of_le_length (by omega)]
      exact ih (fun i hi => h i (by omega)) (by omega)
theorem row_base {w : World} {lo m s : Nat} {t : TypeId} {v : Value} {xs : List Value} (h : w.ownsRow lo t s v m xs) : w.ownsRow 0 t s v m xs := by
  refine ⟨h.1, ?_⟩
  rcases h.2 with hn | ⟨g, cap, cur, e, _, rest⟩
  · exact .inl hn
  · exact .inr ⟨g, cap, cur, e, Nat.zero_le _, rest⟩
theorem sum_sel (c : Nat → Nat) (p : Nat → Bool) : ∀ n : Nat, sumN (fun i => c (selF p n i)) (keptI p n).length ≤ sumN c n
  | 0 => by simp [keptI, sumN]
  | n + 1 => by
    have ih := sum_sel c p n
    rw [sumN_succ]
    cases h : p n with
    | true =>
      have e : (keptI p (n + 1)).length = (keptI p n).length + 1 := by rw [kept_succ, if_pos h]; simp
      rw [e, sumN_succ, selF_last h]
      have h2 : sumN (fun i => c (selF p (n + 1) i)) (keptI p n).length ≤ sumN (fun i => c (selF p n i)) (keptI p n).length := sumN_mono2 (fun i hi => by rw [selF_more hi]; exact Nat.le_refl _)
      omega
    | false =>
      rw [kept_skip h]
      have h2 : sumN (fun i => c (selF p (n + 1) i)) (keptI p n).length ≤ sumN (fun i => c (selF p n i)) (keptI p n).length := sumN_mono2 (fun i hi => by rw [selF_more hi]; exact Nat.le_refl _)
      omega
theorem chgL_setRow {w : World} (b : Nat) (cs : Array Value) : ChgL [b] w (w.setRow b cs) :=
  ⟨rfl, rfl, rfl, by simp, fun k _ hn => setRow_other w b k cs (fun h => hn (by simp [h]))⟩
end Go.Proofs.Ytopaofcpjiicmaa

namespace Go.Proofs.Ytopaofcpjiicmaa
open Go.RowKit F256
set_option linter.unusedVariables false
set_option linter.unusedSimpArgs false
/-- n cells, whatever they hold -/
def layRaw (n : Nat) : Lay (List Value) where
  sz := n
  rd := fun _ _ a cs => cs = a ∧ a.length = n ∧ ∀ v, v ∈ a → v.oneCell' = true
  own := fun _ a cs L => cs = a ∧ a.length = n ∧ (∀ v, v ∈ a → v.oneCell' = true) ∧ L = []
  rd_len := fun h => by rw [h.1]; exact h.2.1
  rd_below := fun h _ _ => h
  rd_mono := fun h _ => h
  own_len := fun h => by rw [h.1]; exact h.2.1
  own_kept := fun h _ => h
  own_lt := fun h b hb => by rw [h.2.2.2] at hb; cases hb
  own_rd := fun h _ => ⟨h.1, h.2.1, h.2.2.1⟩
  own_one := fun h u hu => by rw [h.1] at hu; exact h.2.2.1 u hu
theorem rdOne_raw3 : RdOne (layRaw 3) := fun w hi a cs h u hu => by
  obtain ⟨rfl, _, h3⟩ := h
  exact h3 u hu
/-- an owned row, seen as raw cells -/
theorem SlO.raw {α : Type} {E : Lay α} {t : TypeId} {w : World} {g cap n m : Nat} {x : Nat → α} {ce : Nat → List Value} {Ls : Nat → List Nat} (h : SlO E t w g cap n x ce Ls) (hm : E.sz = m) : View (layRaw m) t w 0 0 (.slice (some ⟨g, 0, none⟩) n cap) n ce ce :=
  ⟨by rw [← hm] at *; exact h.row, fun i hi => ⟨rfl, by rw [← hm]; exact E.own_len (h.each i hi), fun v hv => E.own_one (h.each i hi) v hv⟩⟩
theorem zero_RecT (w : World) : (zeroValue 29).run Try.prog w = .ok (.agg #[.string ByteArray.empty, .bool false, .slice none 0 0]) w := by kernel_rfl
theorem zeros_oneT (n : Nat) : ∀ v, v ∈ (Builtin.zeroCells #[.string ByteArray.empty, .bool false, .slice none 0 0] n).toList → v.oneCell' = true := fun v hv => by
  simp only [Builtin.zeroCells, Array.toList_map, List.mem_map] at hv
  obtain ⟨i, _, rfl⟩ := hv
  have hi : i % 3 < 3 := Nat.mod_lt _ (by decide)
  show (#[.string ByteArray.empty, .bool false, .slice none 0 0] : Array Value)[i % 3]!.oneCell' = true
  generalize i % 3 = j at hi
  match j, hi with
  | 0, _ => rfl
  | 1, _ => rfl
  | 2, _ => rfl
/-- clear over records: the row's head is as it was -/
theorem run_clearZT (z : Value) (zs : Array Value) (hv : ∀ w, (zeroValue 29).run Try.prog w = .ok z w) (hz : z.cells = zs) (h9 : zs.size = 3) (hone : ∀ n v, v ∈ (Builtin.zeroCells zs n).toList → v.oneCell' = true) (w : World) (ty g o n c : Nat) (cur : Array Value) (hg : w.heap[g]? = some (.cells cur 29 (0, 0))) (hn : 0 < n) (hl : o + n * 3 ≤ cur.size) : ∃ row : Array Value, (Builtin.clear_ #[24] ty #[.slice (some ⟨g, o, none⟩) n c]).run Try.prog w = .ok (.tuple #[]) (w.setRow g row) ∧ row.size = cur.size ∧ row.toList.take o = cur.toList.take o := by
  obtain ⟨Z, hZ⟩ : ∃ Z, Z = (Builtin.zeroCells zs n).toList := ⟨_, rfl⟩
  have hlen : Z.length = n * 3 := by rw [hZ]; simp [Builtin.zeroCells, h9]
  have hst := run_storeCells_at (P := Try.prog) g o 29 Z 0 cur w hg (by rw [hlen]; omega) (by rw [hZ]; exact hone n)
  simp only [Nat.add_zero] at hst
  refine ⟨(cur.toList.take o ++ Z ++ cur.toList.drop (o + Z.length)).toArray, ?_, ?_, ?_⟩
  · obtain ⟨m, rfl⟩ : ∃ m, n = m + 1 := ⟨n - 1, by omega⟩
    simp [Builtin.clear_, run_underlying Try.underlying24, hv, hz, ← hZ, hst]
  · simp only [List.size_toArray, List.length_append, List.length_take, List.length_drop, hlen, Array.length_toList]
    omega
  · simp only [List.toList_toArray]
    rw [List.append_assoc, List.take_append_of_le_length (by simp; omega), List.take_take, Nat.min_self]
theorem run_clearRT (w : World) (ty g o n c : Nat) (cur : Array Value) (hg : w.heap[g]? = some (.cells cur 29 (0, 0))) (hn : 0 < n) (hl : o + n * 3 ≤ cur.size) : ∃ row : Array Value, (Builtin.clear_ #[24] ty #[.slice (some ⟨g, o, none⟩) n c]).run Try.prog w = .ok (.tuple #[]) (w.setRow g row) ∧ row.size = cur.size ∧ row.toList.take o = cur.toList.take o :=
  run_clearZT (.agg #[.string ByteArray.empty, .bool false, .slice none 0 0]) #[.string ByteArray.empty, .bool false, .slice none 0 0] zero_RecT rfl rfl zeros_oneT w ty g o n c cur hg hn hl
theorem run_rsFromT (g n cap i : Nat) (hi : i < n) (hn : n ≤ cap) (w : World) : (Instr.slice 24 (.slice (some ⟨g, 0, none⟩) n cap) (some (.int .i64 (i : Int))) none none).run Try.prog w = .ok (.slice (some ⟨g, i * 3, none⟩) (n - i) (cap - i)) w := by
  have e1 : (i : Int) ≤ (n : Int) := by omega
  have e6 : i ≤ n := by omega
  have e7 : ¬ cap = i := by omega
  simp [Instr.slice, run_underlying Try.underlying24, Instr.sliceBounds, Instr.sliceBound, asIntOf, go_sem, e1, e6, e7]
theorem run_rsToT (g n cap i : Nat) (hi : i ≤ cap) (w : World) : (Instr.slice 24 (.slice (some ⟨g, 0, none⟩) n cap) none (some (.int .i64 (i : Int))) none).run Try.prog w = .ok (.slice (some ⟨g, 0, none⟩) i cap) w := by
  have e1 : (i : Int) ≤ (cap : Int) := by omega
  simp [Instr.slice, run_underlying Try.underlying24, Instr.sliceBounds, Instr.sliceBound, asIntOf, go_sem, e1, hi]
set_option maxHeartbeats 8000000 in
set_option maxRecDepth 20000 in
theorem deleteNoneT (ao : Option Addr) (cap : Nat) (fv : Value) (w : World) :
    Calls Try.prog 19 #[.slice ao 0 cap, fv] w fun e w' => e = .returned (.slice ao 0 cap) ∧ w' = w := by
  have CI : Calls Try.prog 15 #[.slice ao 0 cap, fv] w fun e w' => e = .returned (.int .i64 (-1)) ∧ w' = w := by
    go_enter Try.func15, Try.ntmps15
    go_wp2
    go_loop [8] (fun z => z = .int .i64 0) (fun _ => 0)
    case atStart => rfl
    case round =>
      subst hrel
      go_wp2
      go_ret
      exact ⟨rfl, rfl⟩
  have te : ((-1 : Int) == -1) = true := by decide
  go_enter Try.func19, Try.ntmps19
  go_wp2_with fail
  refine CI.mono ?_
  rintro e w1 ⟨rfl, e1⟩
  obtain rfl := e1.symm
  go_wp2
  go_ret
  exact ⟨rfl, rfl⟩
set_option maxHeartbeats 16000000 in
set_option maxRecDepth 100000 in
theorem index_drop (g cap n lo hi : Nat) (x : Nat → List Value) (ce : Nat → List Value) (a0 : Nat) (del : Nat → Bool) (w : World) (hV : View (layRaw 3) 29 w lo hi (.slice (some ⟨g, 0, none⟩) n cap) n x ce) (hhi : hi ≤ w.heap.size) (hn : n ≤ 1048576) (CD : ∀ k, k < n → ∀ w', ChgL [g] w w' → Calls Try.prog 22 #[.agg (ce k).toArray, .pointer (some ⟨a0, 0, none⟩)] w' (fun e w'' => e = .returned (.bool (del k)) ∧ Below w'.heap.size w' w'')) :
    Calls Try.prog 15 #[.slice (some ⟨g, 0, none⟩) n cap, .func (.func 22) #[] #[.pointer (some ⟨a0, 0, none⟩)]] w fun e w' => ((e = .returned (.int .i64 (-1)) ∧ ∀ i, i < n → del i = false) ∨ ∃ i : Nat, i < n ∧ e = .returned (.int .i64 (i : Int)) ∧ del i = true ∧ ∀ t, t < i → del t = false) ∧ Below w.heap.size w w' := by
  have HV : Hid (View (layRaw 3) 29 w lo hi (.slice (some ⟨g, 0, none⟩) n cap) n x ce) := hV
  have HCD : Hid (∀ k, k < n → ∀ w', ChgL [g] w w' → Calls Try.prog 22 #[.agg (ce k).toArray, .pointer (some ⟨a0, 0, none⟩)] w' (fun e w'' => e = .returned (.bool (del k)) ∧ Below w'.heap.size w' w'')) := CD
  clear hV CD
  go_enter Try.func15, Try.ntmps15
  go_wp2
  go_loopw [8] (fun z wr => ∃ k : Nat, k ≤ n ∧ z = .int .i64 k ∧ (∀ t, t < k → del t = false) ∧ Below w.heap.size w wr) (fun z _ => n - (intOf z).toNat)
  case atStart => exact ⟨0, Nat.zero_le _, rfl, fun t ht => by omega, Below.refl _ _⟩
  case round =>
    obtain ⟨k, hk, rfl, hall, hbl⟩ := hrel
    obtain ⟨wx, rfl⟩ : ∃ y, y = wr := ⟨_, rfl⟩
    have HALL : Hid (∀ t, t < k → del t = false) := hall
    have HBL : Hid (Below w.heap.size w wx) := hbl
    have zx := hbl.size
    clear hall
    by_cases hlt : k < n
    · have VX := HV.out.below hbl hhi
      have rgK : wx.rangeAt g (k * 3) (ce k) := VX.range hlt
      have hcK : (ce k).length = 3 := VX.lens k hlt
      have CS := HCD.out k hlt wx (ChgL.of_below hbl)
      obtain ⟨cK, hcKe⟩ : ∃ c, c = ce k := ⟨_, rfl⟩
      rw [← hcKe] at rgK hcK CS
      obtain ⟨t, ht⟩ : ∃ t, t = del k := ⟨_, rfl⟩
      rw [← ht] at CS
      have HT : Hid (t = del k) := ht
      have i1 : (0 : Int) ≤ (k : Int) := by omega
      have i2 : (k : Int) < (n : Int) := by omega
      clear hbl hcKe VX ht
      go_wp2_with (refine wpList_load_mid rfl 29 (.tmp 14) rfl g (k * 3) (by simp [Act.eval]) cK _ rgK Try.underlying29 rfl (info_Thing3 hcK) ?_)
      refine CS.mono ?_
      rintro e w5 ⟨rfl, b5⟩
      have B5 : Hid (Below w.heap.size w w5) := HBL.out.trans (b5.mono zx)
      clear b5 CS rgK
      cases t with
      | true =>
        go_wp2
        go_ret
        exact ⟨.inr ⟨k, hlt, rfl, HT.out.symm, HALL.out⟩, B5.out⟩
      | false =>
        go_wp2
        go_roundw
        case rel => exact ⟨k + 1, by omega, by go_num, fun t ht => by
                      by_cases c : t = k
                      · rw [c]; exact HT.out.symm
                      · exact HALL.out t (by omega), B5.out⟩
        case measure => simp [intOf]; omega
    · obtain rfl : k = n := by omega
      clear hbl
      go_wp2
      go_ret
      exact ⟨.inl ⟨rfl, HALL.out⟩, HBL.out⟩
set_option maxHeartbeats 16000000 in
set_option maxRecDepth 100000 in
/-- those that are deleted are gone, the others stand in their order -/
theorem delete_drop (g cap n lo hi : Nat) (x : Nat → List Value) (ce : Nat → List Value) (a0 : Nat) (del : Nat → Bool) (w : World) (hV : View (layRaw 3) 29 w lo hi (.slice (some ⟨g, 0, none⟩) n cap) n x ce) (hlo : hi ≤ lo) (hlw : lo ≤ w.heap.size) (hn : n ≤ 1048576) (CD : ∀ k, k < n → ∀ w', ChgL [g] w w' → Calls Try.prog 22 #[.agg (ce k).toArray, .pointer (some ⟨a0, 0, none⟩)] w' (fun e w'' => e = .returned (.bool (del k)) ∧ Below w'.heap.size w' w'')) :
    Calls Try.prog 19 #[.slice (some ⟨g, 0, none⟩) n cap, .func (.func 22) #[] #[.pointer (some ⟨a0, 0, none⟩)]] w fun e w' => e = .returned (.slice (some ⟨g, 0, none⟩) (keptI (fun i => !(del i)) n).length cap) ∧ View (layRaw 3) 29 w' lo hi (.slice (some ⟨g, 0, none⟩) (keptI (fun i => !(del i)) n).length cap) (keptI (fun i => !(del i)) n).length (fun i => x (selF (fun i => !(del i)) n i)) (fun i => ce (selF (fun i => !(del i)) n i)) ∧ ChgL [g] w w' := by
  have HV : Hid (View (layRaw 3) 29 w lo hi (.slice (some ⟨g, 0, none⟩) n cap) n x ce) := hV
  have HCD : Hid (∀ k, k < n → ∀ w', ChgL [g] w w' → Calls Try.prog 22 #[.agg (ce k).toArray, .pointer (some ⟨a0, 0, none⟩)] w' (fun e w'' => e = .returned (.bool (del k)) ∧ Below w'.heap.size w' w'')) := CD
  have hnc : n ≤ cap := by
    rcases hV.row.2 with ⟨hn, _⟩ | ⟨g', cap', cur, he, hbg, hgg, hnc, _⟩
    · cases hn
    · cases he; exact hnc
  have HNC : Hid (n ≤ cap) := hnc
  have hgl := hV.row.lt g rfl
  have CI := index_drop g cap n lo hi x ce a0 del w hV (by omega) hn CD
  clear hV CD hnc
  go_enter Try.func19, Try.ntmps19
  go_wp2_with fail
  refine CI.mono ?_
  rintro e w1 ⟨hcase, b1⟩
  have HB1 : Hid (Below w.heap.size w w1) := b1
  have z1 := b1.size
  clear CI b1
  rcases hcase with ⟨rfl, hall⟩ | ⟨i0, hi0, rfl, hp0, hbef⟩
  · have HALL : Hid (∀ i, i < n → (fun i => !(del i)) i = true) := fun i hi => by show (!(del i)) = true; rw [hall i hi]; rfl
    clear hall
    have te : ((-1 : Int) == -1) = true := by decide
    go_wp2
    go_ret
    have em : (keptI (fun i => !(del i)) n).length = n := by rw [kept_all HALL.out]; simp
    rw [em]
    exact ⟨rfl, (HV.out.below HB1.out (by omega)).congr2 (fun i hi => by rw [sel_all HALL.out hi]) (fun i hi => by rw [sel_all HALL.out hi]), ChgL.of_below HB1.out⟩
  have HP0 : Hid ((fun i => !(del i)) i0 = false) := by show (!(del i0)) = false; rw [hp0]; rfl
  have HBEF : Hid (∀ t, t < i0 → (fun i => !(del i)) t = true) := fun t ht => by show (!(del t)) = true; rw [hbef t ht]; rfl
  clear hp0 hbef
  have te : ((i0 : Int) == -1) = false := beq_eq_false_iff_ne.2 (by omega)
  have zi : IntKind.i64.wrap ((i0 : Int) + 1) = (i0 : Int) + 1 := by rw [IntKind.wrap_i64]; omega
  go_wp2
  go_loopw [5, 6] (fun v z wr => ∃ j : Nat, j ≤ n ∧ i0 < j ∧ z = .int .i64 j ∧ v = .int .i64 ((keptI (fun i => !(del i)) j).length : Nat) ∧ View (layRaw 3) 29 wr lo hi (.slice (some ⟨g, 0, none⟩) n cap) n (mixF (fun i => !(del i)) (j) x) (mixF (fun i => !(del i)) (j) ce) ∧ ChgL [g] w wr) (fun _ z _ => n - (intOf z).toNat)
  case atStart =>
    refine ⟨i0 + 1, by omega, by omega, by simp, ?_, ?_, ChgL.of_below HB1.out⟩
    · rw [kept_skip HP0.out, kept_all HBEF.out]; simp
    · exact (HV.out.below HB1.out (by omega)).congr2 (fun m _ => by rw [mix_skip x HP0.out, mix_all x HBEF.out]) (fun m _ => by rw [mix_skip ce HP0.out, mix_all ce HBEF.out])
  case round =>
    obtain ⟨j, hj, hij, rfl, rfl, hrow, hch⟩ := hrel
    obtain ⟨wx, rfl⟩ : ∃ y, y = wr := ⟨_, rfl⟩
    have HCH : Hid (ChgL [g] w wx) := hch
    have HRW : Hid (View (layRaw 3) 29 wx lo hi (.slice (some ⟨g, 0, none⟩) n cap) n (mixF (fun i => !(del i)) (j) x) (mixF (fun i => !(del i)) (j) ce)) := hrow
    have zx := hch.size
    have hless : (keptI (fun i => !(del i)) j).length < j := kept_less hij HP0.out
    clear hch
    by_cases hlt : j < n
    · have em : (mixF (fun i => !(del i)) (j) ce) j = ce j := mix_at ce (Nat.le_of_lt hless)
      have ex : (mixF (fun i => !(del i)) (j) x) j = x j := mix_at x (Nat.le_of_lt hless)
      have rgJ : wx.rangeAt g (j * 3) (ce j) := by have := hrow.range hlt; rw [em] at this; exact this
      have hcJ : (ce j).length = 3 := by have := hrow.lens j hlt; rw [em] at this; exact this
      have rdJ : (layRaw 3).rd wx hi (x j) (ce j) := by have := hrow.each j hlt; rw [em, ex] at this; exact this
      obtain ⟨cJ, hcJe⟩ : ∃ c, c = ce j := ⟨_, rfl⟩
      have HCJ : Hid (cJ = ce j) := hcJe
      rw [← hcJe] at rgJ hcJ rdJ
      have oneJ : ∀ v, v ∈ cJ → v.oneCell' = true := rdOne_raw3 _ _ _ _ rdJ
      have HRJ : Hid ((layRaw 3).rd wx hi (x j) cJ) := rdJ
      have i1 : (0 : Int) ≤ (j : Int) := by omega
      have i2 : (j : Int) < (n : Int) := by omega
      have bV : Below wx.heap.size wx (wx.alloc (.cells cJ.toArray 29)) := (Below.refl _ _).alloc (Nat.le_refl _) _
      have V1 : Box (wx.alloc (.cells cJ.toArray 29)) wx.heap.size cJ.toArray 29 := box_new _ _ _
      clear em ex hrow rdJ hcJe
      go_upto_region 8 with (first | (refine wpList_load_mid rfl 29 (.tmp 24) rfl g (j * 3) (by simp [Act.eval]) cJ _ rgJ Try.underlying29 rfl (info_Thing3 hcJ) ?_) | (refine wp_allocStore 29 7 (.tmp 25) cJ _ 3 rfl rfl rfl rfl rfl rfl rfl rfl info_ThingZ rfl hcJ oneJ ?_))
      obtain ⟨W5, hW5⟩ : ∃ y, y = wx.alloc (.cells cJ.toArray 29) := ⟨_, rfl⟩
      rw [← hW5] at bV V1 ⊢
      clear hW5 rgJ
      have z5 := bV.size
      have HV1 : Hid (Box W5 wx.heap.size cJ.toArray 29) := V1
      have z5' := V1.lt
      have C5 : ChgL [g] w W5 := HCH.out.trans (ChgL.of_below bV)
      have CS := HCD.out j hlt W5 C5
      rw [← HCJ.out] at CS
      obtain ⟨t, ht⟩ : ∃ t, t = del j := ⟨_, rfl⟩
      rw [← ht] at CS
      have HT : Hid ((fun i => !(del i)) j = !t) := by rw [ht]; exact rfl
      have HC5 : Hid (ChgL [g] w W5) := C5
      have HR5 : Hid (View (layRaw 3) 29 W5 lo hi (.slice (some ⟨g, 0, none⟩) n cap) n (mixF (fun i => !(del i)) (j) x) (mixF (fun i => !(del i)) (j) ce)) := HRW.out.below bV (by omega)
      have HRJ5 : Hid ((layRaw 3).rd W5 hi (x j) cJ) := (layRaw 3).rd_below HRJ.out bV (by omega)
      clear ht C5 V1 bV
      go_wp2_with (refine wp_loadBox 29 (.tmp 7) rfl rfl (wx.heap.size) rfl (cs := cJ) HV1.out Try.underlying29 size_Thing hcJ ?_)
      refine CS.mono ?_
      rintro e w6 ⟨rfl, b6⟩
      have z6 := b6.size
      have HV6 : Hid (Box w6 wx.heap.size cJ.toArray 29) := HV1.out.below b6 z5'
      have C6 : Hid (ChgL [g] w w6) := HC5.out.trans (ChgL.of_below b6)
      have HS6 : Hid (View (layRaw 3) 29 w6 lo hi (.slice (some ⟨g, 0, none⟩) n cap) n (mixF (fun i => !(del i)) (j) x) (mixF (fun i => !(del i)) (j) ce)) := HR5.out.below b6 (by omega)
      have HRJ6 : Hid ((layRaw 3).rd w6 hi (x j) cJ) := (layRaw 3).rd_below HRJ5.out b6 (by omega)
      clear b6 CS HV1 HC5 HR5 HRJ5
      cases t with
      | true =>
        go_wp2
        go_roundw
        case rel => exact ⟨j + 1, by omega, by omega, by go_num, by rw [kept_skip HT.out], HS6.out.congr2 (fun m _ => (mix_skip x HT.out m).symm) (fun m _ => (mix_skip ce HT.out m).symm), C6.out⟩
        case measure => simp [intOf]; omega
      | false =>
        obtain ⟨q, hq⟩ : ∃ q, q = (keptI (fun i => !(del i)) j).length := ⟨_, rfl⟩
        have HQ : Hid (q = (keptI (fun i => !(del i)) j).length) := hq
        have hqn : q < n := by omega
        rw [← hq]
        have k1 : (0 : Int) ≤ (q : Int) := by omega
        have k2 : (q : Int) < (n : Int) := by omega
        have hth : w6.there g (q * 3) cJ.length := by rw [hcJ]; exact HS6.out.there hqn
        have hpk : (fun i => !(del i)) j = true := HT.out
        have hnx : (keptI (fun i => !(del i)) (j + 1)).length = q + 1 := by rw [hq, kept_succ, if_pos hpk]; simp
        have HNX : Hid ((keptI (fun i => !(del i)) (j + 1)).length = q + 1) := hnx
        have HV7 : Hid (View (layRaw 3) 29 (w6.setCells g (q * 3) cJ) lo hi (.slice (some ⟨g, 0, none⟩) n cap) n (mixF (fun i => !(del i)) (j + 1) x) (mixF (fun i => !(del i)) (j + 1) ce)) := by
          have := HS6.out.put (by decide) hlo hqn HRJ6.out
          refine this.congr2 (fun m _ => ?_) (fun m _ => ?_)
          · have := mix_keep (p := (fun i => !(del i))) (j := j) x hpk m
            rw [← hq] at this
            exact this
          · have := mix_keep (p := (fun i => !(del i))) (j := j) ce hpk m
            rw [← hq, ← HCJ.out] at this
            exact this
        have C7 : Hid (ChgL [g] w (w6.setCells g (q * 3) cJ)) := C6.out.trans (chgL_setCells g cJ w6 _)
        have zq : IntKind.i64.wrap ((q : Int) + 1) = (q : Int) + 1 := by rw [IntKind.wrap_i64]; omega
        clear hq hnx hpk
        go_wp2_with (first | (refine wp_loadBox 29 (.tmp 7) rfl rfl (wx.heap.size) rfl (cs := cJ) HV6.out Try.underlying29 size_Thing hcJ ?_) | (refine wpList_store_mid rfl 29 (.tmp 33) (.tmp 32) rfl g (q * 3) cJ.toArray (by simp [Act.eval]) (by simp [Act.eval]) (show w6.there g (q * 3) cJ.toArray.size by rw [List.size_toArray]; exact hth) (show _ = some cJ.toArray.size by rw [List.size_toArray]; exact info_Thing3 hcJ) (all_oneCell_toArray oneJ) ?_; rw [show cJ.toArray.toList = cJ from rfl]))
        go_roundw
        case rel => exact ⟨j + 1, by omega, by omega, by go_num, by rw [HNX.out]; simp, HV7.out, C7.out⟩
        case measure => simp [intOf]; omega
    · obtain rfl : j = n := by omega
      obtain ⟨q, hq⟩ : ∃ q, q = (keptI (fun i => !(del i)) j).length := ⟨_, rfl⟩
      have HQ : Hid (q = (keptI (fun i => !(del i)) j).length) := hq
      have S5 := HRW.out
      have hlens := S5.lens
      rcases S5.row.2 with ⟨hnn, _⟩ | ⟨g', cap', cur, he, hbg, hgg, hnc', hcm, hcs, htk⟩
      · cases hnn
      cases he
      have hqn : q < j := by omega
      obtain ⟨row, hcl, hrs, hrt⟩ := run_clearRT wx 0 g (q * 3) (j - q) (cap - q) cur hgg (by omega) (by
        have h9 : cur.size = cap * 3 := hcs
        have : q * 3 + (j - q) * 3 ≤ cap * 3 := by rw [← Nat.add_mul]; exact Nat.mul_le_mul_right 3 (by omega)
        omega)
      have hf := run_rsFromT g j cap q hqn HNC.out
      have ht := fun w' => run_rsToT g j cap q (by omega) w'
      obtain ⟨W7, hW7⟩ : ∃ y, y = wx.setRow g row := ⟨_, rfl⟩
      rw [← hW7] at hcl
      have C7 : Hid (ChgL [g] w W7) := by
        rw [hW7]
        exact HCH.out.trans (chgL_setRow g row)
      have C7x : ChgL [g] wx W7 := by rw [hW7]; exact chgL_setRow g row
      have bX : Below lo wx W7 := C7x.bel (fun b hb => by simp at hb; omega) (by omega)
      have R7 : Hid (View (layRaw 3) 29 W7 lo hi (.slice (some ⟨g, 0, none⟩) q cap) q (fun i => x (selF (fun i => !(del i)) j i)) (fun i => ce (selF (fun i => !(del i)) j i))) := by
        have e1 : catN q (mixF (fun i => !(del i)) (j) ce) = catN q (fun i => ce (selF (fun i => !(del i)) j i)) := catN_congr (fun i hi => by
          show mixF _ j ce i = _
          unfold mixF
          rw [if_pos (by rw [← hq]; exact hi)])
        have hl9 : ∀ i, i < q → (ce (selF (fun i => !(del i)) j i)).length = (layRaw 3).sz := fun i hi => by
          have := hlens i (by omega)
          unfold mixF at this
          rw [if_pos (by rw [← hq]; exact hi)] at this
          exact this
        refine ⟨⟨catN_len hl9, .inr ⟨g, cap, row, rfl, hbg, by rw [hW7]; exact setRow_heap wx g cur row 29 (0, 0) hgg, by omega, hcm, by rw [hrs]; exact hcs, ?_⟩⟩, fun i hi => ?_⟩
        · rw [← e1, ← catN_take hlens (Nat.le_of_lt hqn), ← htk, List.take_take, Nat.min_eq_left (Nat.mul_le_mul_right _ (Nat.le_of_lt hqn))]
          exact hrt
        · have h1 := S5.each i (by omega)
          unfold mixF at h1
          rw [if_pos (by rw [← hq]; exact hi), if_pos (by rw [← hq]; exact hi)] at h1
          exact (layRaw 3).rd_below h1 bX hlo
      clear S5 hlens hgg htk hcs hcm hnc' hbg hrs hrt hW7 hless C7x bX
      rw [← hq]
      clear hq
      go_wp2_with (simp only [hcl])
      go_ret
      rw [← HQ.out]
      exact ⟨rfl, R7.out, C7.out⟩
end Go.Proofs.Ytopaofcpjiicmaa

namespace Go.Proofs.Ytopaofcpjiicmaa
open Go.RowKit
set_option linter.unusedVariables false
section
variable {P : Program} {ops : Array Oper} {Q : Exit → Act → World → Prop} {md : Region.Mode} {S : World → Prop} {L : Nat}
/-- whatever order is picked; S holds behind every operation but L -/
def wpAnyL (P : Program) (md : Region.Mode) (ops : Array Oper) (Q : Exit → Act → World → Prop) (S : World → Prop) (L : Nat) : Nat → Array Bool → Act → World → Prop
  | 0, listed, a, w => Region.ready md ops listed = [] ∧ Q .normal a w
  | fuel + 1, listed, a, w =>
    (Region.ready md ops listed = [] → Q .normal a w) ∧
    ∀ i ∈ Region.ready md ops listed, wpOp P ops Q i (fun a' w' => (i ≠ L → S w') ∧ wpAnyL P md ops Q S L fuel (listed.setIfInBounds i true) a' w') a w
theorem wpAny_of_L : ∀ (fuel : Nat) (listed : Array Bool) (a : Act) (w : World), wpAnyL P md ops Q S L fuel listed a w → wpAny P md ops Q fuel listed a w
  | 0, _, _, _, h => h
  | fuel + 1, _, _, _, h => ⟨h.1, fun i hi => wpOp_mono (fun a' w' h' => wpAny_of_L fuel _ a' w' h'.2) (h.2 i hi)⟩
/-- what has come up came behind all that it waits for -/
def ClosedP (md : Region.Mode) (ops : Array Oper) (listed : Array Bool) : Prop :=
  ∀ j oj, ops[j]? = some oj → listed.getD j false = true → ∀ e ∈ oj.after, Region.binds md e = true → listed.getD e.on false = true
def closedB (md : Region.Mode) (ops : Array Oper) (listed : Array Bool) : Bool :=
  (List.range ops.size).all fun j => !listed.getD j false || ((ops[j]?).map (·.after.all fun e => !Region.binds md e || listed.getD e.on false)).getD false
theorem closed_of {listed : Array Bool} (h : closedB md ops listed = true) : ClosedP md ops listed := fun j oj hj hl e he hb => by
  unfold closedB at h
  have hlt : j < ops.size := (Array.getElem?_eq_some_iff.1 hj).1
  have h1 := List.all_eq_true.1 h j (List.mem_range.2 hlt)
  rw [hl, hj] at h1
  simp only [Bool.not_true, Bool.false_or, Option.map_some, Option.getD_some, Array.all_eq_true_iff_forall_mem] at h1
  have h2 := h1 e he
  rw [hb] at h2
  simpa using h2
theorem closed_step {listed : Array Bool} {j : Nat} (h : ClosedP md ops listed) (hj : j ∈ Region.ready md ops listed) : ClosedP md ops (listed.setIfInBounds j true) := fun k ok hk hl e he hb => by
  obtain ⟨_, o, ho, hall⟩ := mem_ready.1 hj
  by_cases c : j = k
  · subst c
    rw [hk] at ho
    cases ho
    exact getD_set_true (hall e he hb)
  · rw [getD_set_ne false c] at hl
    exact getD_set_true (h k ok hk hl e he hb)
/-- l waits for i, over so many steps -/
def depB (md : Region.Mode) (ops : Array Oper) : Nat → Nat → Nat → Bool
  | 0, l, i => l == i
  | n + 1, l, i => l == i || ((ops[l]?).map (·.after.any fun e => Region.binds md e && depB md ops n e.on i)).getD false
theorem dep_listed {listed : Array Bool} (hc : ClosedP md ops listed) : ∀ (n l i : Nat), depB md ops n l i = true → listed.getD l false = true → listed.getD i false = true
  | 0, l, i, h, hl => by
    unfold depB at h
    have : l = i := by simpa using h
    rw [← this]; exact hl
  | n + 1, l, i, h, hl => by
    unfold depB at h
    rcases Bool.or_eq_true _ _ ▸ h with h1 | h1
    · have : l = i := by simpa using h1
      rw [← this]; exact hl
    · cases ho : ops[l]? with
      | none => rw [ho] at h1; simp at h1
      | some o =>
        rw [ho] at h1
        simp only [Option.map_some, Option.getD_some] at h1
        obtain ⟨k, hk, hbk⟩ := Array.any_eq_true.1 h1
        obtain ⟨hb, hd⟩ := Bool.and_eq_true _ _ ▸ hbk
        exact dep_listed hc n _ i hd (hc l o ho hl _ (Array.getElem_mem hk) hb)
theorem dep_waits {listed : Array Bool} (hc : ClosedP md ops listed) {n i : Nat} (hne : L ≠ i) (hd : depB md ops n L i = true) (hi : listed.getD i false = false) : L ∉ Region.ready md ops listed := fun hL => by
  obtain ⟨_, o, ho, hall⟩ := mem_ready.1 hL
  cases n with
  | zero => unfold depB at hd; exact hne (by simpa using hd)
  | succ n =>
    unfold depB at hd
    rcases Bool.or_eq_true _ _ ▸ hd with h1 | h1
    · exact hne (by simpa using h1)
    · rw [ho] at h1
      simp only [Option.map_some, Option.getD_some] at h1
      obtain ⟨k, hk, hbk⟩ := Array.any_eq_true.1 h1
      obtain ⟨hb, hd'⟩ := Bool.and_eq_true _ _ ▸ hbk
      have := dep_listed hc n _ i hd' (hall _ (Array.getElem_mem hk) hb)
      rw [hi] at this
      cases this
theorem unlisted_false {listed : Array Bool} {i : Nat} (h : listed.getD i true = false) : listed.getD i false = false := by
  rcases Nat.lt_or_ge i listed.size with h' | h'
  · simpa [h'] using h
  · simp [Array.getElem?_eq_none h'] at h
theorem wpAnyL_first {i : Nat} {oi : Oper} {v : Value} (hi : ops[i]? = some oi) (hsel : ∀ (j : Nat) (o : Oper) cs b, ops[j]? = some o → o.op ≠ .select cs b)
    (hQ : ∀ c a w, Q (.panic c) (a.put oi.dst v) w → Q (.panic c) a w) (hLi : L ≠ i) {n : Nat} (hd : depB md ops n L i = true) :
    ∀ (fuel : Nat) (listed : Array Bool) (a : Act) (w : World), ClosedP md ops listed →
      (∀ j oj, ops[j]? = some oj → j ≠ i → listed.getD j true = false → (∀ e ∈ oj.after, Region.binds md e = true → e.on ≠ i) → oi.apart ops oj = true) →
      i ∈ Region.ready md ops listed → YieldsIf P ops S oi v a → S w →
      wpAnyL P md ops Q S L fuel (listed.setIfInBounds i true) (a.put oi.dst v) w → wpAnyL P md ops Q S L (fuel + 1) listed a w := by
  intro fuel
  induction fuel with
  | zero =>
    intro listed a w _ _ hr hy hS H
    refine ⟨fun h => (by rw [h] at hr; cases hr), fun j hj => ?_⟩
    by_cases hji : j = i
    · subst hji; exact hy.wpOp hi hS ⟨fun _ => hS, H⟩
    · have := ready_mono hj hji
      rw [H.1] at this
      cases this
  | succ fuel ih =>
    intro listed a w hcl hfree hr hy hS H
    refine ⟨fun h => (by rw [h] at hr; cases hr), fun j hj => ?_⟩
    by_cases hji : j = i
    · subst hji; exact hy.wpOp hi hS ⟨fun _ => hS, H⟩
    · have hjL : j ≠ L := fun h => by
        subst h
        exact dep_waits hcl hLi hd (unlisted_false (mem_ready.1 hr).1) hj
      have h1 := H.2 j (ready_mono hj hji)
      obtain ⟨hjun, oj, hoj, hall⟩ := mem_ready.1 hj
      have hnot : ∀ e ∈ oj.after, Region.binds md e = true → e.on ≠ i := fun e he hb heq => by
        have h1 := hall e he hb
        have h0 := unlisted_false (mem_ready.1 hr).1
        rw [heq, h0] at h1
        cases h1
      have h2 := wpOp_putIf hoj (hfree j oj hoj hji hjun hnot) (fun cs b => hsel i oi cs b hi) (fun cs b => hsel j oj cs b hoj) hQ hy h1
      have hfree' : ∀ k ok, ops[k]? = some ok → k ≠ i → (listed.setIfInBounds j true).getD k true = false →
          (∀ e ∈ ok.after, Region.binds md e = true → e.on ≠ i) → oi.apart ops ok = true := fun k ok hk hki hun hno => by
        refine hfree k ok hk hki ?_ hno
        by_cases hjk : j = k
        · subst hjk; exact hjun
        · rw [getD_set_ne true hjk] at hun; exact hun
      refine wpOp_mono (fun a' w' h3 => ⟨h3.2.1, ih (listed.setIfInBounds j true) a' w' (closed_step hcl hj) hfree' (ready_mono hr (Ne.symm hji)) h3.1 (h3.2.1 hjL) ?_⟩) h2
      rw [Array.setIfInBounds_comm _ _ hji]
      exact h3.2.2
/-- take number i first -/
theorem wpAnyL_take {i : Nat} {oi : Oper} {v : Value} {fuel : Nat} {listed : Array Bool} {a : Act} {w : World} (n : Nat) (hi : ops[i]? = some oi)
    (hs : (Region.noSelect ops && Region.free md ops listed i && (Region.ready md ops listed).contains i && !(L == i) && depB md ops n L i && closedB md ops listed) = true)
    (hQ : ∀ c a w, Q (.panic c) (a.put oi.dst v) w → Q (.panic c) a w) (hy : YieldsIf P ops S oi v a) (hS : S w)
    (h : wpAnyL P md ops Q S L fuel (listed.setIfInBounds i true) (a.put oi.dst v) w) : wpAnyL P md ops Q S L (fuel + 1) listed a w := by
  simp only [Bool.and_eq_true, Bool.not_eq_true', beq_eq_false_iff_ne] at hs
  obtain ⟨⟨⟨⟨⟨h1, h2⟩, h3⟩, h4⟩, h5⟩, h6⟩ := hs
  exact wpAnyL_first hi (Region.noSelect_spec h1) hQ h4 h5 fuel listed a w (closed_of h6) (Region.free_spec hi h2) (by simpa using h3) hy hS h
/-- one operation alone may come up, and S holds behind it -/
theorem wpAnyL_one {i : Nat} {o : Oper} {fuel : Nat} {listed : Array Bool} {a : Act} {w : World} (ho : ops[i]? = some o) (hr : Region.ready md ops listed = [i])
    (h : ∀ K' : Act → World → Prop, Shut (∀ a w, S w → (S w → wpAnyL P md ops Q S L fuel (listed.setIfInBounds i true) a w) → K' a w) → if Region.wanted o (yielded ops a.tmps) = true then Oper.wp P o a w K' Q else K' (a.put o.dst undef) w) : wpAnyL P md ops Q S L (fuel + 1) listed a w := by
  refine ⟨fun h0 => (by rw [hr] at h0; cases h0), fun j hj => ?_⟩
  rw [hr] at hj
  obtain rfl : j = i := by simpa using hj
  exact wpOp_step ho (fun K' hK => h K' (fun a w hS hW => hK a w ⟨fun _ => hS, hW hS⟩))
/-- the last store: nothing is asked behind it -/
theorem wpAnyL_last {o : Oper} {fuel : Nat} {listed : Array Bool} {a : Act} {w : World} (ho : ops[L]? = some o) (hr : Region.ready md ops listed = [L])
    (h : ∀ K' : Act → World → Prop, Shut (∀ a w, wpAnyL P md ops Q S L fuel (listed.setIfInBounds L true) a w → K' a w) → if Region.wanted o (yielded ops a.tmps) = true then Oper.wp P o a w K' Q else K' (a.put o.dst undef) w) : wpAnyL P md ops Q S L (fuel + 1) listed a w := by
  refine ⟨fun h0 => (by rw [hr] at h0; cases h0), fun j hj => ?_⟩
  rw [hr] at hj
  obtain rfl : j = L := by simpa using hj
  exact wpOp_step ho (fun K' hK => h K' (fun a w hW => hK a w ⟨fun hn => absurd rfl hn, hW⟩))
theorem wpAnyL_done {listed : Array Bool} {a : Act} {w : World} (hr : Region.ready md ops listed = []) (h : Q .normal a w) : ∀ fuel, wpAnyL P md ops Q S L fuel listed a w
  | 0 => ⟨hr, h⟩
  | _ + 1 => ⟨fun _ => h, by rw [hr]; simp⟩
theorem wp_region_L {id : Nat} {a : Act} {w : World} (L : Nat) (S : World → Prop) (hm : P.follows .mixedOrders = true) (hS : S w.drew)
    (h : S w.drew → wpAnyL P .any ops Q S L ops.size (Array.replicate ops.size false) a w.drew) : (Code.region id ops true).wp P Q a w :=
  wp_region_any hm (wpAny_of_L _ _ _ _ (h hS))
end
end Go.Proofs.Ytopaofcpjiicmaa
