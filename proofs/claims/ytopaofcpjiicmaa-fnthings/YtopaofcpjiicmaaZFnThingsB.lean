/- Walk of the specification's PutThing. -/
import Derived.Test.YtopaofcpjiicmaaZFnThingsA
import Derived.Deep.MidRow
import Derived.Deep.DeepCutAuto
import Derived.BigQuiet
import Derived.Deep.QuietTactic
namespace Go.Proofs.Ytopaofcpjiicmaa
open Go.RowKit
set_option linter.unusedVariables false
section
variable {P : Program} {ops : Array Oper} {Q : Exit → Act → World → Prop} {md : Region.Mode} {S : World → Prop} {L : Nat}
/-- whatever order is picked; S holds until L has come up -/
def wpAnyM (P : Program) (md : Region.Mode) (ops : Array Oper) (Q : Exit → Act → World → Prop) (S : World → Prop) (L : Nat) : Nat → Array Bool → Act → World → Prop
  | 0, listed, a, w => Region.ready md ops listed = [] ∧ Q .normal a w
  | fuel + 1, listed, a, w =>
    (Region.ready md ops listed = [] → Q .normal a w) ∧
    ∀ i ∈ Region.ready md ops listed, wpOp P ops Q i (fun a' w' => ((listed.setIfInBounds i true).getD L false = false → S w') ∧ wpAnyM P md ops Q S L fuel (listed.setIfInBounds i true) a' w') a w
theorem wpAny_of_M : ∀ (fuel : Nat) (listed : Array Bool) (a : Act) (w : World), wpAnyM P md ops Q S L fuel listed a w → wpAny P md ops Q fuel listed a w
  | 0, _, _, _, h => h
  | fuel + 1, _, _, _, h => ⟨h.1, fun i hi => wpOp_mono (fun a' w' h' => wpAny_of_M fuel _ a' w' h'.2) (h.2 i hi)⟩
theorem wpAnyM_first {i : Nat} {oi : Oper} {v : Value} (hi : ops[i]? = some oi) (hsel : ∀ (j : Nat) (o : Oper) cs b, ops[j]? = some o → o.op ≠ .select cs b)
    (hQ : ∀ c a w, Q (.panic c) (a.put oi.dst v) w → Q (.panic c) a w) (hLi : L ≠ i) {n : Nat} (hd : depB md ops n L i = true) :
    ∀ (fuel : Nat) (listed : Array Bool) (a : Act) (w : World), ClosedP md ops listed →
      (∀ j oj, ops[j]? = some oj → j ≠ i → listed.getD j true = false → (∀ e ∈ oj.after, Region.binds md e = true → e.on ≠ i) → oi.apart ops oj = true) →
      i ∈ Region.ready md ops listed → YieldsIf P ops S oi v a → S w →
      wpAnyM P md ops Q S L fuel (listed.setIfInBounds i true) (a.put oi.dst v) w → wpAnyM P md ops Q S L (fuel + 1) listed a w := by
  intro fuel
  induction fuel with
  | zero =>
    intro listed a w _ _ hr hy hS H
    refine ⟨fun h => (by rw [h] at hr; cases hr), fun j hj => ?_⟩
    by_cases hji : j = i
    · subst hji; exact hy.wpOp hi hS ⟨fun _ => hS, H⟩
    · have := ready_mono hj hji
      rw [H.1] at this
      cases this
  | succ fuel ih =>
    intro listed a w hcl hfree hr hy hS H
    refine ⟨fun h => (by rw [h] at hr; cases hr), fun j hj => ?_⟩
    by_cases hji : j = i
    · subst hji; exact hy.wpOp hi hS ⟨fun _ => hS, H⟩
    · have hjL : j ≠ L := fun h => by
        subst h
        exact dep_waits hcl hLi hd (unlisted_false (mem_ready.1 hr).1) hj
      have h1 := H.2 j (ready_mono hj hji)
      obtain ⟨hjun, oj, hoj, hall⟩ := mem_ready.1 hj
      have hnot : ∀ e ∈ oj.after, Region.binds md e = true → e.on ≠ i := fun e he hb heq => by
        have h1 := hall e he hb
        have h0 := unlisted_false (mem_ready.1 hr).1
        rw [heq, h0] at h1
        cases h1
      have h2 := wpOp_putIf hoj (hfree j oj hoj hji hjun hnot) (fun cs b => hsel i oi cs b hi) (fun cs b => hsel j oj cs b hoj) hQ hy h1
      have hfree' : ∀ k ok, ops[k]? = some ok → k ≠ i → (listed.setIfInBounds j true).getD k true = false →
          (∀ e ∈ ok.after, Region.binds md e = true → e.on ≠ i) → oi.apart ops ok = true := fun k ok hk hki hun hno => by
        refine hfree k ok hk hki ?_ hno
        by_cases hjk : j = k
        · subst hjk; exact hjun
        · rw [getD_set_ne true hjk] at hun; exact hun
      have hLn : (listed.setIfInBounds j true).getD L false = false := by
        rw [getD_set_ne false hjL]
        cases hg : listed.getD L false with
        | false => rfl
        | true => have := dep_listed hcl n L i hd hg; rw [unlisted_false (mem_ready.1 hr).1] at this; cases this
      have hLn2 : ((listed.setIfInBounds i true).setIfInBounds j true).getD L false = false := by
        rw [← Array.setIfInBounds_comm _ _ hji, getD_set_ne false (Ne.symm hLi)]
        exact hLn
      refine wpOp_mono (fun a' w' h3 => ⟨fun _ => h3.2.1 hLn2, ih (listed.setIfInBounds j true) a' w' (closed_step hcl hj) hfree' (ready_mono hr (Ne.symm hji)) h3.1 (h3.2.1 hLn2) ?_⟩) h2
      rw [Array.setIfInBounds_comm _ _ hji]
      exact h3.2.2
theorem wpAnyM_pure0 {i : Nat} {oi : Oper} {v : Value} (hi : ops[i]? = some oi) (hsel : ∀ (j : Nat) (o : Oper) cs b, ops[j]? = some o → o.op ≠ .select cs b)
    (hQ : ∀ c a w, Q (.panic c) (a.put oi.dst v) w → Q (.panic c) a w) (hLi : L ≠ i) :
    ∀ (fuel : Nat) (listed : Array Bool) (a : Act) (w : World), ClosedP md ops listed →
      (∀ j oj, ops[j]? = some oj → j ≠ i → listed.getD j true = false → (∀ e ∈ oj.after, Region.binds md e = true → e.on ≠ i) → oi.apart ops oj = true) →
      i ∈ Region.ready md ops listed → YieldsIf P ops (fun _ => True) oi v a → ((listed.setIfInBounds i true).getD L false = false → S w) →
      wpAnyM P md ops Q S L fuel (listed.setIfInBounds i true) (a.put oi.dst v) w → wpAnyM P md ops Q S L (fuel + 1) listed a w := by
  intro fuel
  induction fuel with
  | zero =>
    intro listed a w _ _ hr hy hS H
    refine ⟨fun h => (by rw [h] at hr; cases hr), fun j hj => ?_⟩
    by_cases hji : j = i
    · subst hji; exact hy.wpOp hi trivial ⟨hS, H⟩
    · have := ready_mono hj hji
      rw [H.1] at this
      cases this
  | succ fuel ih =>
    intro listed a w hcl hfree hr hy hS H
    refine ⟨fun h => (by rw [h] at hr; cases hr), fun j hj => ?_⟩
    by_cases hji : j = i
    · subst hji; exact hy.wpOp hi trivial ⟨hS, H⟩
    · skip
      have h1 := H.2 j (ready_mono hj hji)
      obtain ⟨hjun, oj, hoj, hall⟩ := mem_ready.1 hj
      have hnot : ∀ e ∈ oj.after, Region.binds md e = true → e.on ≠ i := fun e he hb heq => by
        have h1 := hall e he hb
        have h0 := unlisted_false (mem_ready.1 hr).1
        rw [heq, h0] at h1
        cases h1
      have h2 := wpOp_putIf hoj (hfree j oj hoj hji hjun hnot) (fun cs b => hsel i oi cs b hi) (fun cs b => hsel j oj cs b hoj) hQ hy h1
      have hfree' : ∀ k ok, ops[k]? = some ok → k ≠ i → (listed.setIfInBounds j true).getD k true = false →
          (∀ e ∈ ok.after, Region.binds md e = true → e.on ≠ i) → oi.apart ops ok = true := fun k ok hk hki hun hno => by
        refine hfree k ok hk hki ?_ hno
        by_cases hjk : j = k
        · subst hjk; exact hjun
        · rw [getD_set_ne true hjk] at hun; exact hun
      refine wpOp_mono (fun a' w' h3 => ?_) h2
      have hk : ((listed.setIfInBounds j true).setIfInBounds i true).getD L false = false → S w' := fun hn => h3.2.1 (by rw [Array.setIfInBounds_comm _ _ (Ne.symm hji)]; exact hn)
      refine ⟨fun hn => ?_, ih (listed.setIfInBounds j true) a' w' (closed_step hcl hj) hfree' (ready_mono hr (Ne.symm hji)) h3.1 hk ?_⟩
      · exact hk (by rw [getD_set_ne false (Ne.symm hLi)]; exact hn)
      · rw [Array.setIfInBounds_comm _ _ hji]
        exact h3.2.2
/-- take number i first, which asks nothing of the world -/
theorem wpAnyM_pure {i : Nat} {oi : Oper} {v : Value} {fuel : Nat} {listed : Array Bool} {a : Act} {w : World} (hi : ops[i]? = some oi)
    (hs : (Region.noSelect ops && Region.free md ops listed i && (Region.ready md ops listed).contains i && !(L == i) && closedB md ops listed) = true)
    (hQ : ∀ c a w, Q (.panic c) (a.put oi.dst v) w → Q (.panic c) a w) (hy : YieldsIf P ops (fun _ => True) oi v a) (hS : S w)
    (h : wpAnyM P md ops Q S L fuel (listed.setIfInBounds i true) (a.put oi.dst v) w) : wpAnyM P md ops Q S L (fuel + 1) listed a w := by
  simp only [Bool.and_eq_true, Bool.not_eq_true', beq_eq_false_iff_ne] at hs
  obtain ⟨⟨⟨⟨h1, h2⟩, h3⟩, h4⟩, h6⟩ := hs
  exact wpAnyM_pure0 hi (Region.noSelect_spec h1) hQ h4 fuel listed a w (closed_of h6) (Region.free_spec hi h2) (by simpa using h3) hy (fun _ => hS) h
/-- the same where L has come up -/
theorem wpAnyM_pureL {i : Nat} {oi : Oper} {v : Value} {fuel : Nat} {listed : Array Bool} {a : Act} {w : World} (hi : ops[i]? = some oi)
    (hs : (Region.noSelect ops && Region.free md ops listed i && (Region.ready md ops listed).contains i && !(L == i) && closedB md ops listed && listed.getD L false) = true)
    (hQ : ∀ c a w, Q (.panic c) (a.put oi.dst v) w → Q (.panic c) a w) (hy : YieldsIf P ops (fun _ => True) oi v a)
    (h : wpAnyM P md ops Q S L fuel (listed.setIfInBounds i true) (a.put oi.dst v) w) : wpAnyM P md ops Q S L (fuel + 1) listed a w := by
  simp only [Bool.and_eq_true, Bool.not_eq_true', beq_eq_false_iff_ne] at hs
  obtain ⟨⟨⟨⟨⟨h1, h2⟩, h3⟩, h4⟩, h6⟩, h7⟩ := hs
  exact wpAnyM_pure0 hi (Region.noSelect_spec h1) hQ h4 fuel listed a w (closed_of h6) (Region.free_spec hi h2) (by simpa using h3) hy (fun hn => by rw [getD_set_ne false (Ne.symm h4), h7] at hn; cases hn) h
/-- take number i first -/
theorem wpAnyM_take {i : Nat} {oi : Oper} {v : Value} {fuel : Nat} {listed : Array Bool} {a : Act} {w : World} (n : Nat) (hi : ops[i]? = some oi)
    (hs : (Region.noSelect ops && Region.free md ops listed i && (Region.ready md ops listed).contains i && !(L == i) && depB md ops n L i && closedB md ops listed) = true)
    (hQ : ∀ c a w, Q (.panic c) (a.put oi.dst v) w → Q (.panic c) a w) (hy : YieldsIf P ops S oi v a) (hS : S w)
    (h : wpAnyM P md ops Q S L fuel (listed.setIfInBounds i true) (a.put oi.dst v) w) : wpAnyM P md ops Q S L (fuel + 1) listed a w := by
  simp only [Bool.and_eq_true, Bool.not_eq_true', beq_eq_false_iff_ne] at hs
  obtain ⟨⟨⟨⟨⟨h1, h2⟩, h3⟩, h4⟩, h5⟩, h6⟩ := hs
  exact wpAnyM_first hi (Region.noSelect_spec h1) hQ h4 h5 fuel listed a w (closed_of h6) (Region.free_spec hi h2) (by simpa using h3) hy hS h
/-- one operation alone may come up, and L has come up with it -/
theorem wpAnyM_one {i : Nat} {o : Oper} {fuel : Nat} {listed : Array Bool} {a : Act} {w : World} (ho : ops[i]? = some o) (hr : Region.ready md ops listed = [i]) (hL : (listed.setIfInBounds i true).getD L false = true)
    (h : ∀ K' : Act → World → Prop, Shut (∀ a w, wpAnyM P md ops Q S L fuel (listed.setIfInBounds i true) a w → K' a w) → if Region.wanted o (yielded ops a.tmps) = true then Oper.wp P o a w K' Q else K' (a.put o.dst undef) w) : wpAnyM P md ops Q S L (fuel + 1) listed a w := by
  refine ⟨fun h0 => (by rw [hr] at h0; cases h0), fun j hj => ?_⟩
  rw [hr] at hj
  obtain rfl : j = i := by simpa using hj
  exact wpOp_step ho (fun K' hK => h K' (fun a w hW => hK a w ⟨fun hn => (by rw [hL] at hn; cases hn), hW⟩))
theorem wpAnyM_done {listed : Array Bool} {a : Act} {w : World} (hr : Region.ready md ops listed = []) (h : Q .normal a w) : ∀ fuel, wpAnyM P md ops Q S L fuel listed a w
  | 0 => ⟨hr, h⟩
  | _ + 1 => ⟨fun _ => h, by rw [hr]; simp⟩
theorem wp_region_M {id : Nat} {a : Act} {w : World} (L : Nat) (S : World → Prop) (hm : P.follows .mixedOrders = true) (hS : S w.drew)
    (h : S w.drew → wpAnyM P .any ops Q S L ops.size (Array.replicate ops.size false) a w.drew) : (Code.region id ops true).wp P Q a w :=
  wp_region_any hm (wpAny_of_M _ _ _ _ (h hS))
/-- a store of a whole struct into the midst of a block, behind which L has come up -/
theorem wpAnyM_store {i : Nat} {o : Oper} {fuel : Nat} {listed : Array Bool} {a : Act} {w : World} (ho : ops[i]? = some o) (hr : Region.ready md ops listed = [i]) (hL : (listed.setIfInBounds i true).getD L false = true) (hg : o.guard = none) (hd : o.dst = none) (T : TypeId) (x y : Operand) (hop : o.op = .store T x y)
    (b off : Nat) (cells : List Value) (hx : a.eval x = .pointer (some ⟨b, off, none⟩)) (hy : a.eval y = .agg cells.toArray) (ht : w.there b off cells.length) (hi : (P.info? T).map (·.size) = some cells.length) (h1 : ∀ v, v ∈ cells → v.oneCell' = true)
    (h : wpAnyM P md ops Q S L fuel (listed.setIfInBounds i true) a (w.setCells b off cells)) : wpAnyM P md ops Q S L (fuel + 1) listed a w := by
  refine wpAnyM_one ho hr hL (fun KC hKC => ?_)
  have hw : Region.wanted o (yielded ops a.tmps) = true := by simp [Region.wanted, hg]
  rw [if_pos hw]
  refine wp_store_mid T x y hop b off cells.toArray hx hy (by simpa using ht) (by simpa using hi) (by simpa using h1) ?_
  have e : a.put o.dst undef = a := by rw [hd]; rfl
  rw [e]
  exact hKC _ _ h
end
end Go.Proofs.Ytopaofcpjiicmaa

namespace Go.Proofs.Ytopaofcpjiicmaa
open Go.RowKit F256
set_option linter.unusedVariables false
set_option linter.unusedSimpArgs false
theorem el_Raw3 : ElInfo (layRaw 3) 24 29 48 [.string ByteArray.empty, .bool false, .slice none 0 0] := ⟨by decide, rfl, Try.underlying24, by kernel_rfl, by decide⟩
theorem run_from9 (g n cap m : Nat) (hm : m ≤ n) (w : World) : (Instr.slice 24 (.slice (some ⟨g, 0, none⟩) n cap) (some (.int .i64 (m : Int))) none none).run Try.prog w = .ok (.slice (if cap = m then some ⟨g, 0, none⟩ else some ⟨g, m * 3, none⟩) (n - m) (cap - m)) w := by
  have e1 : (m : Int) ≤ (n : Int) := by omega
  by_cases h : cap = m
  · subst h
    simp [Instr.slice, run_underlying Try.underlying24, Instr.sliceBounds, Instr.sliceBound, asIntOf, go_sem, e1, hm]
  · simp [Instr.slice, run_underlying Try.underlying24, Instr.sliceBounds, Instr.sliceBound, asIntOf, go_sem, e1, hm, h]
theorem run_upto9 (g n cap m : Nat) (hm : m ≤ n) (hc : n ≤ cap) (w : World) : (Instr.slice 24 (.slice (some ⟨g, 0, none⟩) n cap) none (some (.int .i64 (m : Int))) none).run Try.prog w = .ok (.slice (some ⟨g, 0, none⟩) m cap) w := by
  have e1 : (m : Int) ≤ (cap : Int) := by omega
  have e2 : m ≤ cap := by omega
  simp [Instr.slice, run_underlying Try.underlying24, Instr.sliceBounds, Instr.sliceBound, asIntOf, go_sem, e1, e2]
theorem run_from0 (w : World) : (Instr.slice 24 (.slice none 0 0) (some (.int .i64 ((0 : Nat) : Int))) none none).run Try.prog w = .ok (.slice none 0 0) w := by
  simp [Instr.slice, run_underlying Try.underlying24, Instr.sliceBounds, Instr.sliceBound, asIntOf, go_sem]
theorem run_upto0 (w : World) : (Instr.slice 24 (.slice none 0 0) none (some (.int .i64 ((0 : Nat) : Int))) none).run Try.prog w = .ok (.slice none 0 0) w := by
  simp [Instr.slice, run_underlying Try.underlying24, Instr.sliceBounds, Instr.sliceBound, asIntOf, go_sem]
section
variable {w : World} {lo hi n : Nat} {v : Value} {x : Nat → List Value} {ce : Nat → List Value}
theorem View.form2 (h : View (layRaw 3) 29 w lo hi v n x ce) : (v = .slice none 0 0 ∧ n = 0) ∨ ∃ g cap, v = .slice (some ⟨g, 0, none⟩) n cap ∧ n ≤ cap ∧ g < w.heap.size := by
  have hlt := fun b hb => (h.row.lt b hb).2
  rcases h.row.2 with hn | ⟨g, cap, cur, rfl, hbg, hgg, hnc, hcm, rest⟩
  · exact .inl hn
  · exact .inr ⟨g, cap, rfl, hnc, hlt g rfl⟩
theorem src_rd {ao : Option Addr} {m c : Nat} {y : Nat → List Value} {cy : Nat → List Value} (hs : Src (layRaw 3) w hi ao m y cy) (hh : hi ≤ w.heap.size) (hm : m ≤ maxLen) (hb : ∀ b off, ao = some ⟨b, off, none⟩ → b < w.heap.size) : ((layRaw 3).slice 29).rd w w.heap.size (m, y) [.slice ao m c] := by
  refine ⟨ao, c, rfl, hm, fun h0 => ?_⟩
  obtain ⟨b, off, e, hc⟩ := hs.1 h0
  exact ⟨b, off, e, hb b off e, fun i hi => ⟨cy i, (layRaw 3).rd_mono (hs.2 i hi) hh, hc i hi⟩⟩
theorem View.from_ (h : View (layRaw 3) 29 w lo hi v n x ce) (hh : hi ≤ w.heap.size) {al : Nat} (ha : al ≤ n) : ∃ ao c, (∀ w', (Instr.slice 24 v (some (.int .i64 (al : Int))) none none).run Try.prog w' = .ok (.slice ao (n - al) c) w') ∧ Src (layRaw 3) w hi ao (n - al) (fun j => x (al + j)) (fun j => ce (al + j)) ∧ ((layRaw 3).slice 29).rd w w.heap.size (n - al, fun j => x (al + j)) [.slice ao (n - al) c] ∧ (ao = none → c = 0 ∨ n - al = 0) := by
  have hl := h.len
  rcases h.form2 with ⟨rfl, rfl⟩ | ⟨g, cap, rfl, hnc, hg⟩
  · obtain rfl : al = 0 := by omega
    have S : Src (layRaw 3) w hi none 0 (fun j => x (0 + j)) (fun j => ce (0 + j)) := ⟨fun h => absurd rfl h, fun j hj => by omega⟩
    exact ⟨none, 0, run_from0, S, src_rd S hh (by omega) (fun b off e => by cases e), fun _ => .inl rfl⟩
  · have S : Src (layRaw 3) w hi (if cap = al then some ⟨g, 0, none⟩ else some ⟨g, al * 3, none⟩) (n - al) (fun j => x (al + j)) (fun j => ce (al + j)) := ⟨fun h0 => by
      rw [if_neg (by omega)]
      refine ⟨g, al * 3, rfl, fun j hj k hk => ?_⟩
      have := h.cell (i := al + j) (by omega) hk
      rw [← this]
      congr 2
      show al * 3 + (j * 3 + k) = (al + j) * 3 + k
      omega, fun j hj => h.each _ (by omega)⟩
    refine ⟨_, _, run_from9 g n cap al ha, S, src_rd S hh (by omega) (fun b off e => ?_), fun e => ?_⟩
    · split at e <;> cases e <;> exact hg
    · split at e <;> cases e
theorem View.upto_ (h : View (layRaw 3) 29 w lo hi v n x ce) (hh : hi ≤ w.heap.size) {al : Nat} (ha : al ≤ n) : ∃ ao c, (∀ w', (Instr.slice 24 v none (some (.int .i64 (al : Int))) none).run Try.prog w' = .ok (.slice ao al c) w') ∧ Src (layRaw 3) w hi ao al x ce ∧ (ao = none → c = 0 ∨ al = 0) := by
  rcases h.form2 with ⟨rfl, rfl⟩ | ⟨g, cap, rfl, hnc, hg⟩
  · obtain rfl : al = 0 := by omega
    exact ⟨none, 0, run_upto0, ⟨fun h => absurd rfl h, fun j hj => by omega⟩, fun _ => .inl rfl⟩
  · exact ⟨_, _, run_upto9 g n cap al ha hnc, ⟨fun h0 => ⟨g, 0, rfl, fun j hj k hk => by rw [Nat.zero_add]; exact h.cell (by omega) hk⟩, fun j hj => h.each _ (by omega)⟩, fun e => by cases e⟩
/-- what can be read as a whole, element by element -/
theorem src_of {ao : Option Addr} {m c : Nat} {y : Nat → List Value} (h : ((layRaw 3).slice 29).rd w hi (m, y) [.slice ao m c]) : ∃ cy, Src (layRaw 3) w hi ao m y cy ∧ (ao = none → c = 0 ∨ m = 0) := by
  obtain ⟨ao', cap', e, hm, hc⟩ := h
  simp only [List.cons.injEq, Value.slice.injEq, true_and, and_true] at e
  obtain ⟨rfl, rfl⟩ := e
  by_cases h0 : m = 0
  · subst h0
    exact ⟨fun _ => [], ⟨fun h => absurd rfl h, fun j hj => by omega⟩, fun _ => .inr rfl⟩
  · obtain ⟨b, off, rfl, hb, hel⟩ := hc h0
    have ch : ∀ i, ∃ ce, i < m → ((layRaw 3).rd w hi (y i) ce ∧ ∀ j, j < (layRaw 3).sz → w.cell? ⟨b, off + (i * (layRaw 3).sz + j), none⟩ = ce[j]?) := fun i => by
      by_cases c : i < m
      · obtain ⟨ce, h1, h2⟩ := hel i c
        exact ⟨ce, fun _ => ⟨h1, h2⟩⟩
      · exact ⟨[], fun h => absurd h c⟩
    obtain ⟨cy, hcy⟩ := Classical.axiomOfChoice ch
    exact ⟨cy, ⟨fun _ => ⟨b, off, rfl, fun j hj => (hcy j hj).2⟩, fun j hj => (hcy j hj).1⟩, fun e => by cases e⟩
end
theorem range_below {w w' : World} {B b o : Nat} {cs : List Value} (h : w.rangeAt b o cs) (hb : Below B w w') (hB : b < B) : w'.rangeAt b o cs := fun j v hv => (hb.cell (p := ⟨b, o + j, none⟩) hB).trans (h j v hv)
theorem Src.below {w w' : World} {B hi : Nat} {ao : Option Addr} {m : Nat} {y : Nat → List Value} {cy : Nat → List Value} (h : Src (layRaw 3) w hi ao m y cy) (hb : Below B w w') (hB : ∀ b off, ao = some ⟨b, off, none⟩ → b < B) (hh : hi ≤ B) : Src (layRaw 3) w' hi ao m y cy :=
  ⟨fun h0 => by
    obtain ⟨b, off, e, hc⟩ := h.1 h0
    exact ⟨b, off, e, fun j hj k hk => (hb.cell (p := ⟨b, off + (j * (layRaw 3).sz + k), none⟩) (hB b off e)).trans (hc j hj k hk)⟩, fun j hj => (layRaw 3).rd_below (h.2 j hj) hb hh⟩
theorem ins_up {D U : World} {lo hi m : Nat} {ao : Option Addr} {c : Nat} {y : Nat → List Value} {cy : Nat → List Value} {v0 : Value} {x' : Nat → List Value} {ce : Nat → List Value} (hS : Src (layRaw 3) D hi ao m y cy) (hz : ao = none → c = 0 ∨ m = 0) (hA : ∀ b off, ao = some ⟨b, off, none⟩ → b < D.heap.size) (hb : Below D.heap.size D U) (hh : hi ≤ D.heap.size) (hm : m ≤ 1100000)
    (V : View (layRaw 3) 29 U D.heap.size hi v0 0 x' ce) : ∃ v' w' ce', (Builtin.append_ #[24, 24] 24 #[v0, .slice ao m c]).run Try.prog U = .ok v' w' ∧ View (layRaw 3) 29 w' D.heap.size hi v' m y ce' ∧ Below D.heap.size U w' := by
  obtain ⟨v', w', hrun, V', _, b'⟩ := run_appendV el_Raw3 rdOne_raw3 24 V c (hS.below hb hA hh) hb.size hh (by omega) hz
  refine ⟨v', w', cat2 ce 0 cy, hrun, ?_, b'⟩
  rw [Nat.zero_add] at V'
  exact V'.congr (fun i hi => by unfold cat2; rw [if_neg (by omega)]; rfl)
theorem View.weakL {w : World} {lo lo' hi n : Nat} {v : Value} {x : Nat → List Value} {ce : Nat → List Value} (h : View (layRaw 3) 29 w lo hi v n x ce) (hl : lo' ≤ lo) : View (layRaw 3) 29 w lo' hi v n x ce := ⟨⟨h.row.1, by
  rcases h.row.2 with hn | ⟨g, cap, cur, rfl, hbg, rest⟩
  · exact .inl hn
  · exact .inr ⟨g, cap, cur, rfl, Nat.le_trans hl hbg, rest⟩⟩, h.each⟩
/-- the same, another block of the call's own left as it is -/
theorem ins_up4 {D U : World} {hi m g : Nat} {ao : Option Addr} {c : Nat} {y : Nat → List Value} {cy : Nat → List Value} {v0 : Value} {x' : Nat → List Value} {ce : Nat → List Value} {cR : List Value} (hS : Src (layRaw 3) D hi ao m y cy) (hz : ao = none → c = 0 ∨ m = 0) (hA : ∀ b off, ao = some ⟨b, off, none⟩ → b < D.heap.size) (hb : Below D.heap.size D U) (hh : hi ≤ D.heap.size) (hm : m ≤ 1100000)
    (V : View (layRaw 3) 29 U D.heap.size hi v0 0 x' ce) (hX : Box U g cR.toArray 29) (hg : v0.ownBlock ≠ some g) : ∃ v' w' ce', (Builtin.append_ #[24, 24] 24 #[v0, .slice ao m c]).run Try.prog U = .ok v' w' ∧ (View (layRaw 3) 29 w' D.heap.size hi v' m y ce' ∧ Box w' g cR.toArray 29) ∧ Below D.heap.size U w' := by
  obtain ⟨v', w', hrun, V', hgr, b'⟩ := run_appendV el_Raw3 rdOne_raw3 24 V c (hS.below hb hA hh) hb.size hh (by omega) hz
  refine ⟨v', w', cat2 ce 0 cy, hrun, ⟨?_, ?_⟩, b'⟩
  · rw [Nat.zero_add] at V'
    exact V'.congr (fun i hi => by unfold cat2; rw [if_neg (by omega)]; rfl)
  · exact (hgr.block g hX.lt (fun h => hg h.symm)).trans hX
theorem ins_one {D U : World} {hi m g : Nat} {v : Value} {x : Nat → List Value} {ce : Nat → List Value} {r : List Value} {cR : List Value} (hb : Below D.heap.size D U) (hh : hi ≤ D.heap.size) (hm : m ≤ 1100000) (V : View (layRaw 3) 29 U D.heap.size hi v m x ce) (hX : Box U g cR.toArray 29) (hr : (layRaw 3).rd U hi r cR) :
    ∃ v' w' ce', (Builtin.append_ #[24, 24] 24 #[v, .slice (some ⟨g, 0, none⟩) 1 1]).run Try.prog U = .ok v' w' ∧ View (layRaw 3) 29 w' D.heap.size hi v' (m + 1) (cat2 x m (fun _ => r)) ce' ∧ Below D.heap.size U w' := by
  obtain ⟨v', w', hrun, V', _, b'⟩ := run_appendV el_Raw3 rdOne_raw3 24 V 1 (src_one (b := g) (hi := hi) (y := r) (cs := cR) (fun j hj => by rw [hX.cell j]; simp) hr) hb.size hh (by omega) (fun h => by cases h)
  exact ⟨v', w', _, hrun, V', b'⟩
theorem ins_rest {D U : World} {hi m k : Nat} {ao : Option Addr} {c : Nat} {y : Nat → List Value} {cy : Nat → List Value} {v : Value} {x : Nat → List Value} {ce : Nat → List Value} (hS : Src (layRaw 3) D hi ao k y cy) (hz : ao = none → c = 0 ∨ k = 0) (hA : ∀ b off, ao = some ⟨b, off, none⟩ → b < D.heap.size) (hb : Below D.heap.size D U) (hh : hi ≤ D.heap.size) (hm : m + k ≤ 2200000)
    (V : View (layRaw 3) 29 U D.heap.size hi v m x ce) : ∃ v' w' ce', (Builtin.append_ #[24, 24] 24 #[v, .slice ao k c]).run Try.prog U = .ok v' w' ∧ View (layRaw 3) 29 w' D.heap.size hi v' (m + k) (cat2 x m y) ce' ∧ Below D.heap.size U w' := by
  obtain ⟨v', w', hrun, V', _, b'⟩ := run_appendV el_Raw3 rdOne_raw3 24 V c (hS.below hb hA hh) hb.size hh (by omega) hz
  exact ⟨v', w', _, hrun, V', b'⟩
theorem mixedO : Try.prog.follows Departure.mixedOrders = true := by kernel_rfl
section
variable {P : Program} {ops : Array Oper} {Q : Exit → Act → World → Prop} {md : Region.Mode} {S : World → Prop} {L : Nat}
/-- one operation alone may come up, ahead of L -/
theorem wpAnyM_oneS {i : Nat} {o : Oper} {fuel : Nat} {listed : Array Bool} {a : Act} {w : World} (ho : ops[i]? = some o) (hr : Region.ready md ops listed = [i])
    (h : ∀ K' : Act → World → Prop, Shut (∀ a w, S w → wpAnyM P md ops Q S L fuel (listed.setIfInBounds i true) a w → K' a w) → if Region.wanted o (yielded ops a.tmps) = true then Oper.wp P o a w K' Q else K' (a.put o.dst undef) w) : wpAnyM P md ops Q S L (fuel + 1) listed a w := by
  refine ⟨fun h0 => (by rw [hr] at h0; cases h0), fun j hj => ?_⟩
  rw [hr] at hj
  obtain rfl : j = i := by simpa using hj
  exact wpOp_step ho (fun K' hK => h K' (fun a w hS hW => hK a w ⟨fun _ => hS, hW⟩))
/-- one of two may come up, ahead of L -/
theorem wpAnyM_twoS {i j : Nat} {o o' : Oper} {fuel : Nat} {listed : Array Bool} {a : Act} {w : World} (ho : ops[i]? = some o) (ho' : ops[j]? = some o') (hr : Region.ready md ops listed = [i, j])
    (h : ∀ K' : Act → World → Prop, Shut (∀ a w, S w → wpAnyM P md ops Q S L fuel (listed.setIfInBounds i true) a w → K' a w) → if Region.wanted o (yielded ops a.tmps) = true then Oper.wp P o a w K' Q else K' (a.put o.dst undef) w)
    (h' : ∀ K' : Act → World → Prop, Shut (∀ a w, S w → wpAnyM P md ops Q S L fuel (listed.setIfInBounds j true) a w → K' a w) → if Region.wanted o' (yielded ops a.tmps) = true then Oper.wp P o' a w K' Q else K' (a.put o'.dst undef) w) : wpAnyM P md ops Q S L (fuel + 1) listed a w := by
  refine ⟨fun h0 => (by rw [hr] at h0; cases h0), fun k hk => ?_⟩
  rw [hr] at hk
  simp only [List.mem_cons, List.not_mem_nil, or_false] at hk
  rcases hk with rfl | rfl
  · exact wpOp_step ho (fun K' hK => h K' (fun a w hS hW => hK a w ⟨fun _ => hS, hW⟩))
  · exact wpOp_step ho' (fun K' hK => h' K' (fun a w hS hW => hK a w ⟨fun _ => hS, hW⟩))
end
theorem step_build0 {ops : Array Oper} {o : Oper} {a : Act} {W : World} {K : Act → World → Prop} {Q : Exit → Act → World → Prop} {F : Prop} (hg : o.guard = none) (hop : o.op = Op.buildSlice 24 0 #[])
    (hK : K (a.put o.dst (.slice (some ⟨W.heap.size, 0, none⟩) 0 0)) (W.alloc (.cells #[] 29))) : if Region.wanted o (yielded ops a.tmps) = true then Oper.wp Try.prog o a W K Q else F := by
  have hw : Region.wanted o (yielded ops a.tmps) = true := by simp [Region.wanted, hg]
  rw [if_pos hw]
  unfold Oper.wp execOp
  simp only [hop]
  go_simp
  exact hK
theorem step_build1T {ops : Array Oper} {o : Oper} {a : Act} {W : World} {K : Act → World → Prop} {Q : Exit → Act → World → Prop} {F : Prop} (hg : o.guard = none) (x : Operand) (hop : o.op = Op.buildSlice 24 1 #[(0, x)]) (s : ByteArray) (l : Bool) (b : Option Addr) (m c : Nat) (hx : a.eval x = .agg #[.string s, .bool l, .slice b m c])
    (hK : K (a.put o.dst (.slice (some ⟨W.heap.size, 0, none⟩) 1 1)) (W.alloc (.cells #[.string s, .bool l, .slice b m c] 29))) : if Region.wanted o (yielded ops a.tmps) = true then Oper.wp Try.prog o a W K Q else F := by
  have hw : Region.wanted o (yielded ops a.tmps) = true := by simp [Region.wanted, hg]
  rw [if_pos hw]
  unfold Oper.wp execOp
  simp only [hop, List.map_toArray, List.map_cons, List.map_nil, hx]
  go_simp
  exact hK
/-- a laid into the place i -/
def insF {β : Type} (f : Nat → β) (i : Nat) (a : β) : Nat → β := fun k => if k < i then f k else if k = i then a else f (k - 1)
theorem insF_lt {β : Type} (f : Nat → β) {i k : Nat} (a : β) (h : k < i) : insF f i a k = f k := if_pos h
theorem insF_at {β : Type} (f : Nat → β) (i : Nat) (a : β) : insF f i a i = a := by unfold insF; rw [if_neg (by omega), if_pos rfl]
theorem insF_gt {β : Type} (f : Nat → β) (i : Nat) (a : β) (k : Nat) : insF f i a (i + 1 + k) = f (i + k) := by
  unfold insF
  rw [if_neg (by omega), if_neg (by omega), show i + 1 + k - 1 = i + k by omega]
theorem insF_cat2 {β : Type} (f : Nat → β) (i : Nat) (a : β) (k : Nat) : cat2 (cat2 f i (fun _ => a)) (i + 1) (fun j => f (i + j)) k = insF f i a k := by
  by_cases c1 : k < i
  · rw [cat2_lt _ _ (by omega), cat2_lt _ _ c1, insF_lt f a c1]
  · by_cases c2 : k = i
    · subst c2
      have e := cat2_ge f k (fun _ => a) 0
      rw [Nat.add_zero] at e
      rw [cat2_lt _ _ (by omega), e, insF_at]
    · obtain ⟨j, rfl⟩ : ∃ j, k = i + 1 + j := ⟨k - (i + 1), by omega⟩
      rw [cat2_ge, insF_gt]
theorem catN_split {β : Type} (f : Nat → List β) (a : Nat) : ∀ b, catN (a + b) f = catN a f ++ catN b (fun k => f (a + k))
  | 0 => by simp [catN_zero]
  | b + 1 => by rw [← Nat.add_assoc, catN_succ, catN_split f a b, catN_succ, List.append_assoc]
theorem catN_insF {β : Type} (f : Nat → List β) {n i : Nat} (a : List β) (h : i ≤ n) : catN (n + 1) (insF f i a) = catN i f ++ (a ++ catN (n - i) (fun k => f (i + k))) := by
  have e : n + 1 = i + (1 + (n - i)) := by omega
  rw [e, catN_split, catN_split, catN_congr (g := f) (fun k hk => insF_lt f a hk)]
  congr 1
  have e1 : catN 1 (fun k => insF f i a (i + k)) = a := by
    rw [show (1 : Nat) = 0 + 1 from rfl, catN_succ, catN_zero, List.nil_append, Nat.add_zero, insF_at]
  rw [e1]
  congr 1
  exact catN_congr (fun k _ => by show insF f i a (i + (1 + k)) = _; rw [← Nat.add_assoc, insF_gt])
/-- a thing of its own laid into its place among owned ones -/
theorem own_ins {w w' : World} {n i : Nat} {x : Nat → ThingD} {ce : Nat → List Value} {Ls : Nat → List Nat} {v' : Value} {t : ThingD} {ct : List Value} {K : List Nat}
    (he : ∀ k, k < n → layThing.own w (x k) (ce k) (Ls k)) (nd : (catN n Ls).Nodup) (ht : layThing.own w' t ct K) (ndK : K.Nodup) (hK : ∀ b, b ∈ K → b ∉ catN n Ls) (hv : ∀ b, v'.ownBlock = some b → b ∉ catN n Ls ∧ b ∉ K)
    (hr : w'.ownsRow 0 29 3 v' (n + 1) (catN (n + 1) (insF ce i ct))) (hk : ∀ b, b ∈ catN n Ls → w'.heap[b]? = w.heap[b]?) (hi : i ≤ n) :
    (layThing.slice 29).own w' (n + 1, insF x i t) [v'] (v'.ownBlock.toList ++ catN (n + 1) (insF Ls i K)) ∧ (v'.ownBlock.toList ++ catN (n + 1) (insF Ls i K)).Nodup ∧ ∀ b, b ∈ catN (n + 1) (insF Ls i K) → b ∈ catN n Ls ∨ b ∈ K := by
  have key : ∀ k, k < n + 1 → (k < i) ∨ k = i ∨ ∃ j, k = i + 1 + j ∧ i + j < n := fun k hk => by
    by_cases c1 : k < i
    · exact .inl c1
    · by_cases c2 : k = i
      · exact .inr (.inl c2)
      · exact .inr (.inr ⟨k - (i + 1), by omega, by omega⟩)
  have mem : ∀ b, b ∈ catN (n + 1) (insF Ls i K) → b ∈ catN n Ls ∨ b ∈ K := fun b hb => by
    obtain ⟨k, hk1, hb⟩ := mem_catN.1 hb
    rcases key k hk1 with c | c | ⟨j, c, hj⟩
    · rw [insF_lt Ls K c] at hb
      exact .inl (mem_catN.2 ⟨k, by omega, hb⟩)
    · rw [c, insF_at] at hb
      exact .inr hb
    · rw [c, insF_gt] at hb
      exact .inl (mem_catN.2 ⟨i + j, hj, hb⟩)
  refine ⟨⟨v', insF ce i ct, insF Ls i K, rfl, rfl, hr, fun k hk1 => ?_⟩, ?_, mem⟩
  · show layThing.own w' (insF x i t k) (insF ce i ct k) (insF Ls i K k)
    rcases key k hk1 with c | c | ⟨j, c, hj⟩
    · rw [insF_lt x t c, insF_lt ce ct c, insF_lt Ls K c]
      exact layThing.own_kept (he k (by omega)) (fun b hb => hk b (mem_catN.2 ⟨k, by omega, hb⟩))
    · rw [c, insF_at, insF_at, insF_at]
      exact ht
    · rw [c, insF_gt, insF_gt, insF_gt]
      exact layThing.own_kept (he _ hj) (fun b hb => hk b (mem_catN.2 ⟨_, hj, hb⟩))
  · refine List.nodup_append.2 ⟨by cases v'.ownBlock <;> simp, catN_nodup (fun k hk1 => ?_) (fun k m hk1 hm hne b hb hb2 => ?_), fun a ha b hb hab => ?_⟩
    · rcases key k hk1 with c | c | ⟨j, c, hj⟩
      · rw [insF_lt Ls K c]; exact catN_each nd (by omega)
      · rw [c, insF_at]; exact ndK
      · rw [c, insF_gt]; exact catN_each nd hj
    · rcases key k hk1 with c | c | ⟨j, c, hj⟩ <;> rcases key m hm with c' | c' | ⟨j', c', hj'⟩
      · rw [insF_lt Ls K c] at hb; rw [insF_lt Ls K c'] at hb2
        exact cat_apart nd (i := m) (k := k) (by omega) (by omega) hne hb hb2
      · rw [insF_lt Ls K c] at hb; rw [c', insF_at] at hb2
        exact hK b hb2 (mem_catN.2 ⟨k, by omega, hb⟩)
      · rw [insF_lt Ls K c] at hb; rw [c', insF_gt] at hb2
        exact cat_apart nd (i := i + j') (k := k) hj' (by omega) (by omega) hb hb2
      · rw [c, insF_at] at hb; rw [insF_lt Ls K c'] at hb2
        exact hK b hb (mem_catN.2 ⟨m, by omega, hb2⟩)
      · omega
      · rw [c, insF_at] at hb; rw [c', insF_gt] at hb2
        exact hK b hb (mem_catN.2 ⟨_, hj', hb2⟩)
      · rw [c, insF_gt] at hb; rw [insF_lt Ls K c'] at hb2
        exact cat_apart nd (i := m) (k := i + j) (by omega) hj (by omega) hb hb2
      · rw [c, insF_gt] at hb; rw [c', insF_at] at hb2
        exact hK b hb2 (mem_catN.2 ⟨_, hj, hb⟩)
      · rw [c, insF_gt] at hb; rw [c', insF_gt] at hb2
        exact cat_apart nd (i := i + j') (k := i + j) hj' hj (by omega) hb hb2
    · subst hab
      have ha' : v'.ownBlock = some a := by simpa using ha
      rcases mem a hb with h1 | h1
      · exact (hv a ha').1 h1
      · exact (hv a ha').2 h1
/-- where a name is to stand -/
def leS (a b : ByteArray) : Bool := Op.bytesLess a.toList b.toList || a.toList == b.toList
structure AtP (n : Nat) (x : Nat → ThingD) (bn : ByteArray) (i : Nat) : Prop where
  le : i ≤ n
  ahead : ∀ t, t < i → leS (x t).name bn = true
  here : i < n → leS (x i).name bn = false
theorem at_ex (n : Nat) (x : Nat → ThingD) (bn : ByteArray) : ∃ i, AtP n x bn i := by
  induction n with
  | zero => exact ⟨0, by omega, fun t ht => by omega, fun h => by omega⟩
  | succ n ih =>
    obtain ⟨i, h⟩ := ih
    by_cases c : i < n
    · exact ⟨i, by omega, h.ahead, fun _ => h.here c⟩
    · obtain rfl : i = n := by have := h.le; omega
      cases hl : leS (x i).name bn with
      | false => exact ⟨i, by omega, h.ahead, fun _ => hl⟩
      | true => exact ⟨i + 1, by omega, fun t ht => by
          by_cases c : t = i
          · rw [c]; exact hl
          · exact h.ahead t (by omega), fun h => by omega⟩
theorem AtP.one {n : Nat} {x : Nat → ThingD} {bn : ByteArray} {i j : Nat} (h : AtP n x bn i) (g : AtP n x bn j) : i = j := by
  rcases Nat.lt_trichotomy i j with c | c | c
  · have h1 := h.here (by have := g.le; omega); have h2 := g.ahead i c; rw [h1] at h2; cases h2
  · exact c
  · have h1 := g.here (by have := h.le; omega); have h2 := h.ahead j c; rw [h1] at h2; cases h2
end Go.Proofs.Ytopaofcpjiicmaa

namespace Go.Proofs.Ytopaofcpjiicmaa
open Go.RowKit F256
set_option linter.unusedVariables false
set_option linter.unusedSimpArgs false
set_option maxHeartbeats 8000000 in
set_option maxRecDepth 20000 in
theorem same1_any (a b : ThingD) (c1 c2 : List Value) (h1 h2 : Nat) (w : World) (r1 : layThing.rd w h1 a c1) (r2 : layThing.rd w h2 b c2) (u1 : h1 ≤ w.heap.size) (u2 : h2 ≤ w.heap.size) :
    Calls Try.prog 24 #[.agg c1.toArray, .agg c2.toArray] w (BoolP (SameT a b) w) := by
  obtain ⟨xo, xc, rfl, p2, -⟩ := Thing_rd r1
  obtain ⟨yo, yc, rfl, q2, -⟩ := Thing_rd r2
  obtain ⟨_, e, p2, _⟩ := p2
  cases e
  obtain ⟨_, e, q2, _⟩ := q2
  cases e
  clear r1 r2
  have T0 := two_newb w #[.string a.name, .bool a.lost, .slice xo a.bytes.1 xc] #[.string b.name, .bool b.lost, .slice yo b.bytes.1 yc] 29 29
  have HT0 : Hid (Two w ((w.alloc (.cells #[.string a.name, .bool a.lost, .slice xo a.bytes.1 xc] 29)).alloc (.cells #[.string b.name, .bool b.lost, .slice yo b.bytes.1 yc] 29)) #[.string a.name, .bool a.lost, .slice xo a.bytes.1 xc] #[.string b.name, .bool b.lost, .slice yo b.bytes.1 yc] 29 29) := T0
  obtain ⟨e2, he2⟩ : ∃ t, (a.name.toList == b.name.toList) = t := ⟨_, rfl⟩
  have HE2 : Hid (e2 = true ↔ a.name = b.name) := by show _ ↔ _; rw [← he2, beq_iff_eq]; exact toList_inj
  have he2' : decide (a.name.toList = b.name.toList) = e2 := by rw [← he2, Bool.eq_iff_iff]; simp
  obtain ⟨e1, he1⟩ : ∃ t, (a.lost == b.lost) = t := ⟨_, rfl⟩
  have HE1 : Hid (e1 = true ↔ a.lost = b.lost) := by show _ ↔ _; rw [← he1]; exact beq_iff_eq
  obtain ⟨t7, ht7⟩ := exB (SameP a.bytes.1 b.bytes.1 a.bytes.2 b.bytes.2)
  have C7 := fun (w' : World) (hb : Below w.heap.size w w') => det_b (equalB_any _ _ a.bytes.1 b.bytes.1 a.bytes.2 b.bytes.2 h1 h2 w' (p2.below hb u1) (q2.below hb u2)) ht7
  have HT7 : Hid (t7 = true ↔ SameP a.bytes.1 b.bytes.1 a.bytes.2 b.bytes.2) := ht7
  clear p2 q2 ht7 T0
  go_enter Try.func24, Try.ntmps24
  cases e2 with
  | false =>
    go_wp2
    go_ret
    exact boolNo rfl (fun h => by have := HE2.out.2 h.name; simp at this) HT0.out.bel
  | true =>
  cases e1 with
  | false =>
    go_wp2
    go_ret
    exact boolNo rfl (fun h => by have := HE1.out.2 h.lost; simp at this) HT0.out.bel
  | true =>
  go_wp2_with fail
  refine (C7 _ HT0.out.bel).mono ?_
  rintro e w7 ⟨rfl, b7⟩
  have HB : Hid (Below w.heap.size w w7) := (HT0.out.call b7).bel
  clear b7
  go_wp2
  go_ret
  exact ⟨t7, rfl, ⟨fun h => ⟨HE2.out.1 (by simp), HE1.out.1 (by simp), HT7.out.1 h⟩, fun h => HT7.out.2 h.bytes⟩, HB.out⟩
set_option maxHeartbeats 8000000 in
set_option maxRecDepth 20000 in
theorem equalFunc_any (p q : Nat × (Nat → ThingD)) (v1 v2 : Value) (h1 h2 : Nat) (w : World) (r1 : (layThing.slice 29).rd w h1 p [v1]) (r2 : (layThing.slice 29).rd w h2 q [v2]) (u1 : h1 ≤ w.heap.size) (u2 : h2 ≤ w.heap.size) :
    Calls Try.prog 23 #[v1, v2, .func (.func 24) #[] #[]] w (BoolP (SameTs p q) w) := by
  obtain ⟨n, x⟩ := p
  obtain ⟨m, y⟩ := q
  obtain ⟨ao, cap, hv, hm, hc⟩ := r1
  cases hv
  obtain ⟨ao', cap', hv', hm', hc'⟩ := r2
  cases hv'
  simp only at hm hc hm' hc'
  unfold maxLen at hm hm'
  have HC : Hid (n ≠ 0 → ∃ b off, ao = some ⟨b, off, none⟩ ∧ b < h1 ∧ ∀ i, i < n → ∃ ce, layThing.rd w h1 (x i) ce ∧ ∀ j, j < layThing.sz → w.cell? ⟨b, off + (i * layThing.sz + j), none⟩ = ce[j]?) := hc
  have HC' : Hid (m ≠ 0 → ∃ b off, ao' = some ⟨b, off, none⟩ ∧ b < h2 ∧ ∀ i, i < m → ∃ ce, layThing.rd w h2 (y i) ce ∧ ∀ j, j < layThing.sz → w.cell? ⟨b, off + (i * layThing.sz + j), none⟩ = ce[j]?) := hc'
  clear hc hc'
  go_enter Try.func23, Try.ntmps23
  by_cases hnm : ¬ n = m
  · have hne : decide ((n : Int) = (m : Int)) = false := decide_eq_false (by omega)
    have hne2 : ((n : Int) != (m : Int)) = true := by simp; omega
    have HN : Hid (¬ n = m) := hnm
    clear hnm
    go_wp2
    go_ret
    exact boolNo rfl (fun h => HN.out h.len) (Below.refl _ _)
  obtain rfl : n = m := Classical.not_not.1 hnm
  clear hnm
  go_wp2
  go_loopw [17] (fun z wr => ∃ k : Nat, k ≤ n ∧ z = .int .i64 k ∧ (∀ t, t < k → SameT (x t) (y t)) ∧ Below w.heap.size w wr) (fun z _ => n - (intOf z).toNat)
  case atStart => exact ⟨0, Nat.zero_le _, rfl, fun t ht => by omega, Below.refl _ _⟩
  case round =>
    obtain ⟨k, hk, rfl, hall, hbl⟩ := hrel
    obtain ⟨wx, rfl⟩ : ∃ y, y = wr := ⟨_, rfl⟩
    have HALL : Hid (∀ t, t < k → SameT (x t) (y t)) := hall
    have HBL : Hid (Below w.heap.size w wx) := hbl
    have zx := hbl.size
    clear hall
    by_cases hlt : k < n
    · obtain ⟨b, off, rfl, hblt, hel⟩ := HC.out (by omega)
      obtain ⟨b', off', rfl, hblt', hel'⟩ := HC'.out (by omega)
      obtain ⟨ck, hrk, hcell⟩ := elem_rd (t := 0) hel hbl u1 hblt hlt
      obtain ⟨ck', hrk', hcell'⟩ := elem_rd (t := 0) hel' hbl u2 hblt' hlt
      obtain ⟨ao2, cap2, rfl, -⟩ := Thing_rd hrk
      obtain ⟨bo2, bcap2, rfl, -⟩ := Thing_rd hrk'
      have c0 : wx.cell? ⟨b, off + k * 3, none⟩ = some (.string (x k).name) := hcell 0 (by decide)
      have c1 : wx.cell? ⟨b, off + k * 3 + 1, none⟩ = some (.bool (x k).lost) := hcell 1 (by decide)
      have c2 : wx.cell? ⟨b, off + k * 3 + 2, none⟩ = some (.slice ao2 (x k).bytes.1 cap2) := hcell 2 (by decide)
      have e0 : wx.cell? ⟨b', off' + k * 3, none⟩ = some (.string (y k).name) := hcell' 0 (by decide)
      have e1 : wx.cell? ⟨b', off' + k * 3 + 1, none⟩ = some (.bool (y k).lost) := hcell' 1 (by decide)
      have e2 : wx.cell? ⟨b', off' + k * 3 + 2, none⟩ = some (.slice bo2 (y k).bytes.1 bcap2) := hcell' 2 (by decide)
      have hb1 : b < wx.heap.size := by omega
      have hb2 : b' < wx.heap.size := by omega
      obtain ⟨t, ht⟩ := exB (SameT (x k) (y k))
      have CS := fun (w' : World) (hb : Below wx.heap.size wx w') => det_b (same1_any (x k) (y k) _ _ h1 h2 w' (layThing.rd_below hrk hb (by omega)) (layThing.rd_below hrk' hb (by omega)) (Nat.le_trans (by omega) hb.size) (Nat.le_trans (by omega) hb.size)) ht
      have HT : Hid (t = true ↔ SameT (x k) (y k)) := ht
      clear hbl hel hel' hcell hcell' hrk hrk' ht
      have i1 : (0 : Int) ≤ (k : Int) := by omega
      have i2 : (k : Int) < (n : Int) := by omega
      go_wp2_with fail
      refine (CS _ (((Below.refl _ _).alloc (Nat.le_refl _) _).alloc (by simp) _)).mono ?_
      rintro e w5 ⟨rfl, b5⟩
      have HB5 : Hid (Below w.heap.size w w5) := HBL.out.trans ((((Below.refl wx.heap.size wx).alloc (Nat.le_refl _) _).alloc (by simp) _ |>.trans (b5.mono (by simp; omega))).mono zx)
      clear b5 CS c0 c1 c2 e0 e1 e2
      cases t with
      | false =>
        go_wp2
        go_ret
        exact boolNo rfl (fun h => by have := HT.out.2 (h.each k hlt); simp at this) HB5.out
      | true =>
        go_wp2
        go_roundw
        case rel => exact ⟨k + 1, by omega, by go_num, fun t ht => by
                      by_cases c : t = k
                      · rw [c]; exact HT.out.1 (by simp)
                      · exact HALL.out t (by omega), HB5.out⟩
        case measure => simp [intOf]; omega
    · obtain rfl : k = n := by omega
      clear hbl
      go_wp2
      go_ret
      exact boolYes rfl ⟨rfl, HALL.out⟩ HBL.out
set_option maxHeartbeats 8000000 in
set_option maxRecDepth 20000 in
theorem implSameTs_any (p q : Nat × (Nat → ThingD)) (v1 v2 : Value) (h1 h2 : Nat) (w : World) (r1 : (layThing.slice 29).rd w h1 p [v1]) (r2 : (layThing.slice 29).rd w h2 q [v2]) (u1 : h1 ≤ w.heap.size) (u2 : h2 ≤ w.heap.size) :
    Calls Try.prog 9 #[v1, v2] w (BoolP (SameTs p q) w) := by
  have CE := equalFunc_any p q v1 v2 h1 h2 w r1 r2 u1 u2
  obtain ⟨P, hP⟩ : ∃ P, P = SameTs p q := ⟨_, rfl⟩
  rw [← hP] at CE ⊢
  obtain ⟨n, x⟩ := p
  obtain ⟨m, y⟩ := q
  obtain ⟨ao, cap, hv, -⟩ := r1
  cases hv
  obtain ⟨ao', cap', hv', -⟩ := r2
  cases hv'
  clear hP
  go_enter Try.func9, Try.ntmps9
  go_wp2_with fail
  refine CE.mono ?_
  rintro e w1 ⟨t, rfl, ht, b1⟩
  have HT : Hid (t = true ↔ P) := ht
  clear ht
  go_wp2
  go_ret
  exact ⟨t, rfl, HT.out, b1⟩
end Go.Proofs.Ytopaofcpjiicmaa

namespace Go.Proofs.Ytopaofcpjiicmaa
open Go.RowKit F256
set_option linter.unusedVariables false
set_option linter.unusedSimpArgs false
def keepT (b : ByteArray) (t : ThingD) : Bool := !(t.name.toList == b.toList)
/-- the things of another name -/
def dropL (p : Nat × (Nat → ThingD)) (b : ByteArray) : Nat × (Nat → ThingD) := ((keptI (fun i => keepT b (p.2 i)) p.1).length, fun m => p.2 (selF (fun i => keepT b (p.2 i)) p.1 m))
theorem sel_next {β : Type} (p : Nat → Bool) (x : Nat → β) {k : Nat} (h : p k = true) (i : Nat) (hi : i < (keptI p k).length + 1) : upd (fun m => x (selF p k m)) (keptI p k).length (x k) i = x (selF p (k + 1) i) := by
  by_cases c : i = (keptI p k).length
  · subst c
    rw [upd_at, selF_last h]
  · rw [upd_ne _ _ c, selF_more (by omega)]
set_option maxHeartbeats 8000000 in
set_option maxRecDepth 20000 in
theorem specDrop_any (p : Nat × (Nat → ThingD)) (bn : ByteArray) (v : Value) (hi : Nat) (w : World) (h : (layThing.slice 29).rd w hi p [v]) (hhi : hi ≤ w.heap.size) (hn : szSl szThingD p ≤ 1048576) :
    Calls Try.prog 31 #[v, .string bn] w fun e w' => ∃ v', e = .returned v' ∧ OwnT (layThing.slice 29) w' w.heap.size w'.heap.size (dropL p bn) [v'] ∧ Below w.heap.size w w' := by
  obtain ⟨n, x⟩ := p
  obtain ⟨ao, cap, hv, hm, hc⟩ := h
  cases hv
  have hn1 := szSl_n hn
  have hn2 : ∀ i, i < n → szThingD (x i) ≤ 1048576 := fun i hi => szSl_at hn hi
  simp only at hn1 hm hc
  have HC : Hid (n ≠ 0 → ∃ b off, ao = some ⟨b, off, none⟩ ∧ b < hi ∧ ∀ i, i < n → ∃ ce, layThing.rd w hi (x i) ce ∧ ∀ j, j < layThing.sz → w.cell? ⟨b, off + (i * layThing.sz + j), none⟩ = ce[j]?) := hc
  clear hn hc
  go_enter Try.func31, Try.ntmps31
  go_wp2
  go_loopw [5, 6] (fun v i wr => ∃ (k : Nat) (ao' : Option Addr) (cap' : Nat), k ≤ n ∧ i = .int .i64 k ∧ v = .slice ao' (keptI (fun i => keepT bn (x i)) k).length cap' ∧ Gat layThing 29 wr w.heap.size (.slice ao' (keptI (fun i => keepT bn (x i)) k).length cap') (keptI (fun i => keepT bn (x i)) k).length (fun m => x (selF (fun i => keepT bn (x i)) k m)) ∧ Below w.heap.size w wr) (fun _ i _ => n - (intOf i).toNat)
  case atStart => exact ⟨0, _, _, Nat.zero_le _, rfl, rfl, gat_lit0 _ _, (Below.refl _ _).alloc (Nat.le_refl _) _⟩
  case round =>
    obtain ⟨k, ao', cap', hk, rfl, rfl, G, hb⟩ := hrel
    obtain ⟨wo, rfl⟩ : ∃ y, y = wr := ⟨_, rfl⟩
    have HB : Hid (Below w.heap.size w wo) := hb
    have zo : w.heap.size ≤ wo.heap.size := hb.size
    have hq1 : (keptI (fun i => keepT bn (x i)) k).length ≤ k := kept_le _ _
    obtain ⟨q, hq⟩ : ∃ q, q = (keptI (fun i => keepT bn (x i)) k).length := ⟨_, rfl⟩
    rw [← hq] at G hq1
    have HQ : Hid (q = (keptI (fun i => keepT bn (x i)) k).length) := hq
    rw [← hq]
    have HG : Hid (Gat layThing 29 wo w.heap.size (.slice ao' q cap') q (fun m => x (selF (fun i => keepT bn (x i)) k m))) := G
    clear G hq
    by_cases hlt : k < n
    · obtain ⟨b, off, he, hblt, hel⟩ := HC.out (by omega)
      subst he
      obtain ⟨ck, hrk, hcell⟩ := elem_rd (t := 0) hel hb hhi hblt hlt
      obtain ⟨ao2, cap2, rfl, -⟩ := Thing_rd hrk
      have c0 : wo.cell? ⟨b, off + k * 3, none⟩ = some (.string (x k).name) := hcell 0 (by decide)
      have c1 : wo.cell? ⟨b, off + k * 3 + 1, none⟩ = some (.bool (x k).lost) := hcell 1 (by decide)
      have c2 : wo.cell? ⟨b, off + k * 3 + 2, none⟩ = some (.slice ao2 (x k).bytes.1 cap2) := hcell 2 (by decide)
      have CC := l13Copy_is _ (x k) hi wo hrk (Nat.le_trans hhi zo) (hn2 k hlt)
      clear hel hcell hrk hb
      have i1 : (0 : Int) ≤ (k : Int) := by omega
      have i2 : (k : Int) < (n : Int) := by omega
      obtain ⟨en, hen⟩ : ∃ t, ((x k).name.toList == bn.toList) = t := ⟨_, rfl⟩
      have HP : Hid ((fun i => keepT bn (x i)) k = !en) := by show (!((x k).name.toList == bn.toList)) = !en; rw [hen]
      have hen' : decide ((x k).name.toList = bn.toList) = en := by rw [← hen, Bool.eq_iff_iff]; simp
      have hen2 : ((x k).name.toList != bn.toList) = !en := by rw [← hen]; rfl
      cases en with
      | true =>
        have HK : Hid ((keptI (fun i => keepT bn (x i)) (k + 1)).length = q) := by show _ = _; rw [HQ.out, kept_skip HP.out]
        clear CC c1 c2
        go_wp2
        go_roundw
        case rel => exact ⟨k + 1, ao', cap', by omega, by go_num, by rw [HK.out], by rw [HK.out]; exact HG.out.congr (fun i hi => by rw [selF_more (by rw [← HQ.out]; exact hi)]), HB.out⟩
        case measure => simp [intOf]; omega
      | false =>
        have HK : Hid ((keptI (fun i => keepT bn (x i)) (k + 1)).length = q + 1) := by show _ = _; have hp : keepT bn (x k) = true := HP.out; rw [HQ.out, kept_succ]; simp [hp]
        go_wp2_with fail
        refine CC.mono ?_
        rintro e w2 ⟨cs', rfl, o2, b2⟩
        obtain ⟨bo2, bc2, rfl⟩ := Thing_cells o2
        clear CC c0 c1 c2
        go_wp2_with (at_builtin; refine wp_appendN el_Thing rfl (.tmp 21) (.tmp 27) rfl (lo := w.heap.size) (n := q) (v := .slice ao' q cap') (x := (fun m => x (selF (fun i => keepT bn (x i)) k m))) ?_ HG.out b2 o2 ?_ w2.heap.size 1 ?_ (fun j _ => cells_new w2 _ _ j) (by omega) (by omega) ?_; (simp [Act.eval]); (exact (Below.refl _ _).alloc (Nat.le_refl _) _); (simp [Act.eval]); intro v4 w4 g4 b4; obtain ⟨ao4, cap4, rfl⟩ := g4.form)
        go_roundw
        case rel => exact ⟨k + 1, ao4, cap4, by omega, by go_num, by rw [HK.out], by rw [HK.out]; exact g4.congr (fun i hi => by have := sel_next (fun i => keepT bn (x i)) x HP.out i (by rw [← HQ.out]; exact hi); rw [← HQ.out] at this; exact this), HB.out.trans b4⟩
        case measure => simp [intOf]; omega
    · obtain rfl : k = n := by omega
      clear hb
      go_wp2
      go_ret
      have ow := HG.out.own
      rw [HQ.out] at ow ⊢
      exact ⟨_, rfl, ow, HB.out⟩
set_option maxHeartbeats 8000000 in
set_option maxRecDepth 20000 in
theorem drop1_any (a0 : Nat) (bn na : ByteArray) (l : Bool) (o : Option Addr) (m c : Nat) (w : World) (h0 : w.cell? ⟨a0, 0, none⟩ = some (.string bn)) (hl : a0 < w.heap.size) :
    Calls Try.prog 22 #[.agg #[.string na, .bool l, .slice o m c], .pointer (some ⟨a0, 0, none⟩)] w fun e w' => e = .returned (.bool (na.toList == bn.toList)) ∧ Below w.heap.size w w' := by
  obtain ⟨en, hen⟩ : ∃ t, (na.toList == bn.toList) = t := ⟨_, rfl⟩
  have hen' : decide (na.toList = bn.toList) = en := by rw [← hen, Bool.eq_iff_iff]; simp
  have T0 := one_new w #[.string na, .bool l, .slice o m c] 29
  have h1 : (w.alloc (.cells #[.string na, .bool l, .slice o m c] 29)).cell? ⟨a0, 0, none⟩ = some (.string bn) := (T0.bel.cell (p := ⟨a0, 0, none⟩) hl).trans h0
  have HB : Hid (Below w.heap.size w (w.alloc (.cells #[.string na, .bool l, .slice o m c] 29))) := T0.bel
  clear T0
  rw [hen]
  go_enter Try.func22, Try.ntmps22
  go_wp2
  go_ret
  exact ⟨rfl, HB.out⟩
theorem thing_none {w : World} {x y : Nat → ThingD} {v : Value} {K : List Nat} (h : (layThing.slice 29).own w (0, x) [v] K) : (layThing.slice 29).own w (0, y) [v] K := by
  obtain ⟨v', ce, Ls, e, eK, hr, _⟩ := h
  exact ⟨v', ce, Ls, e, eK, hr, fun i hi => by cases hi⟩
/-- slices.DeleteFunc over an owned list of things -/
theorem delete_thing {w : World} {p : Nat × (Nat → ThingD)} {ao : Option Addr} {cap : Nat} {K : List Nat} (h : (layThing.slice 29).own w p [.slice ao p.1 cap] K) (nd : K.Nodup) (hn : p.1 ≤ 1048576) (a0 : Nat) (bn : ByteArray) (h0 : w.cell? ⟨a0, 0, none⟩ = some (.string bn)) (hl0 : a0 < w.heap.size) (hk0 : a0 ∉ K) :
    Calls Try.prog 19 #[.slice ao p.1 cap, .func (.func 22) #[] #[.pointer (some ⟨a0, 0, none⟩)]] w fun e w' => ∃ ao' cap' K', e = .returned (.slice ao' (dropL p bn).1 cap') ∧ (layThing.slice 29).own w' (dropL p bn) [.slice ao' (dropL p bn).1 cap'] K' ∧ K'.Nodup ∧ (∀ b, b ∈ K' → b ∈ K) ∧ ChgL K w w' := by
  by_cases h0' : p.1 = 0
  · obtain ⟨n, x⟩ := p
    simp only at h0'
    subst h0'
    refine (deleteNoneT ao cap _ w).mono ?_
    rintro e w' ⟨rfl, rfl⟩
    exact ⟨ao, cap, K, rfl, thing_none h, nd, fun b hb => hb, ChgL.refl _ _⟩
  · obtain ⟨g, cap', ce, Ls, e, eK, S⟩ := slice_form h h0'
    simp only [List.cons.injEq, Value.slice.injEq, and_true, true_and] at e
    obtain ⟨rfl, rfl⟩ := e
    subst eK
    have hg0 : a0 ≠ g := fun hh => hk0 (by rw [hh]; exact List.mem_cons_self ..)
    refine (delete_drop g cap p.1 0 0 ce ce a0 (fun i => ((p.2 i).name.toList == bn.toList)) w (S.raw rfl) (Nat.le_refl _) (Nat.zero_le _) hn (fun k hk w' hc => ?_)).mono ?_
    · obtain ⟨o2, c2, e2⟩ := Thing_cellsO (S.each k hk)
      rw [e2]
      exact drop1_any a0 bn _ _ _ _ _ w' (by
        have hb := hc.block a0 hl0 (by simp; exact hg0)
        have e9 : w'.cell? ⟨a0, 0, none⟩ = w.cell? ⟨a0, 0, none⟩ := by simp [World.cell?, hb]
        rw [e9]; exact h0) (Nat.lt_of_lt_of_le hl0 hc.size)
    rintro e w' ⟨rfl, hr, hc⟩
    obtain ⟨s1, s2, s3⟩ := S.select nd (p := (fun i => keepT bn (p.2 i))) hr.row (fun b hb => .inl (by simpa [Value.ownBlock] using hb.symm)) (fun b hb => hc.block b (S.mem_lt b (List.mem_cons_of_mem _ hb)) (fun hm => by
      simp only [List.mem_singleton] at hm
      subst hm
      exact (List.nodup_cons.1 nd).1 hb))
    refine ⟨_, cap, _, rfl, s1, s2, fun b hb => ?_, hc.mono (fun b hb => by simp only [List.mem_singleton] at hb; rw [hb]; exact List.mem_cons_self ..)⟩
    rcases s3 b hb with h9 | h9
    · exact h9
    · simp only [Value.ownBlock, Option.toList_some, List.mem_append, List.mem_singleton] at hb
      rcases hb with rfl | hb
      · exact List.mem_cons_self ..
      · obtain ⟨i, hi, hbi⟩ := mem_catN.1 hb
        exact List.mem_cons_of_mem _ (mem_catN.2 ⟨_, selF_lt hi, hbi⟩)
set_option maxHeartbeats 8000000 in
set_option maxRecDepth 20000 in
theorem implDrop_any (p : Nat × (Nat → ThingD)) (bn : ByteArray) (v : Value) (hi : Nat) (w : World) (h : (layThing.slice 29).rd w hi p [v]) (hhi : hi ≤ w.heap.size) (hn : szSl szThingD p ≤ 1048576) :
    Calls Try.prog 8 #[v, .string bn] w fun e w' => ∃ v', e = .returned v' ∧ OwnT (layThing.slice 29) w' w.heap.size w'.heap.size (dropL p bn) [v'] ∧ Below w.heap.size w w' := by
  have hn1 := szSl_n hn
  have T0 := one_new w #[.string bn] 9
  obtain ⟨ao, cap, hv⟩ := sl_form h
  obtain rfl := one_eq hv
  have CC := copyThingS_is _ p hi _ ((layThing.slice 29).rd_below h T0.bel hhi) (Nat.le_trans hhi T0.bel.size) hn
  have HT0 : Hid (One w (w.alloc (.cells #[.string bn] 9)) #[.string bn] 9) := T0
  clear h hv hn T0
  go_enter Try.func8, Try.ntmps8
  go_wp2_with fail
  refine CC.mono ?_
  rintro e w1 ⟨v1, rfl, o1, b1⟩
  obtain ⟨ao1, cap1, hv⟩ := sl_formT o1
  obtain rfl := one_eq hv
  have T1 := HT0.out.call b1
  obtain ⟨K, k1, k2, k3⟩ := o1
  have za : (w.alloc (.cells #[.string bn] 9)).heap.size = w.heap.size + 1 := by simp
  have CD := delete_thing k1 k2 hn1 w.heap.size bn (T1.b1.cell 0) T1.b1.lt (fun hb => by have := (k3 _ hb).1; omega)
  have HB1 : Hid (Below w.heap.size w w1) := T1.bel
  have HK3 : Hid (∀ b, b ∈ K → w.heap.size ≤ b) := fun b hb => by have := (k3 b hb).1; omega
  clear CC hv b1 T1 k1 k2 k3 za
  go_wp2_with fail
  refine CD.mono ?_
  rintro e w2 ⟨ao2, cap2, K2, rfl, p1, p2, p3, p4⟩
  have HO : Hid (OwnT (layThing.slice 29) w2 w.heap.size w2.heap.size (dropL p bn) [.slice ao2 (dropL p bn).1 cap2]) := ⟨K2, p1, p2, fun b hb => ⟨HK3.out b (p3 b hb), (layThing.slice 29).own_lt p1 b hb⟩⟩
  have HB2 : Hid (Below w.heap.size w w2) := HB1.out.trans (p4.bel (fun b hb => HK3.out b hb) HB1.out.size)
  clear CD p1 p2 p3 p4
  go_wp2
  go_ret
  exact ⟨_, rfl, HO.out, HB2.out⟩
end Go.Proofs.Ytopaofcpjiicmaa

namespace Go.Proofs.Ytopaofcpjiicmaa
open Go.RowKit F256
set_option linter.unusedVariables false
set_option linter.unusedSimpArgs false
/-- a thing put among others -/
def putD (d : Nat × (Nat → ThingD)) (bn : ByteArray) (q : Nat × (Nat → Nat)) (i : Nat) : Nat × (Nat → ThingD) := (d.1 + 1, insF d.2 i ⟨bn, false, q⟩)
def putL (p : Nat × (Nat → ThingD)) (bn : ByteArray) (q : Nat × (Nat → Nat)) (i : Nat) : Nat × (Nat → ThingD) := putD (dropL p bn) bn q i
theorem range_box {w : World} {b : Nat} {t : TypeId} {c : List Value} (h : Box w b c.toArray t) : w.rangeAt b 0 c := fun j v hv => by
  rw [Nat.zero_add, h.cell j]
  simpa using hv
theorem raw_view {w : World} {n : Nat} {x : Nat → ThingD} {v : Value} {ce : Nat → List Value} {Ls : Nat → List Nat} (hr : w.ownsRow 0 29 layThing.sz v n (catN n ce)) (he : ∀ i, i < n → layThing.own w (x i) (ce i) (Ls i)) : View (layRaw 3) 29 w 0 0 v n ce ce :=
  ⟨hr, fun i hi => ⟨rfl, layThing.own_len (he i hi), fun u hu => layThing.own_one (he i hi) u hu⟩⟩
/-- what is put, owned -/
theorem put_own {w1 w2 D w8 : World} {m at_ : Nat} {y : Nat → ThingD} {ce : Nat → List Value} {Ls : Nat → List Nat} {vr v8 : Value} {bn : ByteArray} {q : Nat × (Nat → Nat)} {bo2 : Option Addr} {bc2 : Nat} {lo : Nat}
    (hr : w1.ownsRow 0 29 layThing.sz vr m (catN m ce)) (he : ∀ i, i < m → layThing.own w1 (y i) (ce i) (Ls i)) (nd : (vr.ownBlock.toList ++ catN m Ls).Nodup) (hlo : ∀ b, b ∈ vr.ownBlock.toList ++ catN m Ls → lo ≤ b) (hlw : lo ≤ w1.heap.size)
    (o2 : OwnT layBytes w2 w1.heap.size w2.heap.size q [.slice bo2 q.1 bc2]) (hbn : bn.size ≤ maxLen) (b12 : Below w1.heap.size w1 w2) (b2D : Below w2.heap.size w2 D) (hat : at_ ≤ m)
    (hrow : w8.ownsRow 0 29 3 v8 (m + 1) (catN (m + 1) (insF ce at_ [.string bn, .bool false, .slice bo2 q.1 bc2]))) (hv8 : ∀ b, v8.ownBlock = some b → vr.ownBlock = some b ∨ D.heap.size ≤ b) (hk1 : ∀ b, b < D.heap.size → vr.ownBlock ≠ some b → w8.heap[b]? = D.heap[b]?) :
    OwnT (layThing.slice 29) w8 lo w8.heap.size (putD (m, y) bn q at_) [v8] := by
  obtain ⟨K, a1, a2, a3⟩ := o2
  have z12 := b12.size
  have z2D := b2D.size
  have hL : ∀ b, b ∈ catN m Ls → b < w1.heap.size := fun b hb => by
    obtain ⟨i, hi, hb⟩ := mem_catN.1 hb
    exact layThing.own_lt (he i hi) b hb
  have hvr : ∀ b, vr.ownBlock = some b → b < w1.heap.size := fun b hb => (hr.lt b hb).2
  have hkL : ∀ b, b ∈ catN m Ls → w8.heap[b]? = w1.heap[b]? := fun b hb => by
    have := hL b hb
    rw [hk1 b (by omega) (fun h => (List.nodup_append.1 nd).2.2 b (by rw [h]; simp) b hb rfl), b2D.block b (by omega), b12.block b (by omega)]
  have hkK : ∀ b, b ∈ K → w8.heap[b]? = w2.heap[b]? := fun b hb => by
    have := a3 b hb
    rw [hk1 b (by omega) (fun h => by have := hvr b h; omega), b2D.block b (by omega)]
  have ht : layThing.own w8 ⟨bn, false, q⟩ [.string bn, .bool false, .slice bo2 q.1 bc2] K := Thing_mk ⟨bn, false, q⟩ (layBytes.own_kept a1 hkK) hbn
  obtain ⟨s1, s2, s3⟩ := own_ins (t := ⟨bn, false, q⟩) he (List.nodup_append.1 nd).2.1 ht a2 (fun b hb h => by have := a3 b hb; have := hL b h; omega) (v' := v8) (fun b hb => by
    rcases hv8 b hb with h | h
    · exact ⟨fun h2 => (List.nodup_append.1 nd).2.2 b (by rw [h]; simp) b h2 rfl, fun h2 => by have := a3 b h2; have := hvr b h; omega⟩
    · exact ⟨fun h2 => by have := hL b h2; omega, fun h2 => by have := a3 b h2; omega⟩) hrow hkL hat
  refine ⟨_, s1, s2, fun b hb => ⟨?_, (layThing.slice 29).own_lt s1 b hb⟩⟩
  rcases List.mem_append.1 hb with h | h
  · have h' : v8.ownBlock = some b := by simpa using h
    rcases hv8 b h' with h | h
    · exact hlo b (List.mem_append_left _ (by rw [h]; simp))
    · omega
  · rcases s3 b h with h | h
    · exact hlo b (List.mem_append_right _ h)
    · have := a3 b h; omega
set_option maxHeartbeats 8000000 in
set_option maxRecDepth 20000 in
theorem specPut_any (p : Nat × (Nat → ThingD)) (bn : ByteArray) (q : Nat × (Nat → Nat)) (at_ : Nat) (v u : Value) (h1 h2 : Nat) (w : World) (r0 : (layThing.slice 29).rd w h1 p [v]) (r2 : layBytes.rd w h2 q [u]) (u1 : h1 ≤ w.heap.size) (u2 : h2 ≤ w.heap.size) (hsz : szSl szThingD p ≤ 1048576) (hbs : bn.size ≤ 1048576) (hbb : q.1 ≤ 1048576) (hA : AtP (dropL p bn).1 (dropL p bn).2 bn at_) :
    Calls Try.prog 26 #[v, .string bn, u] w fun e w' => ∃ v', e = .returned v' ∧ OwnT (layThing.slice 29) w' w.heap.size w'.heap.size (putL p bn q at_) [v'] ∧ Below w.heap.size w w' := by
  have hn1 := szSl_n hsz
  obtain ⟨ao, cap, hv⟩ := sl_form r0
  obtain rfl := one_eq hv
  obtain ⟨bo, bc, hv'⟩ := bytes_form r2
  obtain rfl := one_eq hv'
  have CD := specDrop_any p bn _ h1 w r0 u1 hsz
  have hm0 : (dropL p bn).1 ≤ p.1 := kept_le _ _
  unfold putL
  obtain ⟨⟨m, y⟩, hD⟩ : ∃ d, d = dropL p bn := ⟨_, rfl⟩
  rw [← hD] at CD hA hm0 ⊢
  simp only at hA hm0
  have R2 : Hid (layBytes.rd w h2 q [.slice bo q.1 bc]) := r2
  have HA : Hid (AtP m y bn at_) := hA
  have hat : at_ ≤ m := hA.le
  clear r0 r2 hv hv' hsz hD hA
  go_enter Try.func26, Try.ntmps26
  go_wp2_with fail
  refine CD.mono ?_
  rintro e w1 ⟨vr, rfl, ⟨L, k1, k2, k3⟩, b1⟩
  obtain ⟨vr', ce, Ls, e1, rfl, hr, he⟩ := k1
  obtain rfl := one_eq e1
  have HR : Hid (w1.ownsRow 0 29 layThing.sz vr m (catN m ce)) := hr
  have HE : Hid (∀ i, i < m → layThing.own w1 (y i) (ce i) (Ls i)) := he
  have HND : Hid ((vr.ownBlock.toList ++ catN m Ls).Nodup) := k2
  have HLO : Hid (∀ b, b ∈ vr.ownBlock.toList ++ catN m Ls → w.heap.size ≤ b) := fun b hb => (k3 b hb).1
  have HB1 : Hid (Below w.heap.size w w1) := b1
  have z1 := b1.size
  have bA : Below w1.heap.size w1 (w1.alloc (.cells #[] 5)) := (Below.refl _ _).alloc (Nat.le_refl _) _
  obtain ⟨v', w2, hrun, o2, b2⟩ := run_appendRB 22 (w1.alloc (.cells #[] 5)) w1.heap.size (lit_row w1 5) (layBytes.rd_below (layBytes.rd_below R2.out b1 u2) bA (by omega)) (show q.1 ≤ 10000000 by omega)
  obtain ⟨bo2, bc2, hv⟩ := bytes_formT o2
  obtain rfl := one_eq hv
  have HO2 : Hid (OwnT layBytes w2 w1.heap.size w2.heap.size q [.slice bo2 q.1 bc2]) := o2
  have B2 : Below w1.heap.size w1 w2 := bA.trans b2
  have HB2 : Hid (Below w1.heap.size w1 w2) := B2
  have z2 := B2.size
  have one3 : ∀ u, u ∈ ([.string bn, .bool false, .slice bo2 q.1 bc2] : List Value) → u.oneCell' = true := fun u hu => by
    simp only [List.mem_cons, List.not_mem_nil, or_false] at hu
    rcases hu with rfl | rfl | rfl <;> rfl
  have H3 : Hid (∀ u, u ∈ ([.string bn, .bool false, .slice bo2 q.1 bc2] : List Value) → u.oneCell' = true) := one3
  clear CD k2 k3 e1 hr he b1 hv b2 bA o2 B2 R2
  go_upto_region 3 with (first | (at_builtin; refine wp_run2 rfl (.tmp 14) (.tmp 15) rfl ?_ ?_ hrun ?_; (simp [Act.eval]); (simp [Act.eval])) | (refine wp_allocStore 29 8 (.tmp 17) [.string bn, .bool false, .slice bo2 q.1 bc2] _ 3 rfl rfl rfl rfl rfl rfl rfl rfl info_ThingZ rfl rfl one3 ?_))
  have b3 : Below w2.heap.size w2 (w2.alloc (.cells #[.string bn, .bool false, .slice bo2 q.1 bc2] 29)) := (Below.refl _ _).alloc (Nat.le_refl _) _
  have X3 : Box (w2.alloc (.cells #[.string bn, .bool false, .slice bo2 q.1 bc2] 29)) w2.heap.size #[.string bn, .bool false, .slice bo2 q.1 bc2] 29 := box_new _ _ _
  obtain ⟨W3, hW3⟩ : ∃ x, x = w2.alloc (.cells #[.string bn, .bool false, .slice bo2 q.1 bc2] 29) := ⟨_, rfl⟩
  rw [← hW3] at b3 X3 ⊢
  have HB3 : Hid (Below w2.heap.size w2 W3) := b3
  have HX3 : Hid (Box W3 w2.heap.size ([.string bn, .bool false, .slice bo2 q.1 bc2] : List Value).toArray 29) := X3
  have z3 := b3.size
  have B13 : Below w1.heap.size w1 W3 := HB2.out.trans (b3.mono z2)
  have HB13 : Hid (Below w1.heap.size w1 W3) := B13
  obtain ⟨ar, cr, hvr⟩ : ∃ a c, vr = .slice a m c := by
    rcases HR.out.2 with ⟨hv, hn⟩ | ⟨g, cap, cur, rfl, _⟩
    · exact ⟨none, 0, by rw [hv, hn]⟩
    · exact ⟨_, _, rfl⟩
  subst hvr
  have HC0 : Hid (∀ k, k < m → ∃ g, ar = some ⟨g, 0, none⟩ ∧ W3.cell? ⟨g, k * 3, none⟩ = some (.string (y k).name)) := fun k hk => by
    have hr := HR.out
    rcases hr.2 with ⟨hv, hn⟩ | ⟨g, cap, cur, e9, hbg, hgg, _⟩
    · omega
    · cases e9
      refine ⟨g, rfl, ?_⟩
      have hlen := fun i (hi : i < m) => layThing.own_len (HE.out i hi)
      have h9 := hr.cellAt (k * 3) (by have := mul_lt (s := 3) (j := 0) hk (by omega); exact this)
      obtain ⟨o9, c9, e9⟩ := Thing_cellsO (HE.out k hk)
      have h8 := catN_get (s := 3) hlen hk (show 0 < 3 by omega)
      rw [Nat.add_zero] at h8
      rw [h8, e9] at h9
      exact (HB13.out.cell (p := ⟨g, k * 3, none⟩) (by show g < _; exact (hr.lt g rfl).2)).trans h9
  clear hW3 X3 b3 B13 hrun one3
  go_wp2
  go_loopw [9] (fun z wr => ∃ k : Nat, k ≤ at_ ∧ z = .int .i64 k ∧ wr = W3) (fun z _ => m - (intOf z).toNat)
  case atStart => exact ⟨0, Nat.zero_le _, rfl, rfl⟩
  case round =>
    obtain ⟨k, hk, rfl, rfl⟩ := hrel
    by_cases hlt : k < at_
    · obtain ⟨g, rfl, c0⟩ := HC0.out k (by omega)
      obtain ⟨lt, hlt1⟩ : ∃ t, Op.bytesLess (y k).name.toList bn.toList = t := ⟨_, rfl⟩
      obtain ⟨eq, heq1⟩ : ∃ t, ((y k).name.toList == bn.toList) = t := ⟨_, rfl⟩
      have heq2 : decide ((y k).name.toList = bn.toList) = eq := by rw [← heq1, Bool.eq_iff_iff]; simp
      have hle : (lt || eq) = true := by rw [← hlt1, ← heq1]; exact HA.out.ahead k hlt
      have i1 : (0 : Int) ≤ (k : Int) := by omega
      have i2 : (k : Int) < (m : Int) := by omega
      clear HC0
      go_wp2
      go_roundw
      case rel => exact ⟨k + 1, by omega, by go_num, by simp⟩
      case measure => simp [intOf]; omega
    · obtain rfl : k = at_ := by omega
      clear hk hlt
      have EX : ∀ (Q : Prop), ((m = k → Q) ∧ (∀ g, k < m → ar = some ⟨g, 0, none⟩ → wr.cell? ⟨g, k * 3, none⟩ = some (.string (y k).name) → leS (y k).name bn = false → Q)) → Q := fun Q ⟨hq1, hq2⟩ => by
        by_cases c : k < m
        · obtain ⟨g, e, hc⟩ := HC0.out k c
          exact hq2 g c e hc (HA.out.here c)
        · exact hq1 (by omega)
      have V9 : View (layRaw 3) 29 wr.drew 0 0 (.slice ar m cr) m ce ce := ((raw_view HR.out HE.out).below HB13.out (Nat.zero_le _)).drew
      have X9 : Box wr.drew w2.heap.size ([.string bn, .bool false, .slice bo2 q.1 bc2] : List Value).toArray 29 := HX3.out
      have rg9 : wr.drew.rangeAt w2.heap.size 0 [.string bn, .bool false, .slice bo2 q.1 bc2] := range_box X9
      have HBw : Hid (Below w.heap.size w wr) := HB1.out.trans (HB13.out.mono z1)
      obtain ⟨D, hD⟩ : ∃ D, D = wr.drew := ⟨_, rfl⟩
      have HD : Hid (D = wr.drew) := hD
      have bD : Below w2.heap.size w2 D := by rw [hD]; exact HB3.out.trans (show Below w2.heap.size wr wr.drew from ⟨rfl, rfl, rfl, Nat.le_refl _, fun _ _ => rfl⟩)
      have HBD : Hid (Below w.heap.size w D) := by rw [hD]; exact HBw.out.trans (show Below w.heap.size wr wr.drew from ⟨rfl, rfl, rfl, Nat.le_refl _, fun _ _ => rfl⟩)
      rw [← hD] at V9 X9 rg9
      have zD : wr.heap.size = D.heap.size := by rw [hD]; rfl
      clear hD
      obtain ⟨aU, cU, hUr, sU, hUz⟩ := V9.upto_ (Nat.zero_le _) (al := k) hat
      obtain ⟨aF, cF, hFr, sF, rF, hFz⟩ := V9.from_ (Nat.zero_le _) (al := k) hat
      have hAU : ∀ b off, aU = some ⟨b, off, none⟩ → b < D.heap.size := fun b off e => by
        rcases V9.form2 with ⟨e3, e4⟩ | ⟨g, cp, e3, e4, hg⟩
        · have hz : k = 0 := by omega
          have := hUr D
          rw [e3, hz, run_upto0 D] at this
          simp only [Result.ok.injEq, Value.slice.injEq, and_true] at this
          rw [← this.1] at e
          cases e
        · have := hUr D
          rw [e3, run_upto9 g m cp k hat e4 D] at this
          simp only [Result.ok.injEq, Value.slice.injEq, and_true] at this
          rw [← this.1] at e
          cases e
          exact hg
      have hAF : ∀ b off, aF = some ⟨b, off, none⟩ → b < D.heap.size := fun b off e => by
        rcases V9.form2 with ⟨e3, e4⟩ | ⟨g, cp, e3, e4, hg⟩
        · have hz : k = 0 := by omega
          have := hFr D
          rw [e3, hz, run_from0 D] at this
          simp only [Result.ok.injEq, Value.slice.injEq, and_true] at this
          rw [← this.1] at e
          cases e
        · have := hFr D
          rw [e3, run_from9 g m cp k hat D] at this
          simp only [Result.ok.injEq, Value.slice.injEq, and_true] at this
          rw [← this.1] at e
          split at e <;> cases e <;> exact hg
      have hiD : 0 ≤ D.heap.size := Nat.zero_le _
      have hpD : w2.heap.size < D.heap.size := X9.lt
      have RR : (layRaw 3).rd D 0 ([.string bn, .bool false, .slice bo2 q.1 bc2] : List Value) [.string bn, .bool false, .slice bo2 q.1 bc2] := ⟨rfl, rfl, H3.out⟩
      have HUS : Hid (Src (layRaw 3) D 0 aU k ce ce) := sU
      have HFS : Hid (Src (layRaw 3) D 0 aF (m - k) (fun j => ce (k + j)) (fun j => ce (k + j))) := sF
      have FIN : Hid (∀ (w8 : World) (v8 : Value) (cv8 : Nat → List Value), View (layRaw 3) 29 w8 D.heap.size 0 v8 (k + 1 + (m - k)) (cat2 (cat2 ce k (fun _ => [.string bn, .bool false, .slice bo2 q.1 bc2])) (k + 1) (fun j => ce (k + j))) cv8 → Below D.heap.size D w8 → OwnT (layThing.slice 29) w8 w.heap.size w8.heap.size (putD (m, y) bn q k) [v8] ∧ Below w.heap.size w w8) := fun w8 v8 cv8 V8 b8 => by
        have eN : k + 1 + (m - k) = m + 1 := by omega
        rw [eN] at V8
        have ec : catN (m + 1) cv8 = catN (m + 1) (insF ce k [.string bn, .bool false, .slice bo2 q.1 bc2]) := catN_congr (fun i hi => by
          have := (V8.each i hi).1
          rw [this, insF_cat2])
        have hrow := V8.row
        rw [ec] at hrow
        refine ⟨put_own (D := D) HR.out HE.out HND.out HLO.out z1 HO2.out (by unfold maxLen; omega) HB2.out bD hat (row_base hrow) (fun b hb => .inr (V8.row.lt b hb).1) (fun b hb _ => b8.block b hb), HBD.out.trans (b8.mono HBD.out.size)⟩
      clear V9 X9 sU sF rF bD
      have GO : ∀ (Q : Prop), Q → Q := fun _ h => h
      refine EX _ ⟨fun hmk => ?_, fun g hkm har hc hle => ?_⟩
      · have hge : ¬ ((k : Int) < (m : Int)) := by omega
        clear hmk EX HC0 GO
        go_upto_region 6 with fail
        refine wp_region_M 7 (fun w' => w'.rangeAt w2.heap.size 0 [.string bn, .bool false, .slice bo2 q.1 bc2]) mixedO (by rw [← HD.out]; exact rg9) (fun hHeld => ?_)
        rw [← HD.out] at hHeld ⊢
        refine wpAnyM_pure (i := 1) (oi := _) (v := ?_) rfl (by kernel_rfl) (fun _ _ _ h => h) (Or.inl ⟨by kernel_rfl, ?_⟩) (by assumption) ?_
        rotate_left
        · intro w' hSw
          go_simp
          try with_reducible rfl
        try simp only [List.getElem_toArray, List.getElem_cons_succ, List.getElem_cons_zero, Act.put, List.setIfInBounds_toArray, List.set_cons_zero, List.set_cons_succ]
        refine wpAnyM_pure (i := 2) (oi := _) (v := ?_) rfl (by kernel_rfl) (fun _ _ _ h => h) (Or.inl ⟨by kernel_rfl, ?_⟩) (by assumption) ?_
        rotate_left
        · intro w' hSw
          go_simp
          try with_reducible rfl
        try simp only [List.getElem_toArray, List.getElem_cons_succ, List.getElem_cons_zero, Act.put, List.setIfInBounds_toArray, List.set_cons_zero, List.set_cons_succ]
        refine wpAnyM_pure (i := 3) (oi := _) (v := ?_) rfl (by kernel_rfl) (fun _ _ _ h => h) (Or.inl ⟨by kernel_rfl, ?_⟩) (by assumption) ?_
        rotate_left
        · intro w' hSw
          have hSl' := hUr w'
          go_simp
          try with_reducible rfl
        try simp only [List.getElem_toArray, List.getElem_cons_succ, List.getElem_cons_zero, Act.put, List.setIfInBounds_toArray, List.set_cons_zero, List.set_cons_succ]
        refine wpAnyM_take (i := 5) (oi := _) (v := .agg ([.string bn, .bool false, .slice bo2 q.1 bc2] : List Value).toArray) 16 rfl (by kernel_rfl) (fun _ _ _ h => h) (yieldsIf_load_mid (by kernel_rfl) 29 (.tmp 8) rfl w2.heap.size (0) (by simp [Act.eval, Act.put]) ([.string bn, .bool false, .slice bo2 q.1 bc2] : List Value) _ (fun w h => h) Try.underlying29 rfl (info_Thing3 rfl)) (by assumption) ?_
        try simp only [List.getElem_toArray, List.getElem_cons_succ, List.getElem_cons_zero, Act.put, List.setIfInBounds_toArray, List.set_cons_zero, List.set_cons_succ]
        refine wpAnyM_pure (i := 8) (oi := _) (v := ?_) rfl (by kernel_rfl) (fun _ _ _ h => h) (Or.inl ⟨by kernel_rfl, ?_⟩) (by assumption) ?_
        rotate_left
        · intro w' hSw
          go_simp
          try with_reducible rfl
        try simp only [List.getElem_toArray, List.getElem_cons_succ, List.getElem_cons_zero, Act.put, List.setIfInBounds_toArray, List.set_cons_zero, List.set_cons_succ]
        refine wpAnyM_pure (i := 9) (oi := _) (v := ?_) rfl (by kernel_rfl) (fun _ _ _ h => h) (Or.inl ⟨by kernel_rfl, ?_⟩) (by assumption) ?_
        rotate_left
        · intro w' hSw
          go_simp
          try with_reducible rfl
        try simp only [List.getElem_toArray, List.getElem_cons_succ, List.getElem_cons_zero, Act.put, List.setIfInBounds_toArray, List.set_cons_zero, List.set_cons_succ]
        refine wpAnyM_pure (i := 10) (oi := _) (v := ?_) rfl (by kernel_rfl) (fun _ _ _ h => h) (Or.inl ⟨by kernel_rfl, ?_⟩) (by assumption) ?_
        rotate_left
        · intro w' hSw
          have hSl' := hFr w'
          go_simp
          try with_reducible rfl
        try simp only [List.getElem_toArray, List.getElem_cons_succ, List.getElem_cons_zero, Act.put, List.setIfInBounds_toArray, List.set_cons_zero, List.set_cons_succ]
        refine wpAnyM_twoS (i := 0) (j := 6) (o := _) (o' := _) rfl rfl (by kernel_rfl) (fun KC hKC => ?_) (fun KC hKC => ?_)
        · refine step_build0 rfl rfl ?_
          have bA : Below D.heap.size D (D.alloc (.cells #[] 29)) := (Below.refl _ _).alloc (Nat.le_refl _) _
          refine hKC _ _ (range_below rg9 bA hpD) ?_
          clear hKC KC
          try simp only [List.getElem_toArray, List.getElem_cons_succ, List.getElem_cons_zero, Act.put, List.setIfInBounds_toArray, List.set_cons_zero, List.set_cons_succ]
          have VL := View.lit0 (E := (layRaw 3)) (t := 29) ce ce D 0
          have zA1 : D.heap.size < (D.alloc (.cells #[] 29)).heap.size := (box_new D #[] 29).lt
          obtain ⟨D1, hD1⟩ : ∃ x, x = D.alloc (.cells #[] 29) := ⟨_, rfl⟩
          rw [← hD1] at bA VL zA1 ⊢
          clear hD1
          refine wpAnyM_twoS (i := 4) (j := 6) (o := _) (o' := _) rfl rfl (by kernel_rfl) (fun KC hKC => ?_) (fun KC hKC => ?_)
          · skip
            obtain ⟨v4, w4, cv4, runv4, V4, bw4⟩ := ins_up (lo := 0) HUS.out hUz hAU bA hiD (by omega) VL
            refine step_run2 rfl (.tmp 33) (.tmp 36) rfl (by simp [Act.eval, Act.put]) (by simp [Act.eval, Act.put]) runv4 ?_
            have b4D := bA.trans bw4
            refine hKC _ _ (range_below rg9 b4D hpD) ?_
            clear hKC KC
            try simp only [List.getElem_toArray, List.getElem_cons_succ, List.getElem_cons_zero, Act.put, List.setIfInBounds_toArray, List.set_cons_zero, List.set_cons_succ]
            refine wpAnyM_oneS (i := 6) (o := _) rfl (by kernel_rfl) (fun KC hKC => ?_)
            refine step_build1T rfl (.tmp 38) rfl bn false bo2 q.1 bc2 (by simp [Act.eval, Act.put]) ?_
            have b6 : Below w4.heap.size w4 (w4.alloc (.cells #[.string bn, .bool false, .slice bo2 q.1 bc2] 29)) := (Below.refl _ _).alloc (Nat.le_refl _) _
            have b6D := b4D.trans (b6.mono b4D.size)
            refine hKC _ _ (range_below rg9 b6D hpD) ?_
            clear hKC KC
            try simp only [List.getElem_toArray, List.getElem_cons_succ, List.getElem_cons_zero, Act.put, List.setIfInBounds_toArray, List.set_cons_zero, List.set_cons_succ]
            have V6 := V4.below b6 (Nat.zero_le _)
            have X6 : Box (w4.alloc (.cells #[.string bn, .bool false, .slice bo2 q.1 bc2] 29)) w4.heap.size ([.string bn, .bool false, .slice bo2 q.1 bc2] : List Value).toArray 29 := box_new _ _ _
            obtain ⟨v7, w7, cv7, runv7, V7, bw7⟩ := ins_one b6D hiD (by omega) V6 X6 ((layRaw 3).rd_below RR b6D hiD)
            refine wpAnyM_one (i := 7) (o := _) rfl (by kernel_rfl) (by kernel_rfl) (fun KC hKC => ?_)
            refine step_run2 rfl (.tmp 37) (.tmp 39) rfl (by simp [Act.eval, Act.put]) (by simp [Act.eval, Act.put]) runv7 ?_
            refine hKC _ _ ?_
            clear hKC KC
            try simp only [List.getElem_toArray, List.getElem_cons_succ, List.getElem_cons_zero, Act.put, List.setIfInBounds_toArray, List.set_cons_zero, List.set_cons_succ]
            have b7D := b6D.trans bw7
            obtain ⟨v8, w8, cv8, runv8, V8, bw8⟩ := ins_rest HFS.out hFz hAF b7D hiD (by omega) V7
            refine wpAnyM_one (i := 11) (o := _) rfl (by kernel_rfl) (by kernel_rfl) (fun KC hKC => ?_)
            refine step_run2 rfl (.tmp 40) (.tmp 43) rfl (by simp [Act.eval, Act.put]) (by simp [Act.eval, Act.put]) runv8 ?_
            refine hKC _ _ ?_
            clear hKC KC
            try simp only [List.getElem_toArray, List.getElem_cons_succ, List.getElem_cons_zero, Act.put, List.setIfInBounds_toArray, List.set_cons_zero, List.set_cons_succ]
            refine wpAnyM_pureL (i := 12) (oi := _) (v := ?_) rfl (by kernel_rfl) (fun _ _ _ h => h) (Or.inl ⟨by kernel_rfl, ?_⟩) ?_
            rotate_left
            · intro w' hSw
              go_simp
              try with_reducible rfl
            try simp only [List.getElem_toArray, List.getElem_cons_succ, List.getElem_cons_zero, Act.put, List.setIfInBounds_toArray, List.set_cons_zero, List.set_cons_succ]
            refine wpAnyM_done (by kernel_rfl) ?_ _
            obtain ⟨F1, F2⟩ := FIN.out w8 v8 cv8 V8 (b7D.trans bw8)
            have HF1 : Hid (OwnT (layThing.slice 29) w8 w.heap.size w8.heap.size (putD (m, y) bn q k) [v8]) := F1
            have HF2 : Hid (Below w.heap.size w w8) := F2
            clear F1 F2 V8 V7 bw7 bw8 b7D hHeld runv7 runv8 hUr hFr hUz hFz hAU hAF rg9 HUS HFS HBD
            go_wp2
            go_ret
            exact ⟨_, rfl, HF1.out, HF2.out⟩
          · refine step_build1T rfl (.tmp 38) rfl bn false bo2 q.1 bc2 (by simp [Act.eval, Act.put]) ?_
            have b6 : Below D1.heap.size D1 (D1.alloc (.cells #[.string bn, .bool false, .slice bo2 q.1 bc2] 29)) := (Below.refl _ _).alloc (Nat.le_refl _) _
            have b6D := bA.trans (b6.mono bA.size)
            refine hKC _ _ (range_below rg9 b6D hpD) ?_
            clear hKC KC
            try simp only [List.getElem_toArray, List.getElem_cons_succ, List.getElem_cons_zero, Act.put, List.setIfInBounds_toArray, List.set_cons_zero, List.set_cons_succ]
            have VL6 := VL.below b6 (Nat.zero_le _)
            have X6 : Box (D1.alloc (.cells #[.string bn, .bool false, .slice bo2 q.1 bc2] 29)) D1.heap.size ([.string bn, .bool false, .slice bo2 q.1 bc2] : List Value).toArray 29 := box_new _ _ _
            have z6 : D1.heap.size < (D1.alloc (.cells #[.string bn, .bool false, .slice bo2 q.1 bc2] 29)).heap.size := X6.lt
            have zA := bA.size
            obtain ⟨D2, hD2⟩ : ∃ x, x = D1.alloc (.cells #[.string bn, .bool false, .slice bo2 q.1 bc2] 29) := ⟨_, rfl⟩
            rw [← hD2] at b6 b6D VL6 X6 z6 ⊢
            clear hD2
            obtain ⟨v4, w4, cv4, runv4, ⟨V4, X4⟩, bw4⟩ := ins_up4 HUS.out hUz hAU b6D hiD (by omega) VL6 X6 (fun h => by simp [Value.ownBlock] at h; omega)
            refine wpAnyM_oneS (i := 4) (o := _) rfl (by kernel_rfl) (fun KC hKC => ?_)
            refine step_run2 rfl (.tmp 33) (.tmp 36) rfl (by simp [Act.eval, Act.put]) (by simp [Act.eval, Act.put]) runv4 ?_
            have b4D := b6D.trans bw4
            refine hKC _ _ (range_below rg9 b4D hpD) ?_
            clear hKC KC
            try simp only [List.getElem_toArray, List.getElem_cons_succ, List.getElem_cons_zero, Act.put, List.setIfInBounds_toArray, List.set_cons_zero, List.set_cons_succ]
            obtain ⟨v7, w7, cv7, runv7, V7, bw7⟩ := ins_one b4D hiD (by omega) V4 X4 ((layRaw 3).rd_below RR b4D hiD)
            refine wpAnyM_one (i := 7) (o := _) rfl (by kernel_rfl) (by kernel_rfl) (fun KC hKC => ?_)
            refine step_run2 rfl (.tmp 37) (.tmp 39) rfl (by simp [Act.eval, Act.put]) (by simp [Act.eval, Act.put]) runv7 ?_
            refine hKC _ _ ?_
            clear hKC KC
            try simp only [List.getElem_toArray, List.getElem_cons_succ, List.getElem_cons_zero, Act.put, List.setIfInBounds_toArray, List.set_cons_zero, List.set_cons_succ]
            have b7D := b4D.trans bw7
            obtain ⟨v8, w8, cv8, runv8, V8, bw8⟩ := ins_rest HFS.out hFz hAF b7D hiD (by omega) V7
            refine wpAnyM_one (i := 11) (o := _) rfl (by kernel_rfl) (by kernel_rfl) (fun KC hKC => ?_)
            refine step_run2 rfl (.tmp 40) (.tmp 43) rfl (by simp [Act.eval, Act.put]) (by simp [Act.eval, Act.put]) runv8 ?_
            refine hKC _ _ ?_
            clear hKC KC
            try simp only [List.getElem_toArray, List.getElem_cons_succ, List.getElem_cons_zero, Act.put, List.setIfInBounds_toArray, List.set_cons_zero, List.set_cons_succ]
            refine wpAnyM_pureL (i := 12) (oi := _) (v := ?_) rfl (by kernel_rfl) (fun _ _ _ h => h) (Or.inl ⟨by kernel_rfl, ?_⟩) ?_
            rotate_left
            · intro w' hSw
              go_simp
              try with_reducible rfl
            try simp only [List.getElem_toArray, List.getElem_cons_succ, List.getElem_cons_zero, Act.put, List.setIfInBounds_toArray, List.set_cons_zero, List.set_cons_succ]
            refine wpAnyM_done (by kernel_rfl) ?_ _
            obtain ⟨F1, F2⟩ := FIN.out w8 v8 cv8 V8 (b7D.trans bw8)
            have HF1 : Hid (OwnT (layThing.slice 29) w8 w.heap.size w8.heap.size (putD (m, y) bn q k) [v8]) := F1
            have HF2 : Hid (Below w.heap.size w w8) := F2
            clear F1 F2 V8 V7 bw7 bw8 b7D hHeld runv7 runv8 hUr hFr hUz hFz hAU hAF rg9 HUS HFS HBD
            go_wp2
            go_ret
            exact ⟨_, rfl, HF1.out, HF2.out⟩
        · refine step_build1T rfl (.tmp 38) rfl bn false bo2 q.1 bc2 (by simp [Act.eval, Act.put]) ?_
          have bA : Below D.heap.size D (D.alloc (.cells #[.string bn, .bool false, .slice bo2 q.1 bc2] 29)) := (Below.refl _ _).alloc (Nat.le_refl _) _
          refine hKC _ _ (range_below rg9 bA hpD) ?_
          clear hKC KC
          try simp only [List.getElem_toArray, List.getElem_cons_succ, List.getElem_cons_zero, Act.put, List.setIfInBounds_toArray, List.set_cons_zero, List.set_cons_succ]
          have XA : Box (D.alloc (.cells #[.string bn, .bool false, .slice bo2 q.1 bc2] 29)) D.heap.size ([.string bn, .bool false, .slice bo2 q.1 bc2] : List Value).toArray 29 := box_new _ _ _
          have zA : D.heap.size < (D.alloc (.cells #[.string bn, .bool false, .slice bo2 q.1 bc2] 29)).heap.size := XA.lt
          obtain ⟨D1, hD1⟩ : ∃ x, x = D.alloc (.cells #[.string bn, .bool false, .slice bo2 q.1 bc2] 29) := ⟨_, rfl⟩
          rw [← hD1] at bA XA zA ⊢
          clear hD1
          refine wpAnyM_oneS (i := 0) (o := _) rfl (by kernel_rfl) (fun KC hKC => ?_)
          refine step_build0 rfl rfl ?_
          have b6 : Below D1.heap.size D1 (D1.alloc (.cells #[] 29)) := (Below.refl _ _).alloc (Nat.le_refl _) _
          have b6D := bA.trans (b6.mono bA.size)
          refine hKC _ _ (range_below rg9 b6D hpD) ?_
          clear hKC KC
          try simp only [List.getElem_toArray, List.getElem_cons_succ, List.getElem_cons_zero, Act.put, List.setIfInBounds_toArray, List.set_cons_zero, List.set_cons_succ]
          have VL := (View.lit0 (E := (layRaw 3)) (t := 29) ce ce D1 0).weakL (lo' := D.heap.size) (by omega)
          have X6 := XA.below b6 zA
          obtain ⟨D2, hD2⟩ : ∃ x, x = D1.alloc (.cells #[] 29) := ⟨_, rfl⟩
          rw [← hD2] at b6 b6D VL X6 ⊢
          clear hD2
          obtain ⟨v4, w4, cv4, runv4, ⟨V4, X4⟩, bw4⟩ := ins_up4 HUS.out hUz hAU b6D hiD (by omega) VL X6 (fun h => by simp [Value.ownBlock] at h; omega)
          refine wpAnyM_oneS (i := 4) (o := _) rfl (by kernel_rfl) (fun KC hKC => ?_)
          refine step_run2 rfl (.tmp 33) (.tmp 36) rfl (by simp [Act.eval, Act.put]) (by simp [Act.eval, Act.put]) runv4 ?_
          have b4D := b6D.trans bw4
          refine hKC _ _ (range_below rg9 b4D hpD) ?_
          clear hKC KC
          try simp only [List.getElem_toArray, List.getElem_cons_succ, List.getElem_cons_zero, Act.put, List.setIfInBounds_toArray, List.set_cons_zero, List.set_cons_succ]
          obtain ⟨v7, w7, cv7, runv7, V7, bw7⟩ := ins_one b4D hiD (by omega) V4 X4 ((layRaw 3).rd_below RR b4D hiD)
          refine wpAnyM_one (i := 7) (o := _) rfl (by kernel_rfl) (by kernel_rfl) (fun KC hKC => ?_)
          refine step_run2 rfl (.tmp 37) (.tmp 39) rfl (by simp [Act.eval, Act.put]) (by simp [Act.eval, Act.put]) runv7 ?_
          refine hKC _ _ ?_
          clear hKC KC
          try simp only [List.getElem_toArray, List.getElem_cons_succ, List.getElem_cons_zero, Act.put, List.setIfInBounds_toArray, List.set_cons_zero, List.set_cons_succ]
          have b7D := b4D.trans bw7
          obtain ⟨v8, w8, cv8, runv8, V8, bw8⟩ := ins_rest HFS.out hFz hAF b7D hiD (by omega) V7
          refine wpAnyM_one (i := 11) (o := _) rfl (by kernel_rfl) (by kernel_rfl) (fun KC hKC => ?_)
          refine step_run2 rfl (.tmp 40) (.tmp 43) rfl (by simp [Act.eval, Act.put]) (by simp [Act.eval, Act.put]) runv8 ?_
          refine hKC _ _ ?_
          clear hKC KC
          try simp only [List.getElem_toArray, List.getElem_cons_succ, List.getElem_cons_zero, Act.put, List.setIfInBounds_toArray, List.set_cons_zero, List.set_cons_succ]
          refine wpAnyM_pureL (i := 12) (oi := _) (v := ?_) rfl (by kernel_rfl) (fun _ _ _ h => h) (Or.inl ⟨by kernel_rfl, ?_⟩) ?_
          rotate_left
          · intro w' hSw
            go_simp
            try with_reducible rfl
          try simp only [List.getElem_toArray, List.getElem_cons_succ, List.getElem_cons_zero, Act.put, List.setIfInBounds_toArray, List.set_cons_zero, List.set_cons_succ]
          refine wpAnyM_done (by kernel_rfl) ?_ _
          obtain ⟨F1, F2⟩ := FIN.out w8 v8 cv8 V8 (b7D.trans bw8)
          have HF1 : Hid (OwnT (layThing.slice 29) w8 w.heap.size w8.heap.size (putD (m, y) bn q k) [v8]) := F1
          have HF2 : Hid (Below w.heap.size w w8) := F2
          clear F1 F2 V8 V7 bw7 bw8 b7D hHeld runv7 runv8 hUr hFr hUz hFz hAU hAF rg9 HUS HFS HBD
          go_wp2
          go_ret
          exact ⟨_, rfl, HF1.out, HF2.out⟩
      · have i1 : (0 : Int) ≤ (k : Int) := by omega
        have i2 : (k : Int) < (m : Int) := by omega
        obtain ⟨lt, hlt1⟩ : ∃ t, Op.bytesLess (y k).name.toList bn.toList = t := ⟨_, rfl⟩
        obtain ⟨eq, heq1⟩ : ∃ t, ((y k).name.toList == bn.toList) = t := ⟨_, rfl⟩
        have heq2 : decide ((y k).name.toList = bn.toList) = eq := by rw [← heq1, Bool.eq_iff_iff]; simp
        have hor : (lt || eq) = false := by rw [← hlt1, ← heq1]; exact hle
        subst har
        clear hle EX HC0 GO hkm
        go_upto_region 6 with fail
        refine wp_region_M 7 (fun w' => w'.rangeAt w2.heap.size 0 [.string bn, .bool false, .slice bo2 q.1 bc2]) mixedO (by rw [← HD.out]; exact rg9) (fun hHeld => ?_)
        rw [← HD.out] at hHeld ⊢
        refine wpAnyM_pure (i := 1) (oi := _) (v := ?_) rfl (by kernel_rfl) (fun _ _ _ h => h) (Or.inl ⟨by kernel_rfl, ?_⟩) (by assumption) ?_
        rotate_left
        · intro w' hSw
          go_simp
          try with_reducible rfl
        try simp only [List.getElem_toArray, List.getElem_cons_succ, List.getElem_cons_zero, Act.put, List.setIfInBounds_toArray, List.set_cons_zero, List.set_cons_succ]
        refine wpAnyM_pure (i := 2) (oi := _) (v := ?_) rfl (by kernel_rfl) (fun _ _ _ h => h) (Or.inl ⟨by kernel_rfl, ?_⟩) (by assumption) ?_
        rotate_left
        · intro w' hSw
          go_simp
          try with_reducible rfl
        try simp only [List.getElem_toArray, List.getElem_cons_succ, List.getElem_cons_zero, Act.put, List.setIfInBounds_toArray, List.set_cons_zero, List.set_cons_succ]
        refine wpAnyM_pure (i := 3) (oi := _) (v := ?_) rfl (by kernel_rfl) (fun _ _ _ h => h) (Or.inl ⟨by kernel_rfl, ?_⟩) (by assumption) ?_
        rotate_left
        · intro w' hSw
          have hSl' := hUr w'
          go_simp
          try with_reducible rfl
        try simp only [List.getElem_toArray, List.getElem_cons_succ, List.getElem_cons_zero, Act.put, List.setIfInBounds_toArray, List.set_cons_zero, List.set_cons_succ]
        refine wpAnyM_take (i := 5) (oi := _) (v := .agg ([.string bn, .bool false, .slice bo2 q.1 bc2] : List Value).toArray) 16 rfl (by kernel_rfl) (fun _ _ _ h => h) (yieldsIf_load_mid (by kernel_rfl) 29 (.tmp 8) rfl w2.heap.size (0) (by simp [Act.eval, Act.put]) ([.string bn, .bool false, .slice bo2 q.1 bc2] : List Value) _ (fun w h => h) Try.underlying29 rfl (info_Thing3 rfl)) (by assumption) ?_
        try simp only [List.getElem_toArray, List.getElem_cons_succ, List.getElem_cons_zero, Act.put, List.setIfInBounds_toArray, List.set_cons_zero, List.set_cons_succ]
        refine wpAnyM_pure (i := 8) (oi := _) (v := ?_) rfl (by kernel_rfl) (fun _ _ _ h => h) (Or.inl ⟨by kernel_rfl, ?_⟩) (by assumption) ?_
        rotate_left
        · intro w' hSw
          go_simp
          try with_reducible rfl
        try simp only [List.getElem_toArray, List.getElem_cons_succ, List.getElem_cons_zero, Act.put, List.setIfInBounds_toArray, List.set_cons_zero, List.set_cons_succ]
        refine wpAnyM_pure (i := 9) (oi := _) (v := ?_) rfl (by kernel_rfl) (fun _ _ _ h => h) (Or.inl ⟨by kernel_rfl, ?_⟩) (by assumption) ?_
        rotate_left
        · intro w' hSw
          go_simp
          try with_reducible rfl
        try simp only [List.getElem_toArray, List.getElem_cons_succ, List.getElem_cons_zero, Act.put, List.setIfInBounds_toArray, List.set_cons_zero, List.set_cons_succ]
        refine wpAnyM_pure (i := 10) (oi := _) (v := ?_) rfl (by kernel_rfl) (fun _ _ _ h => h) (Or.inl ⟨by kernel_rfl, ?_⟩) (by assumption) ?_
        rotate_left
        · intro w' hSw
          have hSl' := hFr w'
          go_simp
          try with_reducible rfl
        try simp only [List.getElem_toArray, List.getElem_cons_succ, List.getElem_cons_zero, Act.put, List.setIfInBounds_toArray, List.set_cons_zero, List.set_cons_succ]
        refine wpAnyM_twoS (i := 0) (j := 6) (o := _) (o' := _) rfl rfl (by kernel_rfl) (fun KC hKC => ?_) (fun KC hKC => ?_)
        · refine step_build0 rfl rfl ?_
          have bA : Below D.heap.size D (D.alloc (.cells #[] 29)) := (Below.refl _ _).alloc (Nat.le_refl _) _
          refine hKC _ _ (range_below rg9 bA hpD) ?_
          clear hKC KC
          try simp only [List.getElem_toArray, List.getElem_cons_succ, List.getElem_cons_zero, Act.put, List.setIfInBounds_toArray, List.set_cons_zero, List.set_cons_succ]
          have VL := View.lit0 (E := (layRaw 3)) (t := 29) ce ce D 0
          have zA1 : D.heap.size < (D.alloc (.cells #[] 29)).heap.size := (box_new D #[] 29).lt
          obtain ⟨D1, hD1⟩ : ∃ x, x = D.alloc (.cells #[] 29) := ⟨_, rfl⟩
          rw [← hD1] at bA VL zA1 ⊢
          clear hD1
          refine wpAnyM_twoS (i := 4) (j := 6) (o := _) (o' := _) rfl rfl (by kernel_rfl) (fun KC hKC => ?_) (fun KC hKC => ?_)
          · skip
            obtain ⟨v4, w4, cv4, runv4, V4, bw4⟩ := ins_up (lo := 0) HUS.out hUz hAU bA hiD (by omega) VL
            refine step_run2 rfl (.tmp 33) (.tmp 36) rfl (by simp [Act.eval, Act.put]) (by simp [Act.eval, Act.put]) runv4 ?_
            have b4D := bA.trans bw4
            refine hKC _ _ (range_below rg9 b4D hpD) ?_
            clear hKC KC
            try simp only [List.getElem_toArray, List.getElem_cons_succ, List.getElem_cons_zero, Act.put, List.setIfInBounds_toArray, List.set_cons_zero, List.set_cons_succ]
            refine wpAnyM_oneS (i := 6) (o := _) rfl (by kernel_rfl) (fun KC hKC => ?_)
            refine step_build1T rfl (.tmp 38) rfl bn false bo2 q.1 bc2 (by simp [Act.eval, Act.put]) ?_
            have b6 : Below w4.heap.size w4 (w4.alloc (.cells #[.string bn, .bool false, .slice bo2 q.1 bc2] 29)) := (Below.refl _ _).alloc (Nat.le_refl _) _
            have b6D := b4D.trans (b6.mono b4D.size)
            refine hKC _ _ (range_below rg9 b6D hpD) ?_
            clear hKC KC
            try simp only [List.getElem_toArray, List.getElem_cons_succ, List.getElem_cons_zero, Act.put, List.setIfInBounds_toArray, List.set_cons_zero, List.set_cons_succ]
            have V6 := V4.below b6 (Nat.zero_le _)
            have X6 : Box (w4.alloc (.cells #[.string bn, .bool false, .slice bo2 q.1 bc2] 29)) w4.heap.size ([.string bn, .bool false, .slice bo2 q.1 bc2] : List Value).toArray 29 := box_new _ _ _
            obtain ⟨v7, w7, cv7, runv7, V7, bw7⟩ := ins_one b6D hiD (by omega) V6 X6 ((layRaw 3).rd_below RR b6D hiD)
            refine wpAnyM_one (i := 7) (o := _) rfl (by kernel_rfl) (by kernel_rfl) (fun KC hKC => ?_)
            refine step_run2 rfl (.tmp 37) (.tmp 39) rfl (by simp [Act.eval, Act.put]) (by simp [Act.eval, Act.put]) runv7 ?_
            refine hKC _ _ ?_
            clear hKC KC
            try simp only [List.getElem_toArray, List.getElem_cons_succ, List.getElem_cons_zero, Act.put, List.setIfInBounds_toArray, List.set_cons_zero, List.set_cons_succ]
            have b7D := b6D.trans bw7
            obtain ⟨v8, w8, cv8, runv8, V8, bw8⟩ := ins_rest HFS.out hFz hAF b7D hiD (by omega) V7
            refine wpAnyM_one (i := 11) (o := _) rfl (by kernel_rfl) (by kernel_rfl) (fun KC hKC => ?_)
            refine step_run2 rfl (.tmp 40) (.tmp 43) rfl (by simp [Act.eval, Act.put]) (by simp [Act.eval, Act.put]) runv8 ?_
            refine hKC _ _ ?_
            clear hKC KC
            try simp only [List.getElem_toArray, List.getElem_cons_succ, List.getElem_cons_zero, Act.put, List.setIfInBounds_toArray, List.set_cons_zero, List.set_cons_succ]
            refine wpAnyM_pureL (i := 12) (oi := _) (v := ?_) rfl (by kernel_rfl) (fun _ _ _ h => h) (Or.inl ⟨by kernel_rfl, ?_⟩) ?_
            rotate_left
            · intro w' hSw
              go_simp
              try with_reducible rfl
            try simp only [List.getElem_toArray, List.getElem_cons_succ, List.getElem_cons_zero, Act.put, List.setIfInBounds_toArray, List.set_cons_zero, List.set_cons_succ]
            refine wpAnyM_done (by kernel_rfl) ?_ _
            obtain ⟨F1, F2⟩ := FIN.out w8 v8 cv8 V8 (b7D.trans bw8)
            have HF1 : Hid (OwnT (layThing.slice 29) w8 w.heap.size w8.heap.size (putD (m, y) bn q k) [v8]) := F1
            have HF2 : Hid (Below w.heap.size w w8) := F2
            clear F1 F2 V8 V7 bw7 bw8 b7D hHeld runv7 runv8 hUr hFr hUz hFz hAU hAF rg9 HUS HFS HBD
            go_wp2
            go_ret
            exact ⟨_, rfl, HF1.out, HF2.out⟩
          · refine step_build1T rfl (.tmp 38) rfl bn false bo2 q.1 bc2 (by simp [Act.eval, Act.put]) ?_
            have b6 : Below D1.heap.size D1 (D1.alloc (.cells #[.string bn, .bool false, .slice bo2 q.1 bc2] 29)) := (Below.refl _ _).alloc (Nat.le_refl _) _
            have b6D := bA.trans (b6.mono bA.size)
            refine hKC _ _ (range_below rg9 b6D hpD) ?_
            clear hKC KC
            try simp only [List.getElem_toArray, List.getElem_cons_succ, List.getElem_cons_zero, Act.put, List.setIfInBounds_toArray, List.set_cons_zero, List.set_cons_succ]
            have VL6 := VL.below b6 (Nat.zero_le _)
            have X6 : Box (D1.alloc (.cells #[.string bn, .bool false, .slice bo2 q.1 bc2] 29)) D1.heap.size ([.string bn, .bool false, .slice bo2 q.1 bc2] : List Value).toArray 29 := box_new _ _ _
            have z6 : D1.heap.size < (D1.alloc (.cells #[.string bn, .bool false, .slice bo2 q.1 bc2] 29)).heap.size := X6.lt
            have zA := bA.size
            obtain ⟨D2, hD2⟩ : ∃ x, x = D1.alloc (.cells #[.string bn, .bool false, .slice bo2 q.1 bc2] 29) := ⟨_, rfl⟩
            rw [← hD2] at b6 b6D VL6 X6 z6 ⊢
            clear hD2
            obtain ⟨v4, w4, cv4, runv4, ⟨V4, X4⟩, bw4⟩ := ins_up4 HUS.out hUz hAU b6D hiD (by omega) VL6 X6 (fun h => by simp [Value.ownBlock] at h; omega)
            refine wpAnyM_oneS (i := 4) (o := _) rfl (by kernel_rfl) (fun KC hKC => ?_)
            refine step_run2 rfl (.tmp 33) (.tmp 36) rfl (by simp [Act.eval, Act.put]) (by simp [Act.eval, Act.put]) runv4 ?_
            have b4D := b6D.trans bw4
            refine hKC _ _ (range_below rg9 b4D hpD) ?_
            clear hKC KC
            try simp only [List.getElem_toArray, List.getElem_cons_succ, List.getElem_cons_zero, Act.put, List.setIfInBounds_toArray, List.set_cons_zero, List.set_cons_succ]
            obtain ⟨v7, w7, cv7, runv7, V7, bw7⟩ := ins_one b4D hiD (by omega) V4 X4 ((layRaw 3).rd_below RR b4D hiD)
            refine wpAnyM_one (i := 7) (o := _) rfl (by kernel_rfl) (by kernel_rfl) (fun KC hKC => ?_)
            refine step_run2 rfl (.tmp 37) (.tmp 39) rfl (by simp [Act.eval, Act.put]) (by simp [Act.eval, Act.put]) runv7 ?_
            refine hKC _ _ ?_
            clear hKC KC
            try simp only [List.getElem_toArray, List.getElem_cons_succ, List.getElem_cons_zero, Act.put, List.setIfInBounds_toArray, List.set_cons_zero, List.set_cons_succ]
            have b7D := b4D.trans bw7
            obtain ⟨v8, w8, cv8, runv8, V8, bw8⟩ := ins_rest HFS.out hFz hAF b7D hiD (by omega) V7
            refine wpAnyM_one (i := 11) (o := _) rfl (by kernel_rfl) (by kernel_rfl) (fun KC hKC => ?_)
            refine step_run2 rfl (.tmp 40) (.tmp 43) rfl (by simp [Act.eval, Act.put]) (by simp [Act.eval, Act.put]) runv8 ?_
            refine hKC _ _ ?_
            clear hKC KC
            try simp only [List.getElem_toArray, List.getElem_cons_succ, List.getElem_cons_zero, Act.put, List.setIfInBounds_toArray, List.set_cons_zero, List.set_cons_succ]
            refine wpAnyM_pureL (i := 12) (oi := _) (v := ?_) rfl (by kernel_rfl) (fun _ _ _ h => h) (Or.inl ⟨by kernel_rfl, ?_⟩) ?_
            rotate_left
            · intro w' hSw
              go_simp
              try with_reducible rfl
            try simp only [List.getElem_toArray, List.getElem_cons_succ, List.getElem_cons_zero, Act.put, List.setIfInBounds_toArray, List.set_cons_zero, List.set_cons_succ]
            refine wpAnyM_done (by kernel_rfl) ?_ _
            obtain ⟨F1, F2⟩ := FIN.out w8 v8 cv8 V8 (b7D.trans bw8)
            have HF1 : Hid (OwnT (layThing.slice 29) w8 w.heap.size w8.heap.size (putD (m, y) bn q k) [v8]) := F1
            have HF2 : Hid (Below w.heap.size w w8) := F2
            clear F1 F2 V8 V7 bw7 bw8 b7D hHeld runv7 runv8 hUr hFr hUz hFz hAU hAF rg9 HUS HFS HBD
            go_wp2
            go_ret
            exact ⟨_, rfl, HF1.out, HF2.out⟩
        · refine step_build1T rfl (.tmp 38) rfl bn false bo2 q.1 bc2 (by simp [Act.eval, Act.put]) ?_
          have bA : Below D.heap.size D (D.alloc (.cells #[.string bn, .bool false, .slice bo2 q.1 bc2] 29)) := (Below.refl _ _).alloc (Nat.le_refl _) _
          refine hKC _ _ (range_below rg9 bA hpD) ?_
          clear hKC KC
          try simp only [List.getElem_toArray, List.getElem_cons_succ, List.getElem_cons_zero, Act.put, List.setIfInBounds_toArray, List.set_cons_zero, List.set_cons_succ]
          have XA : Box (D.alloc (.cells #[.string bn, .bool false, .slice bo2 q.1 bc2] 29)) D.heap.size ([.string bn, .bool false, .slice bo2 q.1 bc2] : List Value).toArray 29 := box_new _ _ _
          have zA : D.heap.size < (D.alloc (.cells #[.string bn, .bool false, .slice bo2 q.1 bc2] 29)).heap.size := XA.lt
          obtain ⟨D1, hD1⟩ : ∃ x, x = D.alloc (.cells #[.string bn, .bool false, .slice bo2 q.1 bc2] 29) := ⟨_, rfl⟩
          rw [← hD1] at bA XA zA ⊢
          clear hD1
          refine wpAnyM_oneS (i := 0) (o := _) rfl (by kernel_rfl) (fun KC hKC => ?_)
          refine step_build0 rfl rfl ?_
          have b6 : Below D1.heap.size D1 (D1.alloc (.cells #[] 29)) := (Below.refl _ _).alloc (Nat.le_refl _) _
          have b6D := bA.trans (b6.mono bA.size)
          refine hKC _ _ (range_below rg9 b6D hpD) ?_
          clear hKC KC
          try simp only [List.getElem_toArray, List.getElem_cons_succ, List.getElem_cons_zero, Act.put, List.setIfInBounds_toArray, List.set_cons_zero, List.set_cons_succ]
          have VL := (View.lit0 (E := (layRaw 3)) (t := 29) ce ce D1 0).weakL (lo' := D.heap.size) (by omega)
          have X6 := XA.below b6 zA
          obtain ⟨D2, hD2⟩ : ∃ x, x = D1.alloc (.cells #[] 29) := ⟨_, rfl⟩
          rw [← hD2] at b6 b6D VL X6 ⊢
          clear hD2
          obtain ⟨v4, w4, cv4, runv4, ⟨V4, X4⟩, bw4⟩ := ins_up4 HUS.out hUz hAU b6D hiD (by omega) VL X6 (fun h => by simp [Value.ownBlock] at h; omega)
          refine wpAnyM_oneS (i := 4) (o := _) rfl (by kernel_rfl) (fun KC hKC => ?_)
          refine step_run2 rfl (.tmp 33) (.tmp 36) rfl (by simp [Act.eval, Act.put]) (by simp [Act.eval, Act.put]) runv4 ?_
          have b4D := b6D.trans bw4
          refine hKC _ _ (range_below rg9 b4D hpD) ?_
          clear hKC KC
          try simp only [List.getElem_toArray, List.getElem_cons_succ, List.getElem_cons_zero, Act.put, List.setIfInBounds_toArray, List.set_cons_zero, List.set_cons_succ]
          obtain ⟨v7, w7, cv7, runv7, V7, bw7⟩ := ins_one b4D hiD (by omega) V4 X4 ((layRaw 3).rd_below RR b4D hiD)
          refine wpAnyM_one (i := 7) (o := _) rfl (by kernel_rfl) (by kernel_rfl) (fun KC hKC => ?_)
          refine step_run2 rfl (.tmp 37) (.tmp 39) rfl (by simp [Act.eval, Act.put]) (by simp [Act.eval, Act.put]) runv7 ?_
          refine hKC _ _ ?_
          clear hKC KC
          try simp only [List.getElem_toArray, List.getElem_cons_succ, List.getElem_cons_zero, Act.put, List.setIfInBounds_toArray, List.set_cons_zero, List.set_cons_succ]
          have b7D := b4D.trans bw7
          obtain ⟨v8, w8, cv8, runv8, V8, bw8⟩ := ins_rest HFS.out hFz hAF b7D hiD (by omega) V7
          refine wpAnyM_one (i := 11) (o := _) rfl (by kernel_rfl) (by kernel_rfl) (fun KC hKC => ?_)
          refine step_run2 rfl (.tmp 40) (.tmp 43) rfl (by simp [Act.eval, Act.put]) (by simp [Act.eval, Act.put]) runv8 ?_
          refine hKC _ _ ?_
          clear hKC KC
          try simp only [List.getElem_toArray, List.getElem_cons_succ, List.getElem_cons_zero, Act.put, List.setIfInBounds_toArray, List.set_cons_zero, List.set_cons_succ]
          refine wpAnyM_pureL (i := 12) (oi := _) (v := ?_) rfl (by kernel_rfl) (fun _ _ _ h => h) (Or.inl ⟨by kernel_rfl, ?_⟩) ?_
          rotate_left
          · intro w' hSw
            go_simp
            try with_reducible rfl
          try simp only [List.getElem_toArray, List.getElem_cons_succ, List.getElem_cons_zero, Act.put, List.setIfInBounds_toArray, List.set_cons_zero, List.set_cons_succ]
          refine wpAnyM_done (by kernel_rfl) ?_ _
          obtain ⟨F1, F2⟩ := FIN.out w8 v8 cv8 V8 (b7D.trans bw8)
          have HF1 : Hid (OwnT (layThing.slice 29) w8 w.heap.size w8.heap.size (putD (m, y) bn q k) [v8]) := F1
          have HF2 : Hid (Below w.heap.size w w8) := F2
          clear F1 F2 V8 V7 bw7 bw8 b7D hHeld runv7 runv8 hUr hFr hUz hFz hAU hAF rg9 HUS HFS HBD
          go_wp2
          go_ret
          exact ⟨_, rfl, HF1.out, HF2.out⟩
end Go.Proofs.Ytopaofcpjiicmaa
