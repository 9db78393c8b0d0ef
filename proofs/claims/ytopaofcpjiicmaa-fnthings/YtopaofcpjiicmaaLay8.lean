/- Slices gathered by append, their parts hidden; make as an element's slice. -/
import Derived.Test.YtopaofcpjiicmaaLay4
import Derived.Test.YtopaofcpjiicmaaLay5
import Derived.Test.YtopaofcpjiicmaaLay7
namespace Go.Proofs.Ytopaofcpjiicmaa
open Go.RowKit F256
set_option linter.unusedVariables false

/-- what is known of an element's type -/
structure ElInfo {α : Type} (E : Lay α) (T e : TypeId) (by_ : Nat) (zs : List Value) : Prop where
  hs : 0 < E.sz
  hzs : zs.length = E.sz
  hu : Try.prog.underlying T = some (.slice e)
  hi : (Try.prog.info? e).map (fun i => (i.zero.map (·.cells), i.size, i.bytes)) = some (some zs.toArray, E.sz, by_)
  few : by_ ≤ 1000
/-- gathered: n elements x in blocks from lo on -/
def Gat {α : Type} (E : Lay α) (t : TypeId) (w : World) (lo : Nat) (v : Value) (n : Nat) (x : Nat → α) : Prop := ∃ ce Ls, SlG E t w lo v n x ce Ls
section
variable {α : Type} {E : Lay α} {t : TypeId} {w w' : World} {lo n : Nat} {v : Value} {x : Nat → α}
theorem Gat.nil (x : Nat → α) (w : World) (lo : Nat) : Gat E t w lo (.slice none 0 0) 0 x := ⟨_, _, SlG.nil x w lo⟩
theorem Gat.form (h : Gat E t w lo v n x) : ∃ ao cap, v = .slice ao n cap := by
  obtain ⟨ce, Ls, h⟩ := h
  rcases h.row.2 with ⟨hv, hn⟩ | ⟨g, cap, cur, rfl, _⟩
  · exact ⟨none, 0, by rw [hv, hn]⟩
  · exact ⟨_, _, rfl⟩
theorem Gat.below (h : Gat E t w lo v n x) (hb : Below w.heap.size w w') : Gat E t w' lo v n x := by
  obtain ⟨ce, Ls, h⟩ := h
  exact ⟨ce, Ls, h.below hb⟩
theorem Gat.own (h : Gat E t w lo v n x) : OwnT (E.slice t) w lo w.heap.size (n, x) [v] := by
  obtain ⟨ce, Ls, h⟩ := h
  exact h.own
theorem Gat.congr {y : Nat → α} (h : Gat E t w lo v n x) (hy : ∀ i, i < n → x i = y i) : Gat E t w lo v n y := by
  obtain ⟨ce, Ls, h⟩ := h
  exact ⟨ce, Ls, h.row, fun i hi => by rw [← hy i hi]; exact h.each i hi, h.nd, h.low⟩
theorem SlG.mem_low {ce : Nat → List Value} {Ls : Nat → List Nat} (h : SlG E t w lo v n x ce Ls) : ∀ b, b ∈ v.ownBlock.toList ++ catN n Ls → lo ≤ b := fun b hb => by
  rcases List.mem_append.1 hb with h1 | h1
  · exact (h.row.lt b (by simpa using h1)).1
  · exact h.low b h1
/-- a store ahead of what is gathered -/
theorem Gat.set (h : Gat E t w lo v n x) (b j : Nat) (u : Value) (hb : b < lo) : Gat E t (w.setCell ⟨b, j, none⟩ u) lo v n x := by
  obtain ⟨ce, Ls, h⟩ := h
  exact ⟨ce, Ls, h.kept (fun k hk => heap_setCell_other w ⟨b, j, none⟩ k u (by have := h.mem_low k hk; show k ≠ b; omega))⟩
theorem Gat.weaken {lo' : Nat} (h : Gat E t w lo v n x) (hl : lo' ≤ lo) : Gat E t w lo' v n x := by
  obtain ⟨ce, Ls, h⟩ := h
  refine ⟨ce, Ls, ⟨h.row.1, ?_⟩, h.each, h.nd, fun b hb => Nat.le_trans hl (h.low b hb)⟩
  rcases h.row.2 with hn | ⟨g, cap, cur, rfl, hbg, rest⟩
  · exact .inl hn
  · exact .inr ⟨g, cap, cur, rfl, by omega, rest⟩
/-- []E{} -/
theorem gat_lit0 (x : Nat → α) (w : World) : Gat E t (w.alloc (.cells #[] t)) w.heap.size (.slice (some ⟨w.heap.size, 0, none⟩) 0 0) 0 x := by
  have h := World.ownsRow_lit (base := w.heap.size) (e := t) (size := E.sz) w #[] 0 (Nat.le_refl _) (Nat.zero_le _) (by simp)
  exact ⟨fun _ => [], fun _ => [], by simpa [catN_zero] using h, fun i hi => by omega, by simp [Value.ownBlock, catN_zero], fun b hb => by rw [catN_zero] at hb; cases hb⟩
end
theorem cells_new (w : World) (cs : List Value) (t : TypeId) (j : Nat) : (w.alloc (.cells cs.toArray t)).cell? ⟨w.heap.size, j, none⟩ = cs[j]? := by
  simp
/-- append(v, a), a made behind what is gathered and laid into a block of its own -/
theorem run_appendN {α : Type} {E : Lay α} {T e : TypeId} {by_ : Nat} {zs : List Value} (I : ElInfo E T e by_ zs) (ty : TypeId) {w1 w2 W : World} {lo n : Nat} {v : Value} {x : Nat → α} (hG : Gat E e w1 lo v n x)
    (hb : Below w1.heap.size w1 w2) {d : α} {cs : List Value} (ha : OwnT E w2 w1.heap.size w2.heap.size d cs) (hW : Below w2.heap.size w2 W) (b c : Nat) (hcell : ∀ j, j < E.sz → W.cell? ⟨b, j, none⟩ = cs[j]?) (hlo : lo ≤ w1.heap.size) (hn : n ≤ 10000000) :
    ∃ v' w', (Builtin.append_ #[T, T] ty #[v, .slice (some ⟨b, 0, none⟩) 1 c]).run Try.prog W = .ok v' w' ∧ Gat E e w' lo v' (n + 1) (upd x n d) ∧ Below lo w1 w' := by
  obtain ⟨hs, hzs, hu, hi, few⟩ := I
  obtain ⟨i0, hi0⟩ : ∃ i0, Try.prog.info? e = some i0 := by
    cases h : Try.prog.info? e with
    | none => rw [h] at hi; cases hi
    | some i0 => exact ⟨i0, rfl⟩
  rw [hi0] at hi
  simp only [Option.map_some, Option.some.injEq, Prod.mk.injEq] at hi
  obtain ⟨h1, h2, h3⟩ := hi
  obtain ⟨z, hz, hzc⟩ : ∃ z, i0.zero = some z ∧ z.cells = zs.toArray := by
    cases h : i0.zero with
    | none => rw [h] at h1; cases h1
    | some z => rw [h] at h1; exact ⟨z, rfl, by simpa using h1⟩
  obtain ⟨ce, Ls, hG1⟩ := hG
  have hbW : Below w1.heap.size w1 W := hb.trans (hW.mono hb.size)
  have hG2 : SlG E e W lo v n x ce Ls := hG1.below hbW
  obtain ⟨K, a1, a2, a3⟩ := ha
  have ha' : E.own W d cs K := E.own_kept a1 (fun k hk => hW.block k (E.own_lt a1 k hk))
  have hcs := E.own_len a1
  obtain ⟨v', w', hr, r1, r2, r3, r4⟩ := run_append_own_at (P := Try.prog) W lo T ty e i0 z E.sz by_ hu hi0 hz h2 h3 (by rw [hzc]; simpa using hzs) hs v n (catN n ce) hG2.row ⟨b, 0, none⟩ 1 c cs (by rw [hcs, Nat.one_mul])
    (fun j u hj => by
      have hlt : j < cs.length := (List.getElem?_eq_some_iff.1 hj).1
      have := hcell j (by omega)
      rw [hj] at this
      rw [add_o]
      exact this) (E.own_one ha') (by unfold maxLen; omega) (by
        have : (n + 1) * by_ ≤ 10000001 * 1000 := Nat.mul_le_mul (by omega) few
        omega) (Nat.le_trans hlo hbW.size)
  refine ⟨v', w', hr, ⟨_, _, hG2.grown ha' a2 (fun k hk => ?_) r1 r2 r4⟩, ?_⟩
  · have h5 := (a3 k hk).1
    exact ⟨by omega, fun hh => by have := hG1.mem_lt k hh; omega⟩
  · exact (hbW.mono hlo).grown r2 (Nat.le_trans hlo hbW.size) (fun k hk => (hG2.row.lt k hk).1)
theorem wp_appendN {α : Type} {E : Lay α} {T e : TypeId} {by_ : Nat} {zs : List Value} (I : ElInfo E T e by_ zs) {w1 w2 W : World} {ops : Array Oper} {rest : List Oper} {o : Oper} {a : Act} {Q : Exit → Act → World → Prop}
    (hg : o.guard = none) (s y : Operand) (hop : o.op = Op.call { callee := Callee.builtin Builtin.append, args := #[s, y], argTypes := #[T, T] })
    {lo n : Nat} {v : Value} {x : Nat → α} (hev : a.eval s = v) (hG : Gat E e w1 lo v n x)
    (hb : Below w1.heap.size w1 w2) {d : α} {cs : List Value} (ha : OwnT E w2 w1.heap.size w2.heap.size d cs) (hW : Below w2.heap.size w2 W) (b c : Nat) (hx : a.eval y = .slice (some ⟨b, 0, none⟩) 1 c) (hcell : ∀ j, j < E.sz → W.cell? ⟨b, j, none⟩ = cs[j]?) (hlo : lo ≤ w1.heap.size) (hn : n ≤ 10000000)
    (hK : ∀ v' w', Gat E e w' lo v' (n + 1) (upd x n d) → Below lo w1 w' → wpList Try.prog ops Q rest (a.put o.dst v') w') : wpList Try.prog ops Q (o :: rest) a W := by
  refine wpList_plain hg fun K hK' => ?_
  obtain ⟨v', w', hrun, r1, r2⟩ := run_appendN I o.type hG hb ha hW b c hcell hlo hn
  unfold Oper.wp
  simp [execOp, hop, resolve, invoke, builtin, hev, hx, hrun, Result.andThen]
  exact hK' _ _ (hK v' w' r1 r2)
theorem step_appendN {α : Type} {E : Lay α} {T e : TypeId} {by_ : Nat} {zs : List Value} (I : ElInfo E T e by_ zs) {w1 w2 W : World} {ops : Array Oper} {o : Oper} {a : Act} {K : Act → World → Prop} {Q : Exit → Act → World → Prop} {F : Prop}
    (hg : o.guard = none) (s y : Operand) (hop : o.op = Op.call { callee := Callee.builtin Builtin.append, args := #[s, y], argTypes := #[T, T] })
    {lo n : Nat} {v : Value} {x : Nat → α} (hev : a.eval s = v) (hG : Gat E e w1 lo v n x)
    (hb : Below w1.heap.size w1 w2) {d : α} {cs : List Value} (ha : OwnT E w2 w1.heap.size w2.heap.size d cs) (hW : Below w2.heap.size w2 W) (b c : Nat) (hx : a.eval y = .slice (some ⟨b, 0, none⟩) 1 c) (hcell : ∀ j, j < E.sz → W.cell? ⟨b, j, none⟩ = cs[j]?) (hlo : lo ≤ w1.heap.size) (hn : n ≤ 10000000)
    (hK : ∀ v' w', Gat E e w' lo v' (n + 1) (upd x n d) → Below lo w1 w' → K (a.put o.dst v') w') :
    if Region.wanted o (yielded ops a.tmps) = true then Oper.wp Try.prog o a W K Q else F := by
  have hw : Region.wanted o (yielded ops a.tmps) = true := by simp [Region.wanted, hg]
  rw [if_pos hw]
  obtain ⟨v', w', hrun, r1, r2⟩ := run_appendN I o.type hG hb ha hW b c hcell hlo hn
  unfold Oper.wp
  simp [execOp, hop, resolve, invoke, builtin, hev, hx, hrun, Result.andThen]
  exact hK v' w' r1 r2
end Go.Proofs.Ytopaofcpjiicmaa
