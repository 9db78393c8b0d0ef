/- append(v, make([]byte, m)...): m noughts behind the call's own bytes. -/
import Derived.Test.YtdnankopblkblabWAppend
namespace Go.Proofs.Ytdnankopblkblab
open Go.RowKit F256
set_option linter.unusedVariables false
set_option linter.unusedSimpArgs false

theorem zeroCells_is (m : Nat) : Builtin.zeroCells #[Value.int .u8 0] m = (cellsOf m fun _ => 0).toArray := by
  apply Array.ext'
  apply List.ext_getElem?
  intro i
  by_cases hi : i < m
  · rw [List.toList_toArray, cellsOf_get _ _ _ hi]
    simp [Builtin.zeroCells, hi, Nat.mod_one]
  · rw [List.toList_toArray, List.getElem?_eq_none (l := cellsOf m fun _ => 0) (by rw [cellsOf_length]; omega), List.getElem?_eq_none (by simp [Builtin.zeroCells]; omega)]
theorem run_appendZ (w : World) (ty : TypeId) (lo hi : Nat) (v : Value) (k : Nat) (g : Nat → Nat) (hown : Own w lo hi v k g) (hk0 : k ≠ 0) (m : Nat) (hgz : ∀ i, i < m → g (k + i) = 0) (hm : k + m ≤ 1000000) (hlo : lo ≤ w.heap.size) :
    ∃ v' w', (Builtin.append_ #[22, 2] ty #[v, .int .i64 (m : Int)]).run Try.prog w = .ok v' w' ∧ Own w' lo w'.heap.size v' (k + m) g ∧ w.grownBy w' v.ownBlock := by
  obtain ⟨i0, hi0, hz0, hz1, hz2⟩ := info_parts info_u8
  have hwm : IntKind.i64.wrap (m : Int) = (m : Int) := by rw [IntKind.wrap_i64]; omega
  have hlt : ¬ ((m : Int) < 0) := by omega
  have hbig : ¬ ((281474976710656 : Int) < (m : Int)) := by omega
  have hown2 := hown.1
  rcases hown.1.2 with ⟨_, h0⟩ | ⟨gb, cap, cur, rfl, hbg, hgg, hnc, hcm, hcs, htake⟩
  · exact absurd h0 hk0
  · rw [Nat.mul_one] at hcs
    have hgw := (Array.getElem?_eq_some_iff.1 hgg).1
    by_cases hm0 : m = 0
    · subst hm0
      have hw0 : IntKind.i64.wrap 0 = 0 := by rw [IntKind.wrap_i64]; omega
      refine ⟨.slice (some ⟨gb, 0, none⟩) k cap, w, ?_, ⟨hown.1, fun b hb => ?_⟩, grown_refl w _⟩
      · simp [Builtin.append_, run_underlying Try.underlying22, run_underlying Try.underlying2, sizeOf, typeInfo, hi0, hz1, hz2, asInt, hnc, storeCells, go_sem, hw0]
      · simp [Value.ownBlock] at hb
        omega
    · have hmz : ¬ ((m : Int) ≤ 0) := by omega
      have hm0' : ¬ (m = 0) := hm0
      have hnews : (cellsOf (k + m) g) = cellsOf k g ++ cellsOf m (fun _ => 0) := (cellsOf_join k m g (fun _ => 0) hgz).symm
      have h1 : ∀ u ∈ cellsOf m (fun _ => 0), u.oneCell' = true := cellsOf_one m _
      by_cases hroom : k + m ≤ cap
      · have hst := run_storeCells_at Try.prog gb k 5 (cellsOf m fun _ => 0) 0 cur w hgg (by rw [cellsOf_length]; omega) h1
        simp only [Nat.add_zero] at hst
        refine ⟨.slice (some ⟨gb, 0, none⟩) (k + m) cap, w.setRow gb (cur.toList.take k ++ (cellsOf m fun _ => 0) ++ cur.toList.drop (k + (cellsOf m fun _ => 0).length)).toArray, ?_, ?_, ?_⟩
        · simp [Builtin.append_, run_underlying Try.underlying22, run_underlying Try.underlying2, sizeOf, typeInfo, zeroValue, hi0, hz0, hz1, hz2, asInt, go_sem, hwm, hlt, hbig, hroom, hmz, hm0', zeroCells_is, Value.cells, Addr.add_lit, hst]
        · refine ⟨⟨by rw [cellsOf_length]; omega, .inr ⟨gb, cap, _, rfl, hbg, setRow_heap w gb cur _ 5 _ hgg, hroom, hcm, ?_, ?_⟩⟩, fun b hb => ?_⟩
          · simp [cellsOf_length]
            omega
          · have ht : List.take k cur.toList = cellsOf k g := by rw [Nat.mul_one] at htake; exact htake
            rw [ht, hnews, Nat.mul_one]
            simp only [List.append_assoc]
            rw [← List.append_assoc]
            have hle : (cellsOf k g ++ cellsOf m fun _ => 0).length = k + m := by rw [List.length_append, cellsOf_length, cellsOf_length]
            rw [← hle]
            exact List.take_left
          · simp [Value.ownBlock] at hb
            simp
            omega
        · exact ⟨rfl, rfl, rfl, by simp, fun b _ hb => setRow_other w gb b _ (fun e => hb (by simp [Value.ownBlock, e]))⟩
      · have hfo := run_firstCells_some (P := Try.prog) w.drew 1 k ⟨gb, 0, none⟩ k cap (cellsOf k g) (by rw [cellsOf_length]; omega) (by have := hown.1.cells (g := gb) rfl; simpa using this)
        have h63' : ¬ ((9223372036854775807 : Int) < (k : Int) + (m : Int)) := by omega
        have hmax : max (m : Int) 0 = (m : Int) := by omega
        have h48' : ¬ (281474976710656 < Builtin.nextslicecap (k + m) cap) := by
          have := growslice_fits (need := k + m) (old := cap) (bytes := 1) (by omega) (by omega)
          omega
        have hge := grownCap_ge w (k + m) cap 5
        refine ⟨.slice (some ⟨w.heap.size, 0, none⟩) (k + m) (grownCap w (k + m) cap 5), w.drew.alloc (.cells ((cellsOf k g).toArray ++ (cellsOf m fun _ => 0).toArray ++ Builtin.zeroCells #[.int .u8 0] (grownCap w (k + m) cap 5 - (k + m))) 5), ?_, ?_, ?_⟩
        · simp [Builtin.append_, run_underlying Try.underlying22, run_underlying Try.underlying2, sizeOf, typeInfo, zeroValue, hi0, hz0, hz1, hz2, asInt, asIntOf, hwm, hlt, hbig, hroom, hmz, hm0', h63', hmax, h48', Question.forced, hfo, newRow, grownCap, zeroCells_is, Value.cells]
        · refine ⟨⟨by rw [cellsOf_length]; omega, .inr ⟨w.heap.size, _, _, rfl, hlo, heap_alloc_new w.drew _, hge, grownCap_le_maxLen w (k + m) cap 5 (by unfold maxLen; omega), ?_, ?_⟩⟩, fun b hb => ?_⟩
          · simp [cellsOf_length, Builtin.zeroCells]
            omega
          · rw [hnews, Nat.mul_one]
            simp only [Array.toList_append, List.append_assoc]
            rw [← List.append_assoc]
            have hle : (cellsOf k g ++ cellsOf m fun _ => 0).length = k + m := by rw [List.length_append, cellsOf_length, cellsOf_length]
            rw [← hle]
            exact List.take_left
          · simp [Value.ownBlock] at hb
            simp
            omega
        · exact ⟨rfl, rfl, rfl, by simp, fun b hb _ => Below.heap_alloc w.drew _ b hb⟩
theorem step_appendZ {ops : Array Oper} {o : Oper} {a : Act} {w : World} {K : Act → World → Prop} {Q : Exit → Act → World → Prop} {E : Prop}
    (hg : o.guard = none) (s x : Operand) (hop : o.op = Op.call { callee := Callee.builtin Builtin.append, args := #[s, x], argTypes := #[22, 2] })
    (lo hi : Nat) (v : Value) (k : Nat) (g : Nat → Nat) (hs : a.eval s = v) (hown : Own w lo hi v k g) (hk0 : k ≠ 0) (m : Nat) (hx : a.eval x = .int .i64 (m : Int)) (hgz : ∀ i, i < m → g (k + i) = 0)
    (hm : k + m ≤ 1000000) (hlo : lo ≤ w.heap.size)
    (hK : ∀ v' w', Own w' lo w'.heap.size v' (k + m) g → w.grownBy w' v.ownBlock → K (a.put o.dst v') w') :
    if Region.wanted o (yielded ops a.tmps) = true then Oper.wp Try.prog o a w K Q else E := by
  have hw : Region.wanted o (yielded ops a.tmps) = true := by simp [Region.wanted, hg]
  rw [if_pos hw]
  obtain ⟨v', w', hrun, r1, r2⟩ := run_appendZ w o.type lo hi v k g hown hk0 m hgz hm hlo
  unfold Oper.wp
  simp [execOp, hop, resolve, invoke, builtin, hs, hx, hrun, Result.andThen]
  exact hK v' w' r1 r2
/-- append(v, x...) of bytes, x not empty, as a step of a region that draws -/
theorem step_appendX {ops : Array Oper} {o : Oper} {a : Act} {w : World} {K : Act → World → Prop} {Q : Exit → Act → World → Prop} {E : Prop}
    (hg : o.guard = none) (s x : Operand) (hop : o.op = Op.call { callee := Callee.builtin Builtin.append, args := #[s, x], argTypes := #[22, 22] })
    (lo hi : Nat) (v : Value) (k : Nat) (g : Nat → Nat) (hs : a.eval s = v) (hown : Own w lo hi v k g) (h : Nat) (xv : Value) (m : Nat) (f : Nat → Nat) (hx : a.eval x = xv) (hox : Rd w h xv m f) (h0 : 0 < m) (hgf : ∀ i, i < m → g (k + i) = f i)
    (hm : k + m ≤ 1000000) (hlo : lo ≤ w.heap.size)
    (hK : ∀ v' w', Own w' lo w'.heap.size v' (k + m) g → w.grownBy w' v.ownBlock → K (a.put o.dst v') w') :
    if Region.wanted o (yielded ops a.tmps) = true then Oper.wp Try.prog o a w K Q else E := by
  have hw : Region.wanted o (yielded ops a.tmps) = true := by simp [Region.wanted, hg]
  rw [if_pos hw]
  obtain ⟨v', w', hrun, r1, r2⟩ := run_appendX w o.type lo hi v k g hown h xv m f hox h0 hgf hm hlo
  unfold Oper.wp
  simp [execOp, hop, resolve, invoke, builtin, hs, hx, hrun, Result.andThen]
  exact hK v' w' r1 r2
end Go.Proofs.Ytdnankopblkblab
