/- Walks of the draws of bytes, of rows and of a system. -/
import Derived.Test.YtopaofcpjiicmaaZFnThingsB
import Derived.Lib.Overlaps
import Derived.Lib.AppendZerosOnto
import Derived.Laws.IdiomCopy
import Derived.Shelf.RegionOpenPlain
import Derived.Deep.DeepCutAuto
import Derived.Deep.RegionLaw
import Derived.Test.YtopaofcpjiicmaaFrameB
import Derived.Test.YtopaofcpjiicmaaWInts
import Derived.Test.YtopaofcpjiicmaaLay2
import Derived.Deep.Slices
import Derived.Test.YtopaofcpjiicmaaOwnM
import Derived.Deep.Matrix
import Derived.Test.YtopaofcpjiicmaaFrame
import Derived.Test.YtopaofcpjiicmaaShapeV
import Derived.ChangeSame
import Derived.ChangeMaps5
import Derived.Test.YtopaofcpjiicmaaWorldD
import Derived.Test.YtopaofcpjiicmaaCellsT
import Derived.Test.YtopaofcpjiicmaaCells
import Derived.Test.YtopaofcpjiicmaaZFnThingsA
import Derived.Test.YtopaofcpjiicmaaOwn
import Derived.BigQuiet
import Derived.Deep.QuietTactic
namespace Go.Proofs.Ytopaofcpjiicmaa
open Go.RowKit F256
set_option linter.unusedVariables false
set_option linter.unusedSimpArgs false
/-- append(v, y...) onto a row of its own -/
theorem run_appendW {α : Type} {E : Lay α} {T e : TypeId} {by_ : Nat} {zs : List Value} (I : ElInfo E T e by_ zs) (R1 : RdOne E) (ty : TypeId) {W : World} {lo hi n : Nat} {v : Value} {x : Nat → α} {ce : Nat → List Value} (h : View E e W lo hi v n x ce)
    {ao : Option Addr} {m : Nat} (c : Nat) {y : Nat → α} {cy : Nat → List Value} (hs : Src E W hi ao m y cy) (hlo : lo ≤ W.heap.size) (hhi : hi ≤ lo) (hn : n + m ≤ 10000000) (hc0 : ao = none → c = 0 ∨ m = 0) :
    ∃ v' w', (Builtin.append_ #[T, T] ty #[v, .slice ao m c]).run Try.prog W = .ok v' w' ∧ View E e w' lo hi v' (n + m) (cat2 x n y) (cat2 ce n cy) ∧ W.grownBy w' v.ownBlock ∧ Below lo W w' ∧ (v'.ownBlock = v.ownBlock ∨ v'.ownBlock = some W.heap.size) := by
  obtain ⟨hz, hzs, hu, hinf, few⟩ := I
  obtain ⟨i0, hi0⟩ : ∃ i0, Try.prog.info? e = some i0 := by
    cases h : Try.prog.info? e with
    | none => rw [h] at hinf; cases hinf
    | some i0 => exact ⟨i0, rfl⟩
  rw [hi0] at hinf
  simp only [Option.map_some, Option.some.injEq, Prod.mk.injEq] at hinf
  obtain ⟨h1, h2, h3⟩ := hinf
  obtain ⟨z, hz0, hzc⟩ : ∃ z, i0.zero = some z ∧ z.cells = zs.toArray := by
    cases h : i0.zero with
    | none => rw [h] at h1; cases h1
    | some z => rw [h] at h1; exact ⟨z, rfl, by simpa using h1⟩
  obtain ⟨hcell, hrd⟩ := hs
  have hlen : (catN m cy).length = m * E.sz := catN_len (fun j hj => E.rd_len (hrd j hj))
  have big : ∀ ad, ao = some ad → (∀ j u, (catN m cy)[j]? = some u → W.cell? (ad.add j) = some u) → ∃ v' w', (Builtin.append_ #[T, T] ty #[v, .slice ao m c]).run Try.prog W = .ok v' w' ∧ View E e w' lo hi v' (n + m) (cat2 x n y) (cat2 ce n cy) ∧ W.grownBy w' v.ownBlock ∧ Below lo W w' ∧ (v'.ownBlock = v.ownBlock ∨ v'.ownBlock = some W.heap.size) := fun ad ha hc => by
    subst ha
    obtain ⟨v', w', hr, r1, r2, r3, r4⟩ := run_append_own_at (P := Try.prog) W lo T ty e i0 z E.sz by_ hu hi0 hz0 h2 h3 (by rw [hzc]; simpa using hzs) hz v n (catN n ce) h.row ad m c (catN m cy) hlen hc
      (fun u hu => by
        obtain ⟨i, hi, hm⟩ := mem_catN.1 hu
        exact R1 _ _ _ _ (hrd i hi) u hm) (by unfold maxLen; omega) (by
        have : (n + m) * by_ ≤ 10000000 * 1000 := Nat.mul_le_mul hn few
        omega) hlo
    have hb : Below lo W w' := (Below.refl _ _).grown r2 hlo (fun k hk => (h.row.lt k hk).1)
    refine ⟨v', w', hr, ⟨by rw [catN_cat2]; exact r1, fun i hi => ?_⟩, r2, hb, r4⟩
    by_cases c1 : i < n
    · rw [cat2_lt x y c1, cat2_lt ce cy c1]
      exact E.rd_below (h.each i c1) hb hhi
    · obtain ⟨k, rfl⟩ : ∃ k, i = n + k := ⟨i - n, by omega⟩
      rw [cat2_ge, cat2_ge]
      exact E.rd_below (hrd k (by omega)) hb hhi
  by_cases hm : m = 0
  · subst hm
    cases ao with
    | some ad => exact big ad rfl (fun j u hj => by rw [catN_zero] at hj; simp at hj)
    | none =>
      refine ⟨v, W, run_append_none' W lo T ty e i0 E.sz hu hi0 v n c _ h.row, ⟨by rw [catN_cat2, catN_zero, List.append_nil]; exact h.row, fun i hi => ?_⟩, ⟨rfl, rfl, rfl, Nat.le_refl _, fun _ _ _ => rfl⟩, Below.refl _ _, .inl rfl⟩
      have hi' : i < n := by omega
      rw [cat2_lt x y hi', cat2_lt ce cy hi']
      exact h.each i hi'
  · obtain ⟨b, off, rfl, hcc⟩ := hcell hm
    refine big _ rfl (fun j u hj => ?_)
    have hj' : j < m * E.sz := by rw [← hlen]; exact (List.getElem?_eq_some_iff.1 hj).1
    have e1 : j / E.sz < m := Nat.div_lt_of_lt_mul (by rw [Nat.mul_comm]; exact hj')
    have e2 : j % E.sz < E.sz := Nat.mod_lt _ hz
    have e3 : j / E.sz * E.sz + j % E.sz = j := by rw [Nat.mul_comm]; exact Nat.div_add_mod j E.sz
    rw [add_oo, ← e3, hcc _ e1 _ e2, ← catN_get (fun j hj => E.rd_len (hrd j hj)) e1 e2, e3]
    exact hj
theorem wp_runZ {ops : Array Oper} {rest : List Oper} {o : Oper} {a : Act} {W w' : World} {Q : Exit → Act → World → Prop} {T T2 : TypeId} {v' x1 x2 : Value} (hg : o.guard = none) (s y : Operand) (hop : o.op = Op.call { callee := Callee.builtin Builtin.append, args := #[s, y], argTypes := #[T, T2] })
    (h1 : a.eval s = x1) (h2 : a.eval y = x2) (hrun : (Builtin.append_ #[T, T2] o.type #[x1, x2]).run Try.prog W = .ok v' w') (hK : wpList Try.prog ops Q rest (a.put o.dst v') w') : wpList Try.prog ops Q (o :: rest) a W := by
  refine wpList_plain hg fun K hK' => ?_
  unfold Oper.wp
  simp [execOp, hop, resolve, invoke, builtin, h1, h2, hrun, Result.andThen]
  exact hK' _ _ hK
theorem wp_runC {ops : Array Oper} {rest : List Oper} {o : Oper} {a : Act} {W w' : World} {Q : Exit → Act → World → Prop} {T : TypeId} {v' x1 x2 : Value} (hg : o.guard = none) (s y : Operand) (hop : o.op = Op.call { callee := Callee.builtin Builtin.copy, args := #[s, y], argTypes := #[T, T] })
    (h1 : a.eval s = x1) (h2 : a.eval y = x2) (hrun : (Builtin.copy_ #[T, T] o.type #[x1, x2]).run Try.prog W = .ok v' w') (hK : wpList Try.prog ops Q rest (a.put o.dst v') w') : wpList Try.prog ops Q (o :: rest) a W := by
  refine wpList_plain hg fun K hK' => ?_
  unfold Oper.wp
  simp [execOp, hop, resolve, invoke, builtin, h1, h2, hrun, Result.andThen]
  exact hK' _ _ hK
theorem step_runC {ops : Array Oper} {o : Oper} {a : Act} {W w' : World} {K : Act → World → Prop} {Q : Exit → Act → World → Prop} {F : Prop} {T : TypeId} {v' x1 x2 : Value} (hg : o.guard = none) (s y : Operand) (hop : o.op = Op.call { callee := Callee.builtin Builtin.copy, args := #[s, y], argTypes := #[T, T] })
    (h1 : a.eval s = x1) (h2 : a.eval y = x2) (hrun : (Builtin.copy_ #[T, T] o.type #[x1, x2]).run Try.prog W = .ok v' w') (hK : K (a.put o.dst v') w') : if Region.wanted o (yielded ops a.tmps) = true then Oper.wp Try.prog o a W K Q else F := by
  have hw : Region.wanted o (yielded ops a.tmps) = true := by simp [Region.wanted, hg]
  rw [if_pos hw]
  unfold Oper.wp
  simp [execOp, hop, resolve, invoke, builtin, h1, h2, hrun, Result.andThen]
  exact hK
theorem run_copyK (w : World) (ty : TypeId) (b o dLen dCap : Nat) (a : Addr) (sLen sCap n : Nat) (cs : List Value) (hn : n = Nat.min sLen dLen) (hcl : cs.length = n * 3)
    (hsrc : ∀ j v, cs[j]? = some v → w.cell? (a.add j) = some v) (hc : ∀ j, j < cs.length → (w.cell? ⟨b, o + j, none⟩).isSome = true) (hf : ∀ j, j < cs.length → w.frozen? ⟨b, o + j, none⟩ = false) (h1 : ∀ v ∈ cs, v.oneCell' = true) :
    (Builtin.copy_ #[24, 24] ty #[.slice (some ⟨b, o, none⟩) dLen dCap, .slice (some a) sLen sCap]).run Try.prog w = .ok (goInt n) (w.setCells b o cs) := by
  have hl := run_loadCells_list (P := Try.prog) w a cs hsrc
  have hst := run_storeCells_cells (P := Try.prog) b o cs 0 w (by simpa using hc) (by simpa using hf) h1
  have hs := size_Thing
  cases hq : Try.prog.info? 29 with
  | none => simp [hq] at hs
  | some i =>
    have hi : i.size = 3 := by simpa [hq] using hs
    rw [hcl] at hl
    simp [Builtin.copy_, run_underlying Try.underlying24, Builtin.lenOf, Builtin.firstCells, sizeOf, typeInfo, hq, hi, ← hn, hl, hst]
/-- a row that has room, one longer -/
theorem row_more {w : World} {g cap n : Nat} {xs : List Value} (h : w.ownsRow 0 29 3 (.slice (some ⟨g, 0, none⟩) n cap) n xs) (hr : n + 1 ≤ cap) : ∃ z, z.length = 3 ∧ w.ownsRow 0 29 3 (.slice (some ⟨g, 0, none⟩) (n + 1) cap) (n + 1) (xs ++ z) := by
  have hl := h.1
  rcases h.2 with ⟨hn, _⟩ | ⟨g', cap', cur, he, hbg, hgg, hnc, hcm, hcs, htk⟩
  · cases hn
  · cases he
    have h3 : (n + 1) * 3 ≤ cap * 3 := Nat.mul_le_mul_right 3 hr
    have h7 : cur.toList.length = cap * 3 := by simpa using hcs
    refine ⟨(cur.toList.drop (n * 3)).take 3, by simp only [List.length_take, List.length_drop]; omega, by simp only [List.length_append, List.length_take, List.length_drop]; omega, .inr ⟨g, cap, cur, rfl, hbg, hgg, hr, hcm, hcs, ?_⟩⟩
    rw [show (n + 1) * 3 = n * 3 + 3 by omega, List.take_add, htk]
theorem spl_len (cs : List Value) : ∀ (xs : List Value) (o : Nat), (spl xs o cs).length = xs.length := by
  induction cs with
  | nil => intro xs o; rfl
  | cons v r ih => intro xs o; show (spl (xs.set o v) (o + 1) r).length = _; rw [ih, List.length_set]
theorem ins_get {X ct : List Value} {n i : Nat} (hX : X.length = n * 3) (hc : ct.length = 3) (hi : i ≤ n) (j : Nat) : (X.take (i * 3) ++ (ct ++ X.drop (i * 3)))[j]? = if j < i * 3 then X[j]? else if j < i * 3 + 3 then ct[j - i * 3]? else X[j - 3]? := by
  have ht : (X.take (i * 3)).length = i * 3 := by rw [List.length_take]; omega
  by_cases c1 : j < i * 3
  · rw [if_pos c1, List.getElem?_append_left (by omega), List.getElem?_take, if_pos c1]
  · rw [if_neg c1, List.getElem?_append_right (by omega), ht]
    by_cases c2 : j < i * 3 + 3
    · rw [if_pos c2, List.getElem?_append_left (by omega)]
    · rw [if_neg c2, List.getElem?_append_right (by omega), hc, List.getElem?_drop]
      congr 1
      omega
theorem spl_shift {X z ct : List Value} {n i : Nat} (hX : X.length = n * 3) (hz : z.length = 3) (hc : ct.length = 3) (hi : i ≤ n) : spl (spl (X ++ z) ((i + 1) * 3) (X.drop (i * 3))) (i * 3) ct = X.take (i * 3) ++ (ct ++ X.drop (i * 3)) := by
  have hd : (X.drop (i * 3)).length = n * 3 - i * 3 := by rw [List.length_drop]; omega
  have hl : (X ++ z).length = n * 3 + 3 := by rw [List.length_append]; omega
  apply List.ext_getElem?
  intro j
  rw [ins_get hX hc hi, spl_get _ _ _ _ (by rw [spl_len]; omega), spl_get _ _ _ _ (by omega)]
  by_cases c1 : j < i * 3
  · rw [if_neg (by omega), if_neg (by omega), if_pos c1, List.getElem?_append_left (by omega)]
  · rw [if_neg c1]
    by_cases c2 : j < i * 3 + 3
    · rw [if_pos (by omega), if_pos c2]
    · rw [if_neg (by omega), if_neg c2]
      by_cases c3 : j < n * 3 + 3
      · rw [if_pos (by omega), List.getElem?_drop]
        congr 1
        omega
      · rw [if_neg (by omega), List.getElem?_eq_none (by omega), List.getElem?_eq_none (by omega)]
theorem spl_grow {X Y ct : List Value} {n i : Nat} (hX : X.length = n * 3) (hY : Y.length = (n + 1) * 3) (hc : ct.length = 3) (hi : i ≤ n) (hYX : ∀ j, j < i * 3 → Y[j]? = X[j]?) : spl (spl Y (i * 3) ct) ((i + 1) * 3) (X.drop (i * 3)) = X.take (i * 3) ++ (ct ++ X.drop (i * 3)) := by
  have hd : (X.drop (i * 3)).length = n * 3 - i * 3 := by rw [List.length_drop]; omega
  apply List.ext_getElem?
  intro j
  rw [ins_get hX hc hi, spl_get _ _ _ _ (by rw [spl_len]; omega), spl_get _ _ _ _ (by omega)]
  by_cases c1 : j < i * 3
  · rw [if_neg (by omega), if_neg (by omega), if_pos c1, hYX j c1]
  · rw [if_neg c1]
    by_cases c2 : j < i * 3 + 3
    · rw [if_neg (by omega), if_pos (by omega), if_pos c2]
    · rw [if_neg c2]
      by_cases c3 : j < n * 3 + 3
      · rw [if_pos (by omega), List.getElem?_drop]
        congr 1
        omega
      · rw [if_neg (by omega), if_neg (by omega), List.getElem?_eq_none (by omega), List.getElem?_eq_none (by omega)]
theorem catN_parts {ce : Nat → List Value} {n i : Nat} (h : ∀ k, k < n → (ce k).length = 3) (hi : i ≤ n) (ct : List Value) : (catN n ce).take (i * 3) ++ (ct ++ (catN n ce).drop (i * 3)) = catN (n + 1) (insF ce i ct) := by
  have e : catN n ce = catN i ce ++ catN (n - i) (fun k => ce (i + k)) := by
    have := catN_split ce i (n - i)
    rw [show i + (n - i) = n by omega] at this
    exact this
  have hl : (catN i ce).length = i * 3 := catN_len (fun k hk => h k (by omega))
  rw [catN_insF ce ct hi, catN_take h hi, e, ← hl, List.drop_left]
/-- what slices.Insert hands back -/
def InsPost (v : Value) (n i : Nat) (ce : Nat → List Value) (ct : List Value) (w : World) (e : Ending) (w' : World) : Prop := ∃ v', e = .returned v' ∧ w'.ownsRow 0 29 3 v' (n + 1) (catN (n + 1) (insF ce i ct)) ∧ (∀ b, v'.ownBlock = some b → v.ownBlock = some b ∨ w.heap.size ≤ b) ∧ ChgL v.ownBlock.toList w w'
set_option maxHeartbeats 16000000 in
set_option maxRecDepth 100000 in
theorem insert_end (v : Value) (n : Nat) (ce : Nat → List Value) (vb : Nat) (ct : List Value) (w : World) (V : View (layRaw 3) 29 w 0 0 v n ce ce) (hct : ct.length = 3) (h1 : ∀ u, u ∈ ct → u.oneCell' = true) (hX : Box w vb ct.toArray 29) (hn : n ≤ 1100000) :
    Calls Try.prog 17 #[v, .int .i64 (n : Int), .slice (some ⟨vb, 0, none⟩) 1 1] w (InsPost v n n ce ct w) := by
  obtain ⟨aF, cF, hFr, -, -, -⟩ := V.from_ (Nat.zero_le _) (al := n) (Nat.le_refl _)
  obtain ⟨v', w', hrun, V', hgr, hb', hblk⟩ := run_appendW el_Raw3 rdOne_raw3 24 V 1 (src_one (b := vb) (hi := 0) (y := ct) (cs := ct) (fun j hj => by rw [hX.cell j]; simp) ⟨rfl, hct, h1⟩) (Nat.zero_le _) (Nat.le_refl _) (by omega) (fun h => by cases h)
  obtain ⟨ar, cr, rfl⟩ := V.form
  have HP : Hid (InsPost (.slice ar n cr) n n ce ct w (.returned v') w') := ⟨v', rfl, by
    have e9 : catN (n + 1) (cat2 ce n fun _ => ct) = catN (n + 1) (insF ce n ct) := catN_congr (fun k hk => by
      by_cases c : k < n
      · rw [cat2_lt _ _ c, insF_lt _ _ c]
      · obtain rfl : k = n := by omega
        have := cat2_ge ce k (fun _ => ct) 0
        rw [Nat.add_zero] at this
        rw [this, insF_at])
    rw [← e9]
    exact V'.row, fun b hb => by
      rcases hblk with h | h
      · exact .inl (by rw [← h]; exact hb)
      · rw [h] at hb; cases hb; exact .inr (Nat.le_refl _), ⟨hgr.os, hgr.tape, hgr.output, hgr.size, fun b hb hn => hgr.block b hb (fun h => hn (by rw [← h]; simp))⟩⟩
  clear V V' hgr hb' hblk hX h1 hct
  go_enter Try.func17, Try.ntmps17
  go_wp2_with (at_builtin; refine wp_run2 rfl (.tmp 23) (.tmp 24) rfl ?_ ?_ hrun ?_; (simp [Act.eval]); (simp [Act.eval]))
  go_ret
  exact HP.out
set_option maxHeartbeats 16000000 in
set_option maxRecDepth 100000 in
theorem insert_shift (g cap n i : Nat) (ce : Nat → List Value) (vb : Nat) (ct : List Value) (w : World) (V : View (layRaw 3) 29 w 0 0 (.slice (some ⟨g, 0, none⟩) n cap) n ce ce) (hct : ct.length = 3) (h1 : ∀ u, u ∈ ct → u.oneCell' = true) (hX : Box w vb ct.toArray 29) (hvb : vb ≠ g) (hi : i < n) (hroom : n + 1 ≤ cap) (hn : n ≤ 1100000) :
    Calls Try.prog 17 #[.slice (some ⟨g, 0, none⟩) n cap, .int .i64 (i : Int), .slice (some ⟨vb, 0, none⟩) 1 1] w (InsPost (.slice (some ⟨g, 0, none⟩) n cap) n i ce ct w) := by
  have hc63 : cap ≤ 9223372036854775807 := by
    rcases V.row.2 with ⟨h, _⟩ | ⟨g', cap', cur, he, hbg, hgg, hnc, hcm, _⟩
    · cases h
    · cases he; unfold maxLen at hcm; omega
  have hlen := V.lens
  obtain ⟨z, hz, hrow⟩ := row_more V.row hroom
  have hXl : (catN n ce).length = n * 3 := catN_len hlen
  obtain ⟨X, hXe⟩ : ∃ X, X = catN n ce := ⟨_, rfl⟩
  rw [← hXe] at hrow hXl
  have hdl : (X.drop (i * 3)).length = (n - i) * 3 := by rw [List.length_drop, hXl, ← Nat.sub_mul]
  have hcell : ∀ j, j < (n + 1) * 3 → w.cell? ⟨g, j, none⟩ = (X ++ z)[j]? := fun j hj => hrow.cellAt j hj
  have hcX : ∀ j v, X[j]? = some v → w.cell? ⟨g, j, none⟩ = some v := fun j v hj => by
    have : j < X.length := (List.getElem?_eq_some_iff.1 hj).1
    rw [hcell j (by omega), List.getElem?_append_left this, hj]
  have hsp : ∀ j, j < (n + 1) * 3 → (w.cell? ⟨g, j, none⟩).isSome = true := fun j hj => by
    rw [hcell j hj, List.getElem?_eq_getElem (by rw [List.length_append]; omega)]; rfl
  have hfz : ∀ j, w.frozen? ⟨g, j, none⟩ = false := fun j => hrow.frozenAt j
  have h1X : ∀ u, u ∈ X → u.oneCell' = true := fun u hu => by
    rw [hXe] at hu
    obtain ⟨k, hk, hu⟩ := mem_catN.1 hu
    exact (V.each k hk).2.2 u hu
  have hz1 : ¬ ((1 : Int) = 0) := by omega
  have hz2 : ¬ ((i : Int) = (n : Int)) := by omega
  have hs1 : ∀ w', (Instr.slice 24 (.slice (some ⟨g, 0, none⟩) n cap) (some (.int .i64 (i : Int))) none none).run Try.prog w' = .ok (.slice (some ⟨g, i * 3, none⟩) (n - i) (cap - i)) w' := fun w' => by
    have := run_from9 g n cap i (by omega) w'
    rw [if_neg (by omega)] at this
    exact this
  have hs2 : ∀ w', (Instr.slice 24 (.slice (some ⟨g, 0, none⟩) n cap) none (some (.int .i64 ((n : Int) + 1))) none).run Try.prog w' = .ok (.slice (some ⟨g, 0, none⟩) (n + 1) cap) w' := fun w' => by
    have e1 : ((n : Int) + 1) ≤ (cap : Int) := by omega
    have e2 : n + 1 ≤ cap := hroom
    simp [Instr.slice, run_underlying Try.underlying24, Instr.sliceBounds, Instr.sliceBound, asIntOf, go_sem, e1, e2]
    omega
  have hs3 : ∀ w', (Instr.slice 24 (.slice (some ⟨g, 0, none⟩) (n + 1) cap) (some (.int .i64 ((i : Int) + 1))) none none).run Try.prog w' = .ok (.slice (some ⟨g, (i + 1) * 3, none⟩) (n - i) (cap - (i + 1))) w' := fun w' => by
    have := run_from9 g (n + 1) cap (i + 1) (by omega) w'
    rw [if_neg (by omega), show n + 1 - (i + 1) = n - i by omega] at this
    exact this
  have hs4 : ∀ w', (Instr.slice 24 (.slice (some ⟨g, 0, none⟩) (n + 1) cap) (some (.int .i64 (i : Int))) none none).run Try.prog w' = .ok (.slice (some ⟨g, i * 3, none⟩) (n + 1 - i) (cap - i)) w' := fun w' => by
    have := run_from9 g (n + 1) cap i (by omega) w'
    rw [if_neg (by omega)] at this
    exact this
  have hsa : w.shape? vb = some (29, ct.length) := by unfold Box at hX; unfold World.shape?; rw [hX]; simp
  have hsb : ∃ k, w.shape? g = some (29, k) ∧ k ≠ 0 := by
    rcases V.row.2 with ⟨h, _⟩ | ⟨g', cap', cur, he, hbg, hgg, hnc, hcm, hcs, _⟩
    · cases h
    · cases he
      refine ⟨cur.size, by unfold World.shape?; rw [hgg], ?_⟩
      have : cap * 3 ≠ 0 := by omega
      rw [hcs]; exact this
  obtain ⟨kB, hsb, hkB⟩ := hsb
  have hov : ∀ lb cb, (callFunc 29 #[.slice (some ⟨vb, 0, none⟩) 1 1, .slice (some ⟨g, (i + 1) * 3, none⟩) lb cb]).run Try.prog w = .ok (.value (.bool false)) w := fun lb cb => by
    rw [run_callFunc_extern Try.func29 (by kernel_rfl) (by kernel_rfl) (by kernel_rfl) (e := Extern.SlicesOverlaps.overlaps #[24, 24] #[4]) (by kernel_rfl),
      Lib.run_overlaps_apart w 24 4 29 Try.underlying24 3 (fun w => by kernel_rfl) ⟨vb, 0, none⟩ ⟨g, (i + 1) * 3, none⟩ 1 1 lb cb hvb 29 29 ct.length kB hsa hsb hkB (hX.frozen 0) (hX.frozen _)]
    rfl
  have hcp1 : ∀ ty dc sc, (Builtin.copy_ #[24, 24] ty #[.slice (some ⟨g, (i + 1) * 3, none⟩) (n - i) dc, .slice (some ⟨g, i * 3, none⟩) (n + 1 - i) sc]).run Try.prog w.drew = .ok (goInt ((n - i : Nat) : Int)) (w.drew.setCells g ((i + 1) * 3) (X.drop (i * 3))) := fun ty dc sc =>
    run_copyK w.drew ty g ((i + 1) * 3) (n - i) dc ⟨g, i * 3, none⟩ (n + 1 - i) sc (n - i) (X.drop (i * 3)) (by simp only [Nat.min_def]; split <;> omega) hdl
      (fun j v hj => by rw [add_oo]; exact hcX (i * 3 + j) v (by rwa [List.getElem?_drop] at hj))
      (fun j hj => hsp _ (by rw [hdl] at hj; have := Nat.sub_mul n i 3; omega)) (fun j hj => hfz _) (fun v hv => h1X v (List.mem_of_mem_drop hv))
  obtain ⟨W1, hW1⟩ : ∃ W1, W1 = w.drew.setCells g ((i + 1) * 3) (X.drop (i * 3)) := ⟨_, rfl⟩
  rw [← hW1] at hcp1
  have hr1 : W1.ownsRow 0 29 3 (.slice (some ⟨g, 0, none⟩) (n + 1) cap) (n + 1) (spl (X ++ z) ((i + 1) * 3) (X.drop (i * 3))) := by
    rw [hW1]
    exact row_setCells (X.drop (i * 3)) w.drew (X ++ z) _ hrow
  have hC1 : ChgL [g] w W1 := by
    rw [hW1]
    have hd : ChgL [g] w w.drew := ⟨rfl, rfl, rfl, Nat.le_refl _, fun _ _ _ => rfl⟩
    exact hd.trans (chgL_setCells g _ w.drew _)
  have hl1 : (spl (X ++ z) ((i + 1) * 3) (X.drop (i * 3))).length = (n + 1) * 3 := hr1.1
  have hcp2 : ∀ ty dc, (Builtin.copy_ #[24, 24] ty #[.slice (some ⟨g, i * 3, none⟩) (n + 1 - i) dc, .slice (some ⟨vb, 0, none⟩) 1 1]).run Try.prog W1 = .ok (goInt 1) (W1.setCells g (i * 3) ct) := fun ty dc =>
    run_copyK W1 ty g (i * 3) (n + 1 - i) dc ⟨vb, 0, none⟩ 1 1 1 ct (by simp only [Nat.min_def]; split <;> omega) (by omega)
      (fun j v hj => by
        have hb := hC1.block vb hX.lt (by simp; exact hvb)
        have e9 : W1.cell? ⟨vb, j, none⟩ = w.cell? ⟨vb, j, none⟩ := by simp [World.cell?, hb]
        rw [add_oo, Nat.zero_add, e9, hX.cell j]
        simpa using hj)
      (fun j hj => by rw [hr1.cellAt _ (by omega), List.getElem?_eq_getElem (by omega)]; rfl) (fun j hj => hr1.frozenAt _) h1
  have HP : Hid (InsPost (.slice (some ⟨g, 0, none⟩) n cap) n i ce ct w (.returned (.slice (some ⟨g, 0, none⟩) (n + 1) cap)) (W1.setCells g (i * 3) ct)) := ⟨_, rfl, by
    have h9 := row_setCells ct W1 _ (i * 3) hr1
    rw [spl_shift hXl hz hct (by omega), hXe, catN_parts hlen (by omega) ct] at h9
    exact h9, fun b hb => .inl hb, by
      have : (Value.slice (some ⟨g, 0, none⟩) n cap).ownBlock.toList = [g] := rfl
      rw [this]
      exact hC1.trans (chgL_setCells g ct W1 _)⟩
  have hw1 : IntKind.i64.wrap ((i : Int) + 1) = (i : Int) + 1 := by rw [IntKind.wrap_i64]; omega
  have hw2 : IntKind.i64.wrap ((n : Int) + 1) = (n : Int) + 1 := by rw [IntKind.wrap_i64]; omega
  have hg1 : ¬ ((cap : Int) < (n : Int) + 1) := by omega
  clear V hX hct h1 hlen hz hrow hXl hXe hdl hcell hcX hsp hfz h1X hsa hsb hkB hW1 hr1 hC1 hl1
  go_enter Try.func17, Try.ntmps17
  go_wp2_with (simp only [hov])
  go_region_law (refine step_runC rfl (.tmp 73) (.tmp 76) rfl ?_ ?_ (hcp1 _ _ _) ?_; (simp [Act.eval, Act.put]); (simp [Act.eval, Act.put]))
  all_goals
    go_wp2_with (at_builtin; refine wp_runC rfl (.tmp 80) (.tmp 81) rfl ?_ ?_ (hcp2 _ _) ?_; (simp [Act.eval]); (simp [Act.eval]))
    go_ret
    exact HP.out
set_option maxHeartbeats 16000000 in
set_option maxRecDepth 100000 in
theorem zero_Thing9 : (Try.prog.info? 29).map (fun i => (i.zero, i.size, i.bytes)) = some (some (.agg #[.string ⟨#[]⟩, .bool false, .slice none 0 0]), 3, 48) := by kernel_rfl
set_option maxHeartbeats 16000000 in
set_option maxRecDepth 100000 in
theorem insert_grow (g cap n i : Nat) (ce : Nat → List Value) (vb : Nat) (ct : List Value) (w : World) (V : View (layRaw 3) 29 w 0 0 (.slice (some ⟨g, 0, none⟩) n cap) n ce ce) (hct : ct.length = 3) (h1 : ∀ u, u ∈ ct → u.oneCell' = true) (hX : Box w vb ct.toArray 29) (hvb : vb ≠ g) (hi : i < n) (hroom : cap < n + 1) (hn : n ≤ 1100000) :
    Calls Try.prog 17 #[.slice (some ⟨g, 0, none⟩) n cap, .int .i64 (i : Int), .slice (some ⟨vb, 0, none⟩) 1 1] w (InsPost (.slice (some ⟨g, 0, none⟩) n cap) n i ce ct w) := by
  have hnc : n ≤ cap := by
    rcases V.row.2 with ⟨h, _⟩ | ⟨g', cap', cur, he, hbg, hgg, hnc, _⟩
    · cases h
    · cases he; exact hnc
  have hlen := V.lens
  have hgw : g < w.heap.size := (V.row.lt g rfl).2
  have hvw : vb < w.heap.size := hX.lt
  have hrow := V.row
  have hXl : (catN n ce).length = n * 3 := catN_len hlen
  obtain ⟨X, hXe⟩ : ∃ X, X = catN n ce := ⟨_, rfl⟩
  rw [← hXe] at hrow hXl
  have hdl : (X.drop (i * 3)).length = (n - i) * 3 := by rw [List.length_drop, hXl, ← Nat.sub_mul]
  have htl : (X.take (i * 3)).length = i * 3 := by rw [List.length_take]; omega
  have hcX : ∀ j v, X[j]? = some v → w.cell? ⟨g, j, none⟩ = some v := fun j v hj => by
    have : j < X.length := (List.getElem?_eq_some_iff.1 hj).1
    have h9 := hrow.cellAt j (show j < n * 3 by omega)
    rw [h9, hj]
  have h1X : ∀ u, u ∈ X → u.oneCell' = true := fun u hu => by
    rw [hXe] at hu
    obtain ⟨k, hk, hu⟩ := mem_catN.1 hu
    exact (V.each k hk).2.2 u hu
  obtain ⟨i0, hi0, hz0, hzs, hzb⟩ : ∃ i0, Try.prog.info? 29 = some i0 ∧ i0.zero = some (.agg #[.string ⟨#[]⟩, .bool false, .slice none 0 0]) ∧ i0.size = 3 ∧ i0.bytes = 48 := by
    have h := zero_Thing9
    cases hq : Try.prog.info? 29 with
    | none => rw [hq] at h; cases h
    | some i0 =>
      rw [hq] at h
      simp only [Option.map_some, Option.some.injEq, Prod.mk.injEq] at h
      exact ⟨i0, rfl, h.1, h.2.1, h.2.2⟩
  have hik : i + (n + 1 - i) = n + 1 := by omega
  have hold : (Builtin.firstCells i0.size i (.slice (some ⟨g, 0, none⟩) i cap)).run Try.prog w.drew = .ok (X.take (i * 3)).toArray w.drew := by
    rw [hzs]
    exact run_firstCells_some w.drew 3 i ⟨g, 0, none⟩ i cap (X.take (i * 3)) (by rw [htl]) (fun j v hj => by
      rw [add_oo, Nat.zero_add]
      rw [List.getElem?_take] at hj
      split at hj
      · exact hcX j v hj
      · cases hj)
  have hG0 := grownCap_ge w (n + 1) cap 29
  have hG1 := grownCap_le_maxLen w (n + 1) cap 29 (by unfold maxLen; omega)
  obtain ⟨G, hG⟩ : ∃ G, G = grownCap w (n + 1) cap 29 := ⟨_, rfl⟩
  obtain ⟨ROW, hROW⟩ : ∃ ROW : Array Value, ROW = (X.take (i * 3)).toArray ++ (Builtin.zeroCells #[.string ⟨#[]⟩, .bool false, .slice none 0 0] (n + 1 - i)) ++ (Builtin.zeroCells #[.string ⟨#[]⟩, .bool false, .slice none 0 0] (G - (n + 1))) := ⟨_, rfl⟩
  have hrz : (Builtin.append_ #[24, 3] 24 #[.slice (some ⟨g, 0, none⟩) i cap, .int .i64 ((n : Int) + 1 - (i : Int))]).run Try.prog w = .ok (.slice (some ⟨w.heap.size, 0, none⟩) (n + 1) G) (w.drew.alloc (.cells ROW 29)) := by
    have h := Lib.run_append_grow_zeros w 24 3 24 29 i0 _ .i64 .i64 Try.underlying24 Try.underlying3 hi0 hz0 (some ⟨g, 0, none⟩) i cap (X.take (i * 3)) hold (n + 1 - i) (by omega) (by omega) (by omega) (by omega) (by rw [hzb]; omega) (by
      rw [hzb, hik]
      exact growslice_fits hroom (by omega))
    rw [hik, ← hG] at h
    have e1 : (n : Int) + 1 - (i : Int) = ((n + 1 - i : Nat) : Int) := by omega
    rw [e1, hROW]
    exact h
  rw [← hG] at hG0 hG1
  unfold maxLen at hG1
  have hRl : ROW.size = G * 3 := by
    rw [hROW]
    simp [Builtin.zeroCells, htl]
    omega
  have hS : (w.drew.alloc (.cells ROW 29)).ownsRow 0 29 3 (.slice (some ⟨w.heap.size, 0, none⟩) (n + 1) G) (n + 1) (ROW.toList.take ((n + 1) * 3)) := by
    have h7 : ROW.toList.length = G * 3 := by simpa using hRl
    refine ⟨by rw [List.length_take]; omega, .inr ⟨w.heap.size, G, ROW, rfl, Nat.zero_le _, box_new w.drew ROW 29, hG0, by unfold maxLen; omega, hRl, rfl⟩⟩
  have hYX : ∀ j, j < i * 3 → (ROW.toList.take ((n + 1) * 3))[j]? = X[j]? := fun j hj => by
    rw [List.getElem?_take, if_pos (by omega), hROW]
    simp only [Array.toList_append, List.append_assoc]
    rw [List.getElem?_append_left (by simp [htl]; exact hj)]
    rw [List.getElem?_take, if_pos hj]
  obtain ⟨W1, hW1⟩ : ∃ W1, W1 = w.drew.alloc (.cells ROW 29) := ⟨_, rfl⟩
  rw [← hW1] at hrz hS
  have b01 : Below w.heap.size w W1 := by
    rw [hW1]
    have hd : Below w.heap.size w w.drew := ⟨rfl, rfl, rfl, Nat.le_refl _, fun _ _ => rfl⟩
    exact hd.alloc (show w.heap.size ≤ w.heap.size from Nat.le_refl _) _
  obtain ⟨S, hSe⟩ : ∃ S, S = w.heap.size := ⟨_, rfl⟩
  rw [← hSe] at hrz hS
  have hgS : g ≠ S := by omega
  have hvS : vb ≠ S := by omega
  obtain ⟨Y, hYe⟩ : ∃ Y, Y = ROW.toList.take ((n + 1) * 3) := ⟨_, rfl⟩
  rw [← hYe] at hS hYX
  have hYl : Y.length = (n + 1) * 3 := hS.1
  have hc1 : ∀ b j, b < w.heap.size → W1.cell? ⟨b, j, none⟩ = w.cell? ⟨b, j, none⟩ := fun b j hb => b01.cell (p := ⟨b, j, none⟩) hb
  have hcpA : ∀ ty dc, (Builtin.copy_ #[24, 24] ty #[.slice (some ⟨S, i * 3, none⟩) (n + 1 - i) dc, .slice (some ⟨vb, 0, none⟩) 1 1]).run Try.prog W1 = .ok (goInt ((1 : Nat) : Int)) (W1.setCells S (i * 3) ct) := fun ty dc =>
    run_copyK W1 ty S (i * 3) (n + 1 - i) dc ⟨vb, 0, none⟩ 1 1 1 ct (by simp only [Nat.min_def]; split <;> omega) (by omega)
      (fun j v hj => by
        rw [add_oo, Nat.zero_add, hc1 vb j hvw, hX.cell j]
        simpa using hj)
      (fun j hj => by rw [hS.cellAt _ (by omega), List.getElem?_eq_getElem (by omega)]; rfl) (fun j hj => hS.frozenAt _) h1
  obtain ⟨W2, hW2⟩ : ∃ W2, W2 = W1.setCells S (i * 3) ct := ⟨_, rfl⟩
  rw [← hW2] at hcpA
  have hr2 : W2.ownsRow 0 29 3 (.slice (some ⟨S, 0, none⟩) (n + 1) G) (n + 1) (spl Y (i * 3) ct) := by
    rw [hW2]
    exact row_setCells ct W1 Y _ hS
  have hC2 : ChgL [S] W1 W2 := by
    rw [hW2]
    exact chgL_setCells S ct W1 _
  have hl2 : (spl Y (i * 3) ct).length = (n + 1) * 3 := hr2.1
  have hcpB : ∀ ty dc sc, (Builtin.copy_ #[24, 24] ty #[.slice (some ⟨S, (i + 1) * 3, none⟩) (n - i) dc, .slice (some ⟨g, i * 3, none⟩) (n - i) sc]).run Try.prog W2.drew = .ok (goInt ((n - i : Nat) : Int)) (W2.drew.setCells S ((i + 1) * 3) (X.drop (i * 3))) := fun ty dc sc =>
    run_copyK W2.drew ty S ((i + 1) * 3) (n - i) dc ⟨g, i * 3, none⟩ (n - i) sc (n - i) (X.drop (i * 3)) (by simp only [Nat.min_def]; split <;> omega) hdl
      (fun j v hj => by
        have hb := hC2.block g (Nat.lt_of_lt_of_le hgw b01.size) (by simp; exact hgS)
        have e9 : W2.drew.cell? ⟨g, i * 3 + j, none⟩ = W1.cell? ⟨g, i * 3 + j, none⟩ := by
          show W2.cell? _ = _
          simp [World.cell?, hb]
        rw [add_oo, e9, hc1 g _ hgw]
        exact hcX (i * 3 + j) v (by rwa [List.getElem?_drop] at hj))
      (fun j hj => by
        have h9 : W2.cell? ⟨S, (i + 1) * 3 + j, none⟩ = _ := hr2.cellAt ((i + 1) * 3 + j) (by rw [hdl] at hj; have := Nat.sub_mul n i 3; omega)
        show (W2.cell? ⟨S, (i + 1) * 3 + j, none⟩).isSome = true
        rw [h9, List.getElem?_eq_getElem (by rw [hdl] at hj; have := Nat.sub_mul n i 3; omega)]; rfl) (fun j hj => hr2.frozenAt _) (fun v hv => h1X v (List.mem_of_mem_drop hv))
  obtain ⟨W3, hW3⟩ : ∃ W3, W3 = W2.drew.setCells S ((i + 1) * 3) (X.drop (i * 3)) := ⟨_, rfl⟩
  rw [← hW3] at hcpB
  have HP : Hid (InsPost (.slice (some ⟨g, 0, none⟩) n cap) n i ce ct w (.returned (.slice (some ⟨S, 0, none⟩) (n + 1) G)) W3) := ⟨_, rfl, by
    have h9 := row_setCells (X.drop (i * 3)) W2.drew _ ((i + 1) * 3) (show W2.drew.ownsRow 0 29 3 (.slice (some ⟨S, 0, none⟩) (n + 1) G) (n + 1) (spl Y (i * 3) ct) from hr2)
    rw [spl_grow hXl hYl hct (by omega) hYX, hXe, catN_parts hlen (by omega) ct, ← hXe, ← hW3] at h9
    exact h9, fun b hb => .inr (by simp [Value.ownBlock] at hb; omega), by
      have hd : ChgL [S] W2 W2.drew := ⟨rfl, rfl, rfl, Nat.le_refl _, fun _ _ _ => rfl⟩
      have hC3 : ChgL [S] W1 W3 := by
        rw [hW3]
        exact (hC2.trans hd).trans (chgL_setCells S _ W2.drew _)
      exact ⟨b01.os.symm ▸ hC3.os, b01.tape.symm ▸ hC3.tape, b01.output.symm ▸ hC3.output, Nat.le_trans b01.size hC3.size, fun b hb _ => (hC3.block b (Nat.lt_of_lt_of_le hb b01.size) (by simp; omega)).trans (b01.block b hb)⟩⟩
  have hs1 : ∀ w', (Instr.slice 24 (.slice (some ⟨g, 0, none⟩) n cap) (some (.int .i64 (i : Int))) none none).run Try.prog w' = .ok (.slice (some ⟨g, i * 3, none⟩) (n - i) (cap - i)) w' := fun w' => by
    have := run_from9 g n cap i (by omega) w'
    rw [if_neg (by omega)] at this
    exact this
  have hs2 : ∀ w', (Instr.slice 24 (.slice (some ⟨g, 0, none⟩) n cap) none (some (.int .i64 (i : Int))) none).run Try.prog w' = .ok (.slice (some ⟨g, 0, none⟩) i cap) w' := fun w' => run_upto9 g n cap i (by omega) hnc w'
  have hs3 : ∀ w', (Instr.slice 24 (.slice (some ⟨S, 0, none⟩) (n + 1) G) (some (.int .i64 (i : Int))) none none).run Try.prog w' = .ok (.slice (some ⟨S, i * 3, none⟩) (n + 1 - i) (G - i)) w' := fun w' => by
    have := run_from9 S (n + 1) G i (by omega) w'
    rw [if_neg (by omega)] at this
    exact this
  have hs4 : ∀ w', (Instr.slice 24 (.slice (some ⟨S, 0, none⟩) (n + 1) G) (some (.int .i64 ((i : Int) + 1))) none none).run Try.prog w' = .ok (.slice (some ⟨S, (i + 1) * 3, none⟩) (n - i) (G - (i + 1))) w' := fun w' => by
    have := run_from9 S (n + 1) G (i + 1) (by omega) w'
    rw [if_neg (by omega), show n + 1 - (i + 1) = n - i by omega] at this
    exact this
  have hz1 : ¬ ((1 : Int) = 0) := by omega
  have hz2 : ¬ ((i : Int) = (n : Int)) := by omega
  have hw1 : IntKind.i64.wrap ((i : Int) + 1) = (i : Int) + 1 := by rw [IntKind.wrap_i64]; omega
  have hw2 : IntKind.i64.wrap ((n : Int) + 1) = (n : Int) + 1 := by rw [IntKind.wrap_i64]; omega
  have hw3 : IntKind.i64.wrap ((n : Int) + 1 - (i : Int)) = (n : Int) + 1 - (i : Int) := by rw [IntKind.wrap_i64]; omega
  have hg1 : (cap : Int) < (n : Int) + 1 := by omega
  clear V hX hct h1 hlen hrow hXl hXe hdl htl hcX h1X hi0 hz0 hzs hzb hik hold hG hROW hRl hS hYX hW1 b01 hSe hgS hvS hYe hYl hc1 hW2 hr2 hC2 hl2 hW3
  go_enter Try.func17, Try.ntmps17
  go_wp2_with (first | (at_builtin; refine wp_runZ rfl (.tmp 34) (.tmp 39) rfl ?_ ?_ hrz ?_; (simp [Act.eval]); (simp [Act.eval])) | (at_builtin; refine wp_runC rfl (.tmp 43) (.tmp 44) rfl ?_ ?_ (hcpA _ _) ?_; (simp [Act.eval]); (simp [Act.eval])))
  go_region_law (refine step_runC rfl (.tmp 50) (.tmp 53) rfl ?_ ?_ (hcpB _ _ _) ?_; (simp [Act.eval, Act.put]); (simp [Act.eval, Act.put]))
  all_goals
    go_wp2
    go_ret
    exact HP.out
/-- slices.Insert of one thing -/
theorem insert_any (v : Value) (n i : Nat) (ce : Nat → List Value) (vb : Nat) (ct : List Value) (w : World) (V : View (layRaw 3) 29 w 0 0 v n ce ce) (hct : ct.length = 3) (h1 : ∀ u, u ∈ ct → u.oneCell' = true) (hX : Box w vb ct.toArray 29) (hvb : v.ownBlock ≠ some vb) (hi : i ≤ n) (hn : n ≤ 1100000) :
    Calls Try.prog 17 #[v, .int .i64 (i : Int), .slice (some ⟨vb, 0, none⟩) 1 1] w (InsPost v n i ce ct w) := by
  by_cases c : i = n
  · subst c
    exact insert_end v i ce vb ct w V hct h1 hX hn
  · rcases V.form2 with ⟨rfl, h0⟩ | ⟨g, cap, rfl, hnc, hg⟩
    · omega
    · have hne : vb ≠ g := fun h => hvb (by rw [h]; rfl)
      by_cases hr : n + 1 ≤ cap
      · exact insert_shift g cap n i ce vb ct w V hct h1 hX hne (by omega) hr hn
      · exact insert_grow g cap n i ce vb ct w V hct h1 hX hne (by omega) (by omega) hn
end Go.Proofs.Ytopaofcpjiicmaa

namespace Go.Proofs.Ytopaofcpjiicmaa
open Go.RowKit
set_option linter.unusedVariables false
theorem step_callv {ops : Array Oper} {o : Oper} {a : Act} {w : World} {K : Act → World → Prop} {Q : Exit → Act → World → Prop} {E : Prop}
    (hw : Region.wanted o (yielded ops a.tmps) = true) (x : Operand) (n : Nat) (caps : Array Value) (args : Array Operand) (ty : Array TypeId) (hop : o.op = Op.call { callee := Callee.value x, args := args, argTypes := ty }) (hx : a.eval x = .func (.func n) #[] caps) (vals : Array Value) (hv : args.map a.eval = vals)
    {fn : Func} (hfn : Try.prog.funcs[n]? = some fn) (hnm : (fn.name == "runtime.NumGoroutine") = false) (hbd : fn.body.isSome = true)
    {R : Ending → World → Prop} (hc : Calls Try.prog n (vals ++ caps) w R) (hK : ∀ e w', R e w' → ∃ v, e = .returned v ∧ K (a.put o.dst v) w') :
    if Region.wanted o (yielded ops a.tmps) = true then Oper.wp Try.prog o a w K Q else E := by
  have hn' : ¬ fn.name = "runtime.NumGoroutine" := by simpa using hnm
  have hb' : ¬ fn.body = none := by intro h; rw [h] at hbd; cases hbd
  rw [if_pos hw]
  unfold Oper.wp
  simp [execOp, hop, hx, resolve, invoke, Result.andThen, Deferred.ofValue, callFunc, Oper.upon, hv, hfn, hn', hb']
  refine hc.mono fun e w' h => ?_
  obtain ⟨v, rfl, hk⟩ := hK e w' h
  exact hk
end Go.Proofs.Ytopaofcpjiicmaa

namespace Go.Proofs.Ytopaofcpjiicmaa
open Go.RowKit F256
set_option linter.unusedVariables false
set_option linter.unusedSimpArgs false
set_option maxHeartbeats 16000000 in
set_option maxRecDepth 100000 in
theorem index_put (g cap n lo hi : Nat) (x : Nat → List Value) (ce : Nat → List Value) (a0 : Nat) (del : Nat → Bool) (w : World) (hV : View (layRaw 3) 29 w lo hi (.slice (some ⟨g, 0, none⟩) n cap) n x ce) (hhi : hi ≤ w.heap.size) (hn : n ≤ 1048576) (CD : ∀ k, k < n → ∀ w', ChgL [g] w w' → Calls Try.prog 16 #[.agg (ce k).toArray, .pointer (some ⟨a0, 0, none⟩)] w' (fun e w'' => e = .returned (.bool (del k)) ∧ Below w'.heap.size w' w'')) :
    Calls Try.prog 15 #[.slice (some ⟨g, 0, none⟩) n cap, .func (.func 16) #[] #[.pointer (some ⟨a0, 0, none⟩)]] w fun e w' => ((e = .returned (.int .i64 (-1)) ∧ ∀ i, i < n → del i = false) ∨ ∃ i : Nat, i < n ∧ e = .returned (.int .i64 (i : Int)) ∧ del i = true ∧ ∀ t, t < i → del t = false) ∧ Below w.heap.size w w' := by
  have HV : Hid (View (layRaw 3) 29 w lo hi (.slice (some ⟨g, 0, none⟩) n cap) n x ce) := hV
  have HCD : Hid (∀ k, k < n → ∀ w', ChgL [g] w w' → Calls Try.prog 16 #[.agg (ce k).toArray, .pointer (some ⟨a0, 0, none⟩)] w' (fun e w'' => e = .returned (.bool (del k)) ∧ Below w'.heap.size w' w'')) := CD
  clear hV CD
  go_enter Try.func15, Try.ntmps15
  go_wp2
  go_loopw [8] (fun z wr => ∃ k : Nat, k ≤ n ∧ z = .int .i64 k ∧ (∀ t, t < k → del t = false) ∧ Below w.heap.size w wr) (fun z _ => n - (intOf z).toNat)
  case atStart => exact ⟨0, Nat.zero_le _, rfl, fun t ht => by omega, Below.refl _ _⟩
  case round =>
    obtain ⟨k, hk, rfl, hall, hbl⟩ := hrel
    obtain ⟨wx, rfl⟩ : ∃ y, y = wr := ⟨_, rfl⟩
    have HALL : Hid (∀ t, t < k → del t = false) := hall
    have HBL : Hid (Below w.heap.size w wx) := hbl
    have zx := hbl.size
    clear hall
    by_cases hlt : k < n
    · have VX := HV.out.below hbl hhi
      have rgK : wx.rangeAt g (k * 3) (ce k) := VX.range hlt
      have hcK : (ce k).length = 3 := VX.lens k hlt
      have CS := HCD.out k hlt wx (ChgL.of_below hbl)
      obtain ⟨cK, hcKe⟩ : ∃ c, c = ce k := ⟨_, rfl⟩
      rw [← hcKe] at rgK hcK CS
      obtain ⟨t, ht⟩ : ∃ t, t = del k := ⟨_, rfl⟩
      rw [← ht] at CS
      have HT : Hid (t = del k) := ht
      have i1 : (0 : Int) ≤ (k : Int) := by omega
      have i2 : (k : Int) < (n : Int) := by omega
      clear hbl hcKe VX ht
      go_wp2_with (refine wpList_load_mid rfl 29 (.tmp 14) rfl g (k * 3) (by simp [Act.eval]) cK _ rgK Try.underlying29 rfl (info_Thing3 hcK) ?_)
      refine CS.mono ?_
      rintro e w5 ⟨rfl, b5⟩
      have B5 : Hid (Below w.heap.size w w5) := HBL.out.trans (b5.mono zx)
      clear b5 CS rgK
      cases t with
      | true =>
        go_wp2
        go_ret
        exact ⟨.inr ⟨k, hlt, rfl, HT.out.symm, HALL.out⟩, B5.out⟩
      | false =>
        go_wp2
        go_roundw
        case rel => exact ⟨k + 1, by omega, by go_num, fun t ht => by
                      by_cases c : t = k
                      · rw [c]; exact HT.out.symm
                      · exact HALL.out t (by omega), B5.out⟩
        case measure => simp [intOf]; omega
    · obtain rfl : k = n := by omega
      clear hbl
      go_wp2
      go_ret
      exact ⟨.inl ⟨rfl, HALL.out⟩, HBL.out⟩
theorem calls_app0 {f : Nat} {args : Array Value} {w : World} {R : Ending → World → Prop} (h : Calls Try.prog f args w R) : Calls Try.prog f (args ++ #[]) w R := by simpa using h
set_option maxHeartbeats 8000000 in
set_option maxRecDepth 20000 in
theorem indexNoneT (ao : Option Addr) (cap : Nat) (fv : Value) (w : World) : Calls Try.prog 15 #[.slice ao 0 cap, fv] w fun e w' => e = .returned (.int .i64 (-1)) ∧ w' = w := by
  go_enter Try.func15, Try.ntmps15
  go_wp2
  go_loop [8] (fun z => z = .int .i64 0) (fun _ => 0)
  case atStart => rfl
  case round =>
    subst hrel
    go_wp2
    go_ret
    exact ⟨rfl, rfl⟩
set_option maxHeartbeats 8000000 in
set_option maxRecDepth 20000 in
theorem put1_any (a0 : Nat) (bn na : ByteArray) (l : Bool) (o : Option Addr) (m c : Nat) (w : World) (h0 : w.cell? ⟨a0, 0, none⟩ = some (.string bn)) (hl : a0 < w.heap.size) :
    Calls Try.prog 16 #[.agg #[.string na, .bool l, .slice o m c], .pointer (some ⟨a0, 0, none⟩)] w fun e w' => e = .returned (.bool (!leS na bn)) ∧ Below w.heap.size w w' := by
  obtain ⟨lt, hlt1⟩ : ∃ t, Op.bytesLess na.toList bn.toList = t := ⟨_, rfl⟩
  obtain ⟨eq, heq1⟩ : ∃ t, (na.toList == bn.toList) = t := ⟨_, rfl⟩
  have heq2 : decide (na.toList = bn.toList) = eq := by rw [← heq1, Bool.eq_iff_iff]; simp
  have T0 := one_new w #[.string na, .bool l, .slice o m c] 29
  have h1 : (w.alloc (.cells #[.string na, .bool l, .slice o m c] 29)).cell? ⟨a0, 0, none⟩ = some (.string bn) := (T0.bel.cell (p := ⟨a0, 0, none⟩) hl).trans h0
  have HB : Hid (Below w.heap.size w (w.alloc (.cells #[.string na, .bool l, .slice o m c] 29))) := T0.bel
  clear T0
  unfold leS
  rw [hlt1, heq1]
  cases lt <;> cases eq
  all_goals
    go_enter Try.func16, Try.ntmps16
    go_wp2
    go_ret
    exact ⟨rfl, HB.out⟩
/-- where the name is to stand, as the program finds it -/
theorem index_thing {w : World} {m : Nat} {y : Nat → ThingD} {ce : Nat → List Value} {Ls : Nat → List Nat} {ar : Option Addr} {cr : Nat} (V : View (layRaw 3) 29 w 0 0 (.slice ar m cr) m ce ce) (he : ∀ i, i < m → layThing.own w (y i) (ce i) (Ls i)) (hn : m ≤ 1048576) (a0 : Nat) (bn : ByteArray) (h0 : w.cell? ⟨a0, 0, none⟩ = some (.string bn)) (hl0 : a0 < w.heap.size) (hk0 : (Value.slice ar m cr).ownBlock ≠ some a0) {at_ : Nat} (hA : AtP m y bn at_) :
    Calls Try.prog 15 #[.slice ar m cr, .func (.func 16) #[] #[.pointer (some ⟨a0, 0, none⟩)]] w fun e w' => ((e = .returned (.int .i64 (-1)) ∧ at_ = m) ∨ (e = .returned (.int .i64 (at_ : Int)) ∧ at_ < m)) ∧ Below w.heap.size w w' := by
  by_cases h9 : m = 0
  · subst h9
    refine (indexNoneT ar cr _ w).mono ?_
    rintro e w' ⟨rfl, rfl⟩
    exact ⟨.inl ⟨rfl, by have := hA.le; omega⟩, Below.refl _ _⟩
  · rcases V.form2 with ⟨_, h0⟩ | ⟨g, cap, e9, hnc, hg⟩
    · exact absurd h0 h9
    · cases e9
      have hg0 : a0 ≠ g := fun hh => hk0 (by rw [hh]; rfl)
      refine (index_put g cr m 0 0 ce ce a0 (fun i => !leS (y i).name bn) w V (Nat.zero_le _) hn (fun k hk w' hc => ?_)).mono ?_
      · obtain ⟨o2, c2, e2⟩ := Thing_cellsO (he k hk)
        rw [e2]
        exact put1_any a0 bn _ _ _ _ _ w' (by
          have hb := hc.block a0 hl0 (by simp; exact hg0)
          have e9 : w'.cell? ⟨a0, 0, none⟩ = w.cell? ⟨a0, 0, none⟩ := by simp [World.cell?, hb]
          rw [e9]; exact h0) (Nat.lt_of_lt_of_le hl0 hc.size)
      rintro e w' ⟨hc, hb⟩
      refine ⟨?_, hb⟩
      rcases hc with ⟨rfl, hall⟩ | ⟨i, hi, rfl, hd, hbef⟩
      · refine .inl ⟨rfl, ?_⟩
        exact hA.one ⟨Nat.le_refl _, fun t ht => by have := hall t ht; simpa using this, fun h => by omega⟩
      · have : at_ = i := hA.one ⟨by omega, fun t ht => by have := hbef t ht; simpa using this, fun _ => by simpa using hd⟩
        subst this
        exact .inr ⟨rfl, hi⟩
set_option maxHeartbeats 8000000 in
set_option maxRecDepth 20000 in
theorem implPut_any (p : Nat × (Nat → ThingD)) (bn : ByteArray) (q : Nat × (Nat → Nat)) (at_ : Nat) (v u : Value) (h1 h2 : Nat) (w : World) (r0 : (layThing.slice 29).rd w h1 p [v]) (r2 : layBytes.rd w h2 q [u]) (u1 : h1 ≤ w.heap.size) (u2 : h2 ≤ w.heap.size) (hsz : szSl szThingD p ≤ 1048576) (hbs : bn.size ≤ 1048576) (hbb : q.1 ≤ 1048576) (hA : AtP (dropL p bn).1 (dropL p bn).2 bn at_) :
    Calls Try.prog 6 #[v, .string bn, u] w fun e w' => ∃ v', e = .returned v' ∧ OwnT (layThing.slice 29) w' w.heap.size w'.heap.size (putL p bn q at_) [v'] ∧ Below w.heap.size w w' := by
  have hn1 := szSl_n hsz
  obtain ⟨ao, cap, hv⟩ := sl_form r0
  obtain rfl := one_eq hv
  obtain ⟨bo, bc, hv'⟩ := bytes_form r2
  obtain rfl := one_eq hv'
  have T0 := one_new w #[.string bn] 9
  have CD := implDrop_any p bn _ h1 _ ((layThing.slice 29).rd_below r0 T0.bel u1) (Nat.le_trans u1 T0.bel.size) hsz
  have hm0 : (dropL p bn).1 ≤ p.1 := kept_le _ _
  unfold putL
  obtain ⟨⟨m, y⟩, hD⟩ : ∃ d, d = dropL p bn := ⟨_, rfl⟩
  rw [← hD] at CD hA hm0 ⊢
  simp only at hA hm0
  have R2 : Hid (layBytes.rd w h2 q [.slice bo q.1 bc]) := r2
  have hat : at_ ≤ m := hA.le
  have HA : Hid (AtP m y bn at_) := hA
  have HT0 : Hid (One w (w.alloc (.cells #[.string bn] 9)) #[.string bn] 9) := T0
  clear r0 r2 hv hv' hsz hD hA T0
  go_enter Try.func6, Try.ntmps6
  go_wp2_with fail
  refine CD.mono ?_
  rintro e w1 ⟨vr, rfl, ⟨L, k1, k2, k3⟩, b1⟩
  obtain ⟨vr', ce, Ls, e1, rfl, hr, he⟩ := k1
  obtain rfl := one_eq e1
  have T1 := HT0.out.call b1
  have za : (w.alloc (.cells #[.string bn] 9)).heap.size = w.heap.size + 1 := by simp
  obtain ⟨ar, cr, hvr⟩ : ∃ a c, vr = .slice a m c := by
    rcases hr.2 with ⟨hv, hn⟩ | ⟨g, cap, cur, rfl, _⟩
    · exact ⟨none, 0, by rw [hv, show m = 0 from hn]⟩
    · exact ⟨_, _, rfl⟩
  subst hvr
  have V1 : View (layRaw 3) 29 w1 0 0 (.slice ar m cr) m ce ce := raw_view hr he
  have hne : (Value.slice ar m cr).ownBlock ≠ some w.heap.size := fun h => by
    have h7 : w.heap.size ∈ (Value.slice ar m cr).ownBlock.toList ++ catN m Ls := List.mem_append_left _ (by rw [h]; simp)
    have := (k3 _ h7).1
    omega
  have CX := index_thing V1 he (by omega) w.heap.size bn (T1.b1.cell 0) T1.b1.lt hne HA.out
  clear CD e1
  go_wp2_with fail
  refine CX.mono ?_
  rintro e w2 ⟨hcase, b2⟩
  have T2 := T1.call b2
  have z1 := T1.b1.lt
  have z2 := b2.size
  have bD : Below w1.heap.size w1 w2.drew := b2.trans (show Below w1.heap.size w2 w2.drew from ⟨rfl, rfl, rfl, Nat.le_refl _, fun _ _ => rfl⟩)
  have HTD : Hid (One w w2.drew #[.string bn] 9) := T2.call (show Below w2.heap.size w2 w2.drew from ⟨rfl, rfl, rfl, Nat.le_refl _, fun _ _ => rfl⟩)
  obtain ⟨D, hDe⟩ : ∃ D, D = w2.drew := ⟨_, rfl⟩
  have HD : Hid (D = w2.drew) := hDe
  rw [← hDe] at bD HTD
  have zD : D.heap.size = w2.heap.size := by rw [hDe]; rfl
  have n9 : D.cell? ⟨w.heap.size, 0, none⟩ = some (.string bn) := HTD.out.b1.cell 0
  have n2 : w2.cell? ⟨w.heap.size, 0, none⟩ = some (.string bn) := T2.b1.cell 0
  have hpD : w.heap.size < D.heap.size := HTD.out.b1.lt
  have zwD : w.heap.size ≤ D.heap.size := by omega
  have HR : Hid (D.ownsRow 0 29 layThing.sz (.slice ar m cr) m (catN m ce)) := (V1.below bD (Nat.zero_le _)).row
  have HE : Hid (∀ i, i < m → layThing.own D (y i) (ce i) (Ls i)) := fun i hi => layThing.own_kept (he i hi) (fun b hb => bD.block b (layThing.own_lt (he i hi) b hb))
  have HND : Hid (((Value.slice ar m cr).ownBlock.toList ++ catN m Ls).Nodup) := k2
  have HLO : Hid (∀ b, b ∈ (Value.slice ar m cr).ownBlock.toList ++ catN m Ls → w.heap.size ≤ b) := fun b hb => by have := (k3 b hb).1; omega
  have V9 : Hid (View (layRaw 3) 29 D 0 0 (.slice ar m cr) m ce ce) := V1.below bD (Nat.zero_le _)
  have HBD : Hid (Below w.heap.size w D) := HTD.out.bel
  have CB : Hid (Calls Try.prog 18 #[.slice bo q.1 bc] D fun e w' => ∃ v', e = .returned v' ∧ OwnT layBytes w' D.heap.size w'.heap.size q [v'] ∧ Below D.heap.size D w') := copyBytes_is _ q h2 D (layBytes.rd_below R2.out HTD.out.bel u2) (by omega) hbb
  clear CX b1 b2 T1 T2 hDe bD HTD hr he k2 k3 V1 hne za R2
  rcases hcase with ⟨rfl, hm⟩ | ⟨rfl, hm⟩
  · have hneg : ((-1 : Int) < 0) := by omega
    subst hm
    go_upto_region 5 with fail
    refine wp_region_M 6 (fun w' => w'.cell? ⟨w.heap.size, 0, none⟩ = some (.string bn)) mixedO (by rw [← HD.out]; exact n9) (fun hHeld => ?_)
    rw [← HD.out] at hHeld ⊢
    refine wpAnyM_pure (i := 0) (oi := _) (v := ?_) rfl (by kernel_rfl) (fun _ _ _ h => h) (Or.inl ⟨by kernel_rfl, ?_⟩) (by assumption) ?_
    rotate_left
    · intro w' hSw
      go_simp
      try with_reducible rfl
    try simp only [List.getElem_toArray, List.getElem_cons_succ, List.getElem_cons_zero, Act.put, List.setIfInBounds_toArray, List.set_cons_zero, List.set_cons_succ]
    refine wpAnyM_pure (i := 1) (oi := _) (v := ?_) rfl (by kernel_rfl) (fun _ _ _ h => h) (Or.inl ⟨by kernel_rfl, ?_⟩) (by assumption) ?_
    rotate_left
    · intro w' hSw
      go_simp
      try with_reducible rfl
    try simp only [List.getElem_toArray, List.getElem_cons_succ, List.getElem_cons_zero, Act.put, List.setIfInBounds_toArray, List.set_cons_zero, List.set_cons_succ]
    refine wpAnyM_take (i := 2) (oi := _) (v := ?_) 16 rfl (by kernel_rfl) (fun _ _ _ h => h) (Or.inl ⟨by kernel_rfl, ?_⟩) (by assumption) ?_
    rotate_left
    · intro w' hSw
      try dsimp only at hSw
      have hname := hSw
      go_simp
      try with_reducible rfl
    try simp only [List.getElem_toArray, List.getElem_cons_succ, List.getElem_cons_zero, Act.put, List.setIfInBounds_toArray, List.set_cons_zero, List.set_cons_succ]
    refine wpAnyM_pure (i := 3) (oi := _) (v := ?_) rfl (by kernel_rfl) (fun _ _ _ h => h) (Or.inl ⟨by kernel_rfl, ?_⟩) (by assumption) ?_
    rotate_left
    · intro w' hSw
      go_simp
      try with_reducible rfl
    try simp only [List.getElem_toArray, List.getElem_cons_succ, List.getElem_cons_zero, Act.put, List.setIfInBounds_toArray, List.set_cons_zero, List.set_cons_succ]
    refine wpAnyM_oneS (i := 4) (o := _) rfl (by kernel_rfl) (fun KC hKC => ?_)
    refine step_callv (by kernel_rfl) (.func 18) 18 #[] _ _ rfl (by simp [Act.eval, Act.put]) #[.slice bo q.1 bc] (by simp [Act.eval, Act.put]) Try.func18 (by kernel_rfl) (by kernel_rfl) (calls_app0 (CB.out)) ?_
    rintro e w5 ⟨v5, rfl, o5, b5⟩
    refine ⟨_, rfl, ?_⟩
    have n5 : w5.cell? ⟨w.heap.size, 0, none⟩ = some (.string bn) := (b5.cell (p := ⟨w.heap.size, 0, none⟩) hpD).trans n9
    obtain ⟨bo2, bc2, hv5⟩ := bytes_formT o5
    obtain rfl := one_eq hv5
    refine hKC _ _ n5 ?_
    clear hKC KC hv5
    try simp only [List.getElem_toArray, List.getElem_cons_succ, List.getElem_cons_zero, Act.put, List.setIfInBounds_toArray, List.set_cons_zero, List.set_cons_succ]
    refine wpAnyM_pure (i := 5) (oi := _) (v := ?_) rfl (by kernel_rfl) (fun _ _ _ h => h) (Or.inl ⟨by kernel_rfl, ?_⟩) (by assumption) ?_
    rotate_left
    · intro w' hSw
      go_simp
      try with_reducible rfl
    try simp only [List.getElem_toArray, List.getElem_cons_succ, List.getElem_cons_zero, Act.put, List.setIfInBounds_toArray, List.set_cons_zero, List.set_cons_succ]
    refine wpAnyM_one (i := 6) (o := _) rfl (by kernel_rfl) (by kernel_rfl) (fun KC hKC => ?_)
    refine step_build1T rfl (.tmp 24) rfl bn false bo2 q.1 bc2 (by simp [Act.eval, Act.put]) ?_
    have b6 : Below w5.heap.size w5 (w5.alloc (.cells #[.string bn, .bool false, .slice bo2 q.1 bc2] 29)) := (Below.refl _ _).alloc (Nat.le_refl _) _
    have X6 : Box (w5.alloc (.cells #[.string bn, .bool false, .slice bo2 q.1 bc2] 29)) w5.heap.size ([.string bn, .bool false, .slice bo2 q.1 bc2] : List Value).toArray 29 := box_new _ _ _
    have z5 := b5.size
    have V6 : View (layRaw 3) 29 (w5.alloc (.cells #[.string bn, .bool false, .slice bo2 q.1 bc2] 29)) 0 0 (.slice ar at_ cr) at_ ce ce := (V9.out.below b5 (Nat.zero_le _)).below b6 (Nat.zero_le _)
    have CN := insert_any (.slice ar at_ cr) at_ at_ ce w5.heap.size [.string bn, .bool false, .slice bo2 q.1 bc2] _ V6 rfl (fun u hu => by
      simp only [List.mem_cons, List.not_mem_nil, or_false] at hu
      rcases hu with rfl | rfl | rfl <;> rfl) X6 (fun h => by have := (HR.out.lt _ h).2; omega) hat (by omega)
    refine hKC _ _ ?_
    clear hKC KC
    try simp only [List.getElem_toArray, List.getElem_cons_succ, List.getElem_cons_zero, Act.put, List.setIfInBounds_toArray, List.set_cons_zero, List.set_cons_succ]
    obtain ⟨W6, hW6⟩ : ∃ x, x = w5.alloc (.cells #[.string bn, .bool false, .slice bo2 q.1 bc2] 29) := ⟨_, rfl⟩
    rw [← hW6] at b6 X6 V6 CN ⊢
    clear hW6
    refine wpAnyM_one (i := 7) (o := _) rfl (by kernel_rfl) (by kernel_rfl) (fun KC hKC => ?_)
    refine step_callv (by kernel_rfl) (.func 17) 17 #[] _ _ rfl (by simp [Act.eval, Act.put]) #[.slice ar at_ cr, .int .i64 (at_ : Int), .slice (some ⟨w5.heap.size, 0, none⟩) 1 1] (by simp [Act.eval, Act.put]) Try.func17 (by kernel_rfl) (by kernel_rfl) (calls_app0 (CN)) ?_
    rintro e w8 ⟨v8, rfl, hrow, hblk, hch⟩
    refine ⟨_, rfl, ?_⟩
    refine hKC _ _ ?_
    clear hKC KC
    try simp only [List.getElem_toArray, List.getElem_cons_succ, List.getElem_cons_zero, Act.put, List.setIfInBounds_toArray, List.set_cons_zero, List.set_cons_succ]
    refine wpAnyM_pureL (i := 8) (oi := _) (v := ?_) rfl (by kernel_rfl) (fun _ _ _ h => h) (Or.inl ⟨by kernel_rfl, ?_⟩) ?_
    rotate_left
    · intro w' hSw
      go_simp
      try with_reducible rfl
    try simp only [List.getElem_toArray, List.getElem_cons_succ, List.getElem_cons_zero, Act.put, List.setIfInBounds_toArray, List.set_cons_zero, List.set_cons_succ]
    refine wpAnyM_done (by kernel_rfl) ?_ _
    have HF1 : Hid (OwnT (layThing.slice 29) w8 w.heap.size w8.heap.size (putD (at_, y) bn q at_) [v8]) := put_own (w1 := D) (w2 := w5) (D := W6) (lo := w.heap.size) HR.out HE.out HND.out HLO.out zwD o5 (by unfold maxLen; omega) b5 b6 hat hrow hblk (fun b hb hn => hch.block b hb (fun h => hn (by simpa using h)))
    have b8 : Below w.heap.size W6 w8 := hch.bel (fun b hb => HLO.out b (List.mem_append_left _ hb)) (by have := b6.size; omega)
    have HF2 : Hid (Below w.heap.size w w8) := HBD.out.trans (((b5.mono zwD).trans (b6.mono (by omega))).trans b8)
    clear hrow hblk hch CN o5 b5 b6 b8 X6 V6 hHeld n9 n5
    go_wp2
    go_ret
    exact ⟨_, rfl, HF1.out, HF2.out⟩
  · have hpos : ¬ ((at_ : Int) < 0) := by omega
    go_upto_region 5 with fail
    refine wp_region_M 6 (fun w' => w'.cell? ⟨w.heap.size, 0, none⟩ = some (.string bn)) mixedO (by rw [← HD.out]; exact n9) (fun hHeld => ?_)
    rw [← HD.out] at hHeld ⊢
    refine wpAnyM_pure (i := 0) (oi := _) (v := ?_) rfl (by kernel_rfl) (fun _ _ _ h => h) (Or.inl ⟨by kernel_rfl, ?_⟩) (by assumption) ?_
    rotate_left
    · intro w' hSw
      go_simp
      try with_reducible rfl
    try simp only [List.getElem_toArray, List.getElem_cons_succ, List.getElem_cons_zero, Act.put, List.setIfInBounds_toArray, List.set_cons_zero, List.set_cons_succ]
    refine wpAnyM_pure (i := 1) (oi := _) (v := ?_) rfl (by kernel_rfl) (fun _ _ _ h => h) (Or.inl ⟨by kernel_rfl, ?_⟩) (by assumption) ?_
    rotate_left
    · intro w' hSw
      go_simp
      try with_reducible rfl
    try simp only [List.getElem_toArray, List.getElem_cons_succ, List.getElem_cons_zero, Act.put, List.setIfInBounds_toArray, List.set_cons_zero, List.set_cons_succ]
    refine wpAnyM_take (i := 2) (oi := _) (v := ?_) 16 rfl (by kernel_rfl) (fun _ _ _ h => h) (Or.inl ⟨by kernel_rfl, ?_⟩) (by assumption) ?_
    rotate_left
    · intro w' hSw
      try dsimp only at hSw
      have hname := hSw
      go_simp
      try with_reducible rfl
    try simp only [List.getElem_toArray, List.getElem_cons_succ, List.getElem_cons_zero, Act.put, List.setIfInBounds_toArray, List.set_cons_zero, List.set_cons_succ]
    refine wpAnyM_pure (i := 3) (oi := _) (v := ?_) rfl (by kernel_rfl) (fun _ _ _ h => h) (Or.inl ⟨by kernel_rfl, ?_⟩) (by assumption) ?_
    rotate_left
    · intro w' hSw
      go_simp
      try with_reducible rfl
    try simp only [List.getElem_toArray, List.getElem_cons_succ, List.getElem_cons_zero, Act.put, List.setIfInBounds_toArray, List.set_cons_zero, List.set_cons_succ]
    refine wpAnyM_oneS (i := 4) (o := _) rfl (by kernel_rfl) (fun KC hKC => ?_)
    refine step_callv (by kernel_rfl) (.func 18) 18 #[] _ _ rfl (by simp [Act.eval, Act.put]) #[.slice bo q.1 bc] (by simp [Act.eval, Act.put]) Try.func18 (by kernel_rfl) (by kernel_rfl) (calls_app0 (CB.out)) ?_
    rintro e w5 ⟨v5, rfl, o5, b5⟩
    refine ⟨_, rfl, ?_⟩
    have n5 : w5.cell? ⟨w.heap.size, 0, none⟩ = some (.string bn) := (b5.cell (p := ⟨w.heap.size, 0, none⟩) hpD).trans n9
    obtain ⟨bo2, bc2, hv5⟩ := bytes_formT o5
    obtain rfl := one_eq hv5
    refine hKC _ _ n5 ?_
    clear hKC KC hv5
    try simp only [List.getElem_toArray, List.getElem_cons_succ, List.getElem_cons_zero, Act.put, List.setIfInBounds_toArray, List.set_cons_zero, List.set_cons_succ]
    refine wpAnyM_pure (i := 5) (oi := _) (v := ?_) rfl (by kernel_rfl) (fun _ _ _ h => h) (Or.inl ⟨by kernel_rfl, ?_⟩) (by assumption) ?_
    rotate_left
    · intro w' hSw
      go_simp
      try with_reducible rfl
    try simp only [List.getElem_toArray, List.getElem_cons_succ, List.getElem_cons_zero, Act.put, List.setIfInBounds_toArray, List.set_cons_zero, List.set_cons_succ]
    refine wpAnyM_one (i := 6) (o := _) rfl (by kernel_rfl) (by kernel_rfl) (fun KC hKC => ?_)
    refine step_build1T rfl (.tmp 24) rfl bn false bo2 q.1 bc2 (by simp [Act.eval, Act.put]) ?_
    have b6 : Below w5.heap.size w5 (w5.alloc (.cells #[.string bn, .bool false, .slice bo2 q.1 bc2] 29)) := (Below.refl _ _).alloc (Nat.le_refl _) _
    have X6 : Box (w5.alloc (.cells #[.string bn, .bool false, .slice bo2 q.1 bc2] 29)) w5.heap.size ([.string bn, .bool false, .slice bo2 q.1 bc2] : List Value).toArray 29 := box_new _ _ _
    have z5 := b5.size
    have V6 : View (layRaw 3) 29 (w5.alloc (.cells #[.string bn, .bool false, .slice bo2 q.1 bc2] 29)) 0 0 (.slice ar m cr) m ce ce := (V9.out.below b5 (Nat.zero_le _)).below b6 (Nat.zero_le _)
    have CN := insert_any (.slice ar m cr) m at_ ce w5.heap.size [.string bn, .bool false, .slice bo2 q.1 bc2] _ V6 rfl (fun u hu => by
      simp only [List.mem_cons, List.not_mem_nil, or_false] at hu
      rcases hu with rfl | rfl | rfl <;> rfl) X6 (fun h => by have := (HR.out.lt _ h).2; omega) hat (by omega)
    refine hKC _ _ ?_
    clear hKC KC
    try simp only [List.getElem_toArray, List.getElem_cons_succ, List.getElem_cons_zero, Act.put, List.setIfInBounds_toArray, List.set_cons_zero, List.set_cons_succ]
    obtain ⟨W6, hW6⟩ : ∃ x, x = w5.alloc (.cells #[.string bn, .bool false, .slice bo2 q.1 bc2] 29) := ⟨_, rfl⟩
    rw [← hW6] at b6 X6 V6 CN ⊢
    clear hW6
    refine wpAnyM_one (i := 7) (o := _) rfl (by kernel_rfl) (by kernel_rfl) (fun KC hKC => ?_)
    refine step_callv (by kernel_rfl) (.func 17) 17 #[] _ _ rfl (by simp [Act.eval, Act.put]) #[.slice ar m cr, .int .i64 (at_ : Int), .slice (some ⟨w5.heap.size, 0, none⟩) 1 1] (by simp [Act.eval, Act.put]) Try.func17 (by kernel_rfl) (by kernel_rfl) (calls_app0 (CN)) ?_
    rintro e w8 ⟨v8, rfl, hrow, hblk, hch⟩
    refine ⟨_, rfl, ?_⟩
    refine hKC _ _ ?_
    clear hKC KC
    try simp only [List.getElem_toArray, List.getElem_cons_succ, List.getElem_cons_zero, Act.put, List.setIfInBounds_toArray, List.set_cons_zero, List.set_cons_succ]
    refine wpAnyM_pureL (i := 8) (oi := _) (v := ?_) rfl (by kernel_rfl) (fun _ _ _ h => h) (Or.inl ⟨by kernel_rfl, ?_⟩) ?_
    rotate_left
    · intro w' hSw
      go_simp
      try with_reducible rfl
    try simp only [List.getElem_toArray, List.getElem_cons_succ, List.getElem_cons_zero, Act.put, List.setIfInBounds_toArray, List.set_cons_zero, List.set_cons_succ]
    refine wpAnyM_done (by kernel_rfl) ?_ _
    have HF1 : Hid (OwnT (layThing.slice 29) w8 w.heap.size w8.heap.size (putD (m, y) bn q at_) [v8]) := put_own (w1 := D) (w2 := w5) (D := W6) (lo := w.heap.size) HR.out HE.out HND.out HLO.out zwD o5 (by unfold maxLen; omega) b5 b6 hat hrow hblk (fun b hb hn => hch.block b hb (fun h => hn (by simpa using h)))
    have b8 : Below w.heap.size W6 w8 := hch.bel (fun b hb => HLO.out b (List.mem_append_left _ hb)) (by have := b6.size; omega)
    have HF2 : Hid (Below w.heap.size w w8) := HBD.out.trans (((b5.mono zwD).trans (b6.mono (by omega))).trans b8)
    clear hrow hblk hch CN o5 b5 b6 b8 X6 V6 hHeld n9 n5
    go_wp2
    go_ret
    exact ⟨_, rfl, HF1.out, HF2.out⟩
end Go.Proofs.Ytopaofcpjiicmaa

namespace Go.Proofs.Ytopaofcpjiicmaa
open Go.ChangeShapes Go.WideShapes Go.ChangeAt Go.RowKit F256

/-- a slice of numbers that came in -/
def IsRowI (w : World) (a : Option Addr) (len cap : Nat) (zs : List Int) : Prop :=
  (a = none ∧ len = 0 ∧ cap = 0 ∧ zs = []) ∨
  ∃ x, a = some x ∧ len ≤ cap ∧ cap ≤ maxLen ∧ zs.length = cap ∧ (∀ i, i < zs.length → w.cell? (x.add i) = some (.int .i64 (zs.getD i 0))) ∧ ∀ n ∈ zs, (Lit.int .i64 n).wf = true
theorem rowI_of_trod {t e : TypeId} {H : Type} {enc : TypeId × Value → H} {W : World} {a : Option Addr} {len cap : Nat} {d : DataW H} {ps : List MemPlace}
    (hu : Try.prog.underlying t = some (.slice e)) (he : Try.prog.underlying e = some (.int .i64)) (hc : Try.prog.cellsOf e = 1)
    (h : DataW.Trod enc Try.prog W 0 (fun _ => true) true t (.slice a len cap) d ps) : ∃ zs, IsRowI W a len cap zs := by
  obtain ⟨fuel, hf⟩ := h
  rcases open_ints hu he hc hf with ⟨hcs, _⟩ | ⟨x, l, c, zs, hcs, _, hl, hm, hz, _, hcell, hwz⟩
  · simp [Value.cells] at hcs
    obtain ⟨rfl, rfl, rfl⟩ := hcs
    exact ⟨[], .inl ⟨rfl, rfl, rfl, rfl⟩⟩
  · simp [Value.cells] at hcs
    obtain ⟨rfl, rfl, rfl⟩ := hcs
    exact ⟨zs, .inr ⟨_, rfl, hl, hm, by simpa using hz, hcell, hwz⟩⟩
theorem IsRowI.rd {w : World} {a : Option Addr} {len cap : Nat} {zs : List Int} (h : IsRowI w a len cap zs) : ∃ f : Nat → Int, (∀ i, -9223372036854775808 ≤ f i ∧ f i ≤ 9223372036854775807) ∧ RdI w w.heap.size (.slice a len cap) len f := by
  rcases h with ⟨rfl, rfl, rfl, rfl⟩ | ⟨x, rfl, hl, hm, hz, hcell, hwz⟩
  · exact ⟨fun _ => 0, fun _ => (by show -9223372036854775808 ≤ (0 : Int) ∧ (0 : Int) ≤ 9223372036854775807; omega), none, 0, rfl, Nat.zero_le _, fun h => absurd rfl h⟩
  · have hb : ∀ i, -9223372036854775808 ≤ zs.getD i 0 ∧ zs.getD i 0 ≤ 9223372036854775807 := fun i => by
      by_cases h : i < zs.length
      · have e : zs.getD i 0 = zs[i] := by simp [List.getD, h]
        rw [e]
        exact bounds_i64 (hwz _ (List.getElem_mem h))
      · have e : zs.getD i 0 = 0 := by simp [List.getD, h]
        rw [e]
        omega
    refine ⟨fun i => zs.getD i 0, hb, some x, cap, rfl, by omega, fun h0 => ?_⟩
    have h00 := hcell 0 (by omega)
    have hspot : (x.add 0).spot = none := World.cell?_spot h00
    obtain ⟨b, off, spot⟩ := x
    have hspot' : spot = none := by simpa [Addr.add] using hspot
    subst hspot'
    refine ⟨b, off, rfl, World.block_lt_of_cell? w _ h00, fun i hi => ?_⟩
    have hci := hcell i (by omega)
    rw [← add_none]
    exact hci
end Go.Proofs.Ytopaofcpjiicmaa

namespace Go.Proofs.Ytopaofcpjiicmaa
open Go.ChangeShapes Go.WideShapes Go.ChangeAt Go.RowKit Go.Deep
set_option linter.unusedVariables false

/-- what came in of the type t can be read as A lays it -/
structure Opens {α : Type} (A : Lay α) (t : TypeId) : Prop where
  size : Try.prog.cellsOf t = A.sz
  inh : ∃ a : α, True
  opens : ∀ {H : Type} {enc : TypeId × Value → H} {W : World} {fuel : Nat} {cs : List Value} {x : DataW H × List MemPlace}, DataW.trod enc Try.prog W 0 (fun _ => true) true fuel t cs = some x → ∃ a, A.rd W W.heap.size a cs
theorem opensI {t : TypeId} (hu : Try.prog.underlying t = some (.int .i64)) (hc : Try.prog.cellsOf t = 1) : Opens layI t :=
  ⟨hc, ⟨0, trivial⟩, fun h => by
    obtain ⟨n, rfl, _, hw⟩ := DataW.trod_int hu h
    exact ⟨n, rfl, bounds_i64 hw⟩⟩
theorem opensB {t : TypeId} (hu : Try.prog.underlying t = some .bool) (hc : Try.prog.cellsOf t = 1) : Opens layB t :=
  ⟨hc, ⟨false, trivial⟩, fun h => by
    obtain ⟨b, rfl, _⟩ := DataW.trod_bool hu h
    exact ⟨b, rfl, trivial⟩⟩
theorem opensS {t : TypeId} (hu : Try.prog.underlying t = some .string) (hc : Try.prog.cellsOf t = 1) : Opens layS t :=
  ⟨hc, ⟨ByteArray.empty, trivial⟩, fun h => by
    obtain ⟨s, rfl, _, hm⟩ := DataW.trod_string hu h
    exact ⟨s, rfl, hm⟩⟩
theorem opens_slice {α : Type} {E : Lay α} {t e u : TypeId} (hs : 0 < E.sz) (hu : Try.prog.underlying t = some (.slice e)) (hc : Try.prog.cellsOf t = 1) (hE : Opens E e) : Opens (E.slice u) t := by
  obtain ⟨a0, _⟩ := hE.inh
  refine ⟨hc, ⟨(0, fun _ => a0), trivial⟩, fun {H enc W fuel cs x} h => ?_⟩
  rcases open_slice hu h with ⟨rfl, _⟩ | ⟨a, len, cap, m, n, D, Pl, rfl, _, hl, hm, hmm, _, hel⟩
  · exact ⟨(0, fun _ => a0), none, 0, rfl, Nat.zero_le _, fun h0 => absurd rfl h0⟩
  · have hlm : len ≤ m := by rw [hmm]; simp; exact hl
    have each : ∀ i, ∃ y : α, i < len → ∃ ce, E.rd W W.heap.size y ce ∧ W.cells? 0 (a.add (i * E.sz)) E.sz = some ce := fun i => by
      by_cases hi : i < len
      · obtain ⟨ce, h1, h2⟩ := hel i (by omega)
        obtain ⟨y, hy⟩ := hE.opens h2
        rw [hE.size] at h1
        exact ⟨y, fun _ => ⟨ce, hy, h1⟩⟩
      · exact ⟨a0, fun h => absurd h hi⟩
    refine ⟨(len, fun i => (each i).choose), some a, cap, rfl, by show len ≤ maxLen; omega, fun h0 => ?_⟩
    have h0' : 0 < len := Nat.pos_of_ne_zero h0
    obtain ⟨ce0, _, hc0⟩ := (each 0).choose_spec h0'
    obtain ⟨_, hl0, hcell0⟩ := World.cells?_some hc0
    have h00 := hcell0 0 hs
    rw [List.getElem?_eq_getElem (by omega)] at h00
    have hspot := World.cell?_spot h00
    have hblk := World.block_lt_of_cell? W _ h00
    obtain ⟨b, off, spot⟩ := a
    have hspot' : spot = none := by simpa [Addr.add] using hspot
    subst hspot'
    refine ⟨b, off, rfl, by simpa [Addr.add] using hblk, fun i hi => ?_⟩
    obtain ⟨ce, h1, h2⟩ := (each i).choose_spec hi
    obtain ⟨_, _, hcell⟩ := World.cells?_some h2
    refine ⟨ce, h1, fun j hj => ?_⟩
    have := hcell j hj
    rw [add_none, add_none, Nat.add_assoc] at this
    exact this
theorem opensBytes {t e : TypeId} (hu : Try.prog.underlying t = some (.slice e)) (he : Try.prog.underlying e = some (.int .u8)) (hc : Try.prog.cellsOf t = 1) (hc1 : Try.prog.cellsOf e = 1) : Opens layBytes t :=
  ⟨hc, ⟨(0, fun _ => 0), trivial⟩, fun {H enc W fuel cs x} h => by
    have hsl : ∃ a len cap, cs = [.slice a len cap] := by
      rcases open_slice hu h with ⟨rfl, _⟩ | ⟨a, len, cap, _, _, _, _, rfl, _⟩
      · exact ⟨_, _, _, rfl⟩
      · exact ⟨_, _, _, rfl⟩
    obtain ⟨a, len, cap, rfl⟩ := hsl
    obtain ⟨d, ps⟩ := x
    obtain ⟨zs, hz⟩ := row_of_trod (t := t) (a := a) (len := len) (cap := cap) hu he hc1 ⟨fuel, h⟩
    obtain ⟨f, kf, hr⟩ := hz.rd
    exact ⟨(len, f), _, rfl, hr, kf⟩⟩
theorem opensInts {t e : TypeId} (hu : Try.prog.underlying t = some (.slice e)) (he : Try.prog.underlying e = some (.int .i64)) (hc : Try.prog.cellsOf t = 1) (hc1 : Try.prog.cellsOf e = 1) : Opens layInts t :=
  ⟨hc, ⟨(0, fun _ => 0), trivial⟩, fun {H enc W fuel cs x} h => by
    have hsl : ∃ a len cap, cs = [.slice a len cap] ∧ len ≤ cap := by
      rcases open_slice hu h with ⟨rfl, _⟩ | ⟨a, len, cap, _, _, _, _, rfl, _, hl, _⟩
      · exact ⟨_, _, _, rfl, Nat.le_refl _⟩
      · exact ⟨_, _, _, rfl, hl⟩
    obtain ⟨a, len, cap, rfl, hl⟩ := hsl
    obtain ⟨d, ps⟩ := x
    obtain ⟨zs, hz⟩ := rowI_of_trod (t := t) (a := a) (len := len) (cap := cap) hu he hc1 ⟨fuel, h⟩
    obtain ⟨f, kf, hr⟩ := hz.rd
    exact ⟨(len, f), _, rfl, ⟨hr, _, _, rfl, hl⟩, kf⟩⟩
theorem opens_as {α β : Type} {A : Lay α} {t : TypeId} {to : β → α} (back : α → β) (hb : ∀ a, to (back a) = a) (h : Opens A t) : Opens (A.as to) t :=
  ⟨h.size, by obtain ⟨a, _⟩ := h.inh; exact ⟨back a, trivial⟩, fun h1 => by
    obtain ⟨a, ha⟩ := h.opens h1
    exact ⟨back a, by show A.rd _ _ (to (back a)) _; rw [hb]; exact ha⟩⟩

/-- the fields from the i-th on, from the cell o on, lie as A says -/
structure OpensFrom {α : Type} (A : Lay α) (fs : Array Field) (i o tot : Nat) : Prop where
  fits : o + A.sz = tot
  inh : ∃ a : α, True
  opens : ∀ {H : Type} {enc : TypeId × Value → H} {W : World} {n : Nat} {cs : List Value} {xs : List (DataW H × List MemPlace)}, cs.length = tot → xs.length = fs.size →
    (∀ (k : Nat) (f : Field), fs[k]? = some f → DataW.trod enc Try.prog W 0 (fun _ => true) true n f.type ((cs.drop f.offset).take (Try.prog.cellsOf f.type)) = xs[k]?) → ∃ a, A.rd W W.heap.size a (cs.drop o)
theorem opens_last {α : Type} {A : Lay α} {fs : Array Field} {i o tot : Nat} {t : TypeId} (hf : ∃ f, fs[i]? = some f ∧ f.type = t ∧ f.offset = o) (h : Opens A t) (ht : o + A.sz = tot) : OpensFrom A fs i o tot :=
  ⟨ht, h.inh, fun {H enc W n cs xs} hl hx hget => by
    obtain ⟨f, h1, h2, h3⟩ := hf
    have hg := hget i f h1
    have hi : i < xs.length := by rw [hx]; exact (Array.getElem?_eq_some_iff.1 h1).1
    rw [List.getElem?_eq_getElem hi, h2, h3, h.size] at hg
    obtain ⟨a, ha⟩ := h.opens hg
    rw [List.take_of_length_le (by rw [List.length_drop]; omega)] at ha
    exact ⟨a, ha⟩⟩
theorem opens_more {α β : Type} {A : Lay α} {B : Lay β} {fs : Array Field} {i o tot : Nat} {t : TypeId} (hf : ∃ f, fs[i]? = some f ∧ f.type = t ∧ f.offset = o) (h : Opens A t) (hB : OpensFrom B fs (i + 1) (o + A.sz) tot) : OpensFrom (A.two B) fs i o tot :=
  ⟨by show o + (A.sz + B.sz) = tot; have := hB.fits; omega, by obtain ⟨a, _⟩ := h.inh; obtain ⟨b, _⟩ := hB.inh; exact ⟨(a, b), trivial⟩, fun {H enc W n cs xs} hl hx hget => by
    obtain ⟨f, h1, h2, h3⟩ := hf
    have hg := hget i f h1
    have hi : i < xs.length := by rw [hx]; exact (Array.getElem?_eq_some_iff.1 h1).1
    rw [List.getElem?_eq_getElem hi, h2, h3, h.size] at hg
    obtain ⟨a, ha⟩ := h.opens hg
    obtain ⟨b, hb⟩ := hB.opens hl hx hget
    refine ⟨(a, b), _, _, ?_, ha, hb⟩
    rw [← List.drop_drop, List.take_append_drop]⟩
theorem opens_struct {α : Type} {A : Lay α} {t : TypeId} {fs : Array Field} (hu : Try.prog.underlying t = some (.struct fs)) (hc : Try.prog.cellsOf t = A.sz) (h : OpensFrom A fs 0 0 A.sz) : Opens A t :=
  ⟨hc, h.inh, fun {H enc W fuel cs x} h1 => by
    obtain ⟨xs, n, _, _, hl, hlen, hget⟩ := DataW.trod_struct hu h1
    obtain ⟨a, ha⟩ := h.opens (by rw [hl, hc]) hlen hget
    exact ⟨a, by simpa using ha⟩⟩
end Go.Proofs.Ytopaofcpjiicmaa

namespace Go.Proofs.Ytopaofcpjiicmaa
open Go.ChangeShapes Go.WideShapes Go.ChangeAt Go.RowKit Go.Deep F256

theorem rowsM_of_trod {t e q : TypeId} {H : Type} {enc : TypeId × Value → H} {W : World} {a : Option Addr} {len cap : Nat} {d : DataW H} {ps : List MemPlace}
    (hu : Try.prog.underlying t = some (.slice e)) (he : Try.prog.underlying e = some (.slice q)) (hq : Try.prog.underlying q = some (.int .u8)) (ce : Try.prog.cellsOf e = 1) (cq : Try.prog.cellsOf q = 1)
    (h : DataW.Trod enc Try.prog W 0 (fun _ => true) true t (.slice a len cap) d ps) : ∃ (n : Nat → Nat) (f : Nat → Nat → Nat), (∀ i j, f i j < 256) ∧ RdM W W.heap.size (.slice a len cap) len n f := by
  obtain ⟨fuel, hf⟩ := h
  rcases open_int_rows hu he hq ce cq hf with ⟨hcs, _⟩ | ⟨x, l, c, A, L, C, Z, hcs, _, hl, hm, _, hrows⟩
  · simp [Value.cells] at hcs
    obtain ⟨rfl, rfl, rfl⟩ := hcs
    exact ⟨fun _ => 0, fun _ _ => 0, fun _ _ => Nat.zero_lt_succ _, none, 0, fun _ => nilS, rfl, Nat.zero_le _, fun h => absurd rfl h, fun i hi => absurd hi (Nat.not_lt_zero i)⟩
  · simp [Value.cells] at hcs
    obtain ⟨rfl, rfl, rfl⟩ := hcs
    have each : ∀ i, i < len → IsRow W (A i) (L i) (C i) (Z i) := fun i hi => by
      obtain ⟨h1, h2, h3, h4, h5, h6, h7⟩ := hrows i (by omega)
      cases hA : A i with
      | none =>
        have hC := h6 hA
        exact .inl ⟨rfl, by omega, hC, List.eq_nil_of_length_eq_zero (by omega)⟩
      | some a' => exact .inr ⟨a', rfl, h2, h3, h4, fun c hc => (h7 a' hA).2 c (by omega), h5⟩
    have pick : ∀ i, ∃ g : Nat → Nat, (∀ j, g j < 256) ∧ (i < len → Rd W W.heap.size (.slice (A i) (L i) (C i)) (L i) g) := fun i => by
      by_cases hi : i < len
      · obtain ⟨g, hg, hr⟩ := (each i hi).rd
        exact ⟨g, hg, fun _ => hr⟩
      · exact ⟨fun _ => 0, fun _ => Nat.zero_lt_succ _, fun h => absurd h hi⟩
    refine ⟨L, fun i => (pick i).choose, fun i j => (pick i).choose_spec.1 j, some x, cap, fun i => .slice (A i) (L i) (C i), rfl, by omega, fun h0 => ?_, fun i hi => (pick i).choose_spec.2 hi⟩
    have h00 := (hrows 0 (by omega)).1
    have hspot : (x.add 0).spot = none := World.cell?_spot h00
    obtain ⟨b, off, spot⟩ := x
    have hspot' : spot = none := by simpa [Addr.add] using hspot
    subst hspot'
    refine ⟨b, off, rfl, World.block_lt_of_cell? W _ h00, fun i hi => ?_⟩
    rw [← add_none]
    exact (hrows i (by omega)).1
theorem le_sumN (n : Nat → Nat) {i R : Nat} (h : i < R) : n i ≤ sumN n R := by
  have := sumN_mono n (show i + 1 ≤ R from h)
  simp only [sumN] at this
  omega
end Go.Proofs.Ytopaofcpjiicmaa

namespace Go.Proofs.Ytopaofcpjiicmaa
open Go.ChangeShapes Go.WideShapes Go.ChangeAt Go.RowKit

set_option maxRecDepth 20000 in
/-- a struct of nine numbers, one cell each, that came in -/
theorem shape_of_trod {fs : Array Field} {H : Type} {enc : TypeId × Value → H} {W : World} {r : Reach} {b0 : Nat} {v : Value} {d : DataW H} {ps : List MemPlace} {t e : TypeId}
    (hu : Try.prog.underlying t = some (.struct fs)) (he : Try.prog.underlying e = some (.int .i64)) (hc : Try.prog.cellsOf t = 9) (he1 : Try.prog.cellsOf e = 1)
    (hf : ∀ i, i < 9 → ∃ f, fs[i]? = some f ∧ f.type = e ∧ f.offset = i)
    (hval : Value.okWide Try.prog W r b0 t v) (h : DataW.Trod enc Try.prog W 0 (fun _ => true) true t v d ps) :
    ∃ s : Nat → Int, v = shapeV s ∧ ∀ i, -9223372036854775808 ≤ s i ∧ s i ≤ 9223372036854775807 := by
  obtain ⟨cs, rfl, hsz⟩ := okWide_struct hu hval
  rw [hc] at hsz
  obtain ⟨fuel, hfu⟩ := h
  have hfu' : DataW.trod enc Try.prog W 0 (fun _ => true) true fuel t cs.toList = some (d, ps) := hfu
  obtain ⟨xs, n, _, _, hl, hlen, hget⟩ := DataW.trod_struct hu hfu'
  have each : ∀ i, i < 9 → ∃ a : Int, cs[i]? = some (.int .i64 a) ∧ (-9223372036854775808 ≤ a ∧ a ≤ 9223372036854775807) := fun i hi => by
    obtain ⟨f, h1, h2, h3⟩ := hf i hi
    have hg := hget i f h1
    have hfs : i < fs.size := by
      have := Array.getElem?_eq_some_iff.1 h1
      exact this.1
    have hx : ∃ y, xs[i]? = some y := ⟨xs[i]'(by omega), List.getElem?_eq_getElem _⟩
    obtain ⟨y, hy⟩ := hx
    rw [hy, h2, h3, he1] at hg
    obtain ⟨a, ha, _, hw⟩ := DataW.trod_int he hg
    refine ⟨a, ?_, bounds_i64 hw⟩
    have h5 : ((cs.toList.drop i).take 1)[0]? = some (.int .i64 a) := by rw [ha]; rfl
    rw [List.getElem?_take, if_pos (by omega), List.getElem?_drop] at h5
    simpa using h5
  obtain ⟨s, hs⟩ : ∃ s : Nat → Int, s = fun i => match cs[i]? with | some (.int .i64 a) => a | _ => 0 := ⟨_, rfl⟩
  have hsi : ∀ i, i < 9 → cs[i]? = some (.int .i64 (s i)) := fun i hi => by
    obtain ⟨a, ha, _⟩ := each i hi
    rw [hs]
    simp only [ha]
  refine ⟨fun i => if i < 9 then s i else 0, ?_, fun i => ?_⟩
  · unfold shapeV
    congr 1
    apply Array.ext'
    apply List.ext_getElem?
    intro i
    by_cases hi : i < 9
    · have h1 := hsi i hi
      have : i = 0 ∨ i = 1 ∨ i = 2 ∨ i = 3 ∨ i = 4 ∨ i = 5 ∨ i = 6 ∨ i = 7 ∨ i = 8 := by omega
      rw [Array.getElem?_toList, h1]
      rcases this with rfl | rfl | rfl | rfl | rfl | rfl | rfl | rfl | rfl <;> rfl
    · rw [List.getElem?_eq_none (by simp; omega), List.getElem?_eq_none (by simp; omega)]
  · show -9223372036854775808 ≤ (if i < 9 then s i else 0) ∧ (if i < 9 then s i else 0) ≤ 9223372036854775807
    by_cases hi : i < 9
    · rw [if_pos hi]
      obtain ⟨a, ha, hb⟩ := each i hi
      have h1 := hsi i hi
      rw [ha] at h1
      simp at h1
      rw [← h1]
      exact hb
    · rw [if_neg hi]; omega
end Go.Proofs.Ytopaofcpjiicmaa

namespace Go.Proofs.Ytopaofcpjiicmaa
open Go.ChangeShapes Go.WideShapes Go.ChangeAt Go.RowKit Go.Deep
set_option linter.unusedVariables false
set_option maxRecDepth 20000 in
/-- a struct that came in -/
theorem struct_of_trod {α : Type} {A : Lay α} {fs : Array Field} {H : Type} {enc : TypeId × Value → H} {W : World} {r : Reach} {b0 : Nat} {v : Value} {d : DataW H} {ps : List MemPlace} {t : TypeId}
    (hO : Opens A t) (hu : Try.prog.underlying t = some (.struct fs)) (hval : Value.okWide Try.prog W r b0 t v) (h : DataW.Trod enc Try.prog W 0 (fun _ => true) true t v d ps) :
    ∃ cs a, v = .agg cs.toArray ∧ A.rd W W.heap.size a cs := by
  obtain ⟨cs, rfl, hsz⟩ := okWide_struct hu hval
  obtain ⟨fuel, hfu⟩ := h
  have hfu' : DataW.trod enc Try.prog W 0 (fun _ => true) true fuel t cs.toList = some (d, ps) := hfu
  obtain ⟨a, ha⟩ := hO.opens hfu'
  exact ⟨cs.toList, a, by simp, ha⟩
end Go.Proofs.Ytopaofcpjiicmaa

namespace Go.Proofs.Ytopaofcpjiicmaa
open Go.RowKit F256
set_option linter.unusedVariables false
set_option linter.unusedSimpArgs false
theorem info_ThingS : (Try.prog.info? 29).map (fun i => (i.zero.map (·.cells), i.size, i.bytes)) = some (some #[.string ByteArray.empty, .bool false, .slice none 0 0], 3, 48) := by kernel_rfl
end Go.Proofs.Ytopaofcpjiicmaa

namespace Go.Proofs.Ytopaofcpjiicmaa
open Go.RowKit F256
set_option linter.unusedVariables false
set_option linter.unusedSimpArgs false
end Go.Proofs.Ytopaofcpjiicmaa

namespace Go.Proofs.Ytopaofcpjiicmaa
open Go.RowKit F256
theorem b3_eq (J : Nat) : ((J : Int) % 3 == 0) = decide (J % 3 = 0) := by
  by_cases h : J % 3 = 0
  · have : (J : Int) % 3 = 0 := by omega
    simp [h, this]
  · have : ¬ (J : Int) % 3 = 0 := by omega
    simp [h, this]
end Go.Proofs.Ytopaofcpjiicmaa

namespace Go.Proofs.Ytopaofcpjiicmaa
open Go.RowKit F256
set_option linter.unusedVariables false
set_option linter.unusedSimpArgs false
end Go.Proofs.Ytopaofcpjiicmaa

namespace Go.Proofs.Ytopaofcpjiicmaa
open Go.RowKit F256
set_option linter.unusedVariables false
set_option linter.unusedSimpArgs false
end Go.Proofs.Ytopaofcpjiicmaa

namespace Go.Proofs.Ytopaofcpjiicmaa
open Go.RowKit F256
set_option linter.unusedVariables false
set_option linter.unusedSimpArgs false
end Go.Proofs.Ytopaofcpjiicmaa

namespace Go.Proofs.Ytopaofcpjiicmaa
open Go.ChangeShapes Go.WideShapes Go.ChangeAt Go.RowKit Go.Deep
set_option linter.unusedVariables false
theorem opensBytesU : Opens layBytes 22 := opensBytes Try.underlying22 Try.underlying5 (by kernel_rfl) (by kernel_rfl)
theorem slice_of_trod {α : Type} {A : Lay α} {H : Type} {enc : TypeId × Value → H} {W : World} {ao : Option Addr} {len cap : Nat} {d : DataW H} {ps : List MemPlace} {t : TypeId} (hO : Opens A t)
    (h : DataW.Trod enc Try.prog W 0 (fun _ => true) true t (.slice ao len cap) d ps) : ∃ a, A.rd W W.heap.size a [.slice ao len cap] := by
  obtain ⟨fuel, hfu⟩ := h
  exact hO.opens (cs := [.slice ao len cap]) hfu
theorem mark_S {α : Type} {A : Lay α} {c : α → Nat} {mk : Nat → α → α} {fn : Nat} (hm : MkS A c mk fn) {w : World} {lo hi : Nat} {d : α} {v : Value} (h : OwnT A w lo hi d [v]) (j : Nat) (hj : j + c d ≤ 100000000) :
    Calls Try.prog fn #[v, .int .i64 j] w fun e w' => e = .returned (.int .i64 ((j + c d : Nat) : Int)) ∧ OwnT A w' lo hi (mk j d) [v] ∧ Chg lo hi w w' := by
  obtain ⟨L, h1, h2, h3⟩ := h
  exact (hm v d L j w h1 h2 hj).mono fun e w' ⟨he, ho, hc⟩ => ⟨he, ⟨L, ho, h2, h3⟩, hc.chg h3⟩
theorem cThing_le (d : ThingD) : cThingD d ≤ 6 + 6 * szThingD d := by unfold cThingD szThingD; omega
theorem cThings_le (p : Nat × (Nat → ThingD)) {B : Nat} (h : szSl szThingD p ≤ B) : cSl cThingD p ≤ 6 * B := Nat.le_trans (cSl_le (k := 6) cThing_le p) (Nat.mul_le_mul_left 6 h)
end Go.Proofs.Ytopaofcpjiicmaa

namespace Go.Proofs.Ytopaofcpjiicmaa
open Go.RowKit F256
set_option linter.unusedVariables false
theorem drop_le (p : Nat × (Nat → ThingD)) (bn : ByteArray) : szSl szThingD (dropL p bn) ≤ szSl szThingD p := by
  have h1 := sum_sel (fun i => szThingD (p.2 i)) (fun i => keepT bn (p.2 i)) p.1
  have h2 := kept_le (fun i => keepT bn (p.2 i)) p.1
  unfold szSl dropL
  simp only at h1 ⊢
  omega
theorem drop_sz {p : Nat × (Nat → ThingD)} {bn : ByteArray} (h : szSl szThingD p ≤ 1048576) : szSl szThingD (dropL p bn) ≤ 4000000 := by
  have := drop_le p bn
  omega
end Go.Proofs.Ytopaofcpjiicmaa

namespace Go.Proofs.Ytopaofcpjiicmaa
open Go.RowKit F256
set_option linter.unusedVariables false
theorem sum_insF {β : Type} (f : β → Nat) (x : Nat → β) (a : β) (i : Nat) : ∀ k, sumN (fun j => f (insF x i a j)) (i + k + 1) = sumN (fun j => f (x j)) (i + k) + f a
  | 0 => by
    have h : ∀ n, n ≤ i → sumN (fun j => f (insF x i a j)) n = sumN (fun j => f (x j)) n := fun n => by
      induction n with
      | zero => intro _; rfl
      | succ n ih => intro hn; rw [sumN_succ, sumN_succ, ih (by omega), insF_lt x a (by omega)]
    show sumN (fun j => f (insF x i a j)) (i + 1) = sumN (fun j => f (x j)) i + f a
    rw [sumN_succ, h i (Nat.le_refl _), insF_at]
  | k + 1 => by
    have e : i + (k + 1) = i + k + 1 := by omega
    rw [sumN_succ, e, sum_insF f x a i k, sumN_succ]
    have e2 : insF x i a (i + k + 1) = x (i + k) := by
      have := insF_gt x i a k
      rw [show i + 1 + k = i + k + 1 by omega] at this
      exact this
    rw [e2]
    omega
theorem put_sz {p : Nat × (Nat → ThingD)} {bn : ByteArray} {q : Nat × (Nat → Nat)} {i : Nat} (h : szSl szThingD p ≤ 1048576) (h1 : bn.size ≤ 1048576) (h2 : q.1 ≤ 1048576) (hi : i ≤ (dropL p bn).1) : szSl szThingD (putL p bn q i) ≤ 4000000 := by
  have hd := drop_le p bn
  obtain ⟨d, hD⟩ : ∃ d, d = dropL p bn := ⟨_, rfl⟩
  unfold putL
  rw [← hD] at hd hi ⊢
  have hs := sum_insF szThingD d.2 ⟨bn, false, q⟩ i (d.1 - i)
  rw [show i + (d.1 - i) = d.1 by omega] at hs
  have e : szThingD ⟨bn, false, q⟩ = bn.size + q.1 := rfl
  unfold szSl putD
  unfold szSl at hd h
  simp only at hs ⊢
  omega
end Go.Proofs.Ytopaofcpjiicmaa

namespace Go.Proofs.Ytopaofcpjiicmaa
open Go.RowKit F256

/-- a source of draws in block bs: t draws were made; its bytes lie below -/
def SrcD (w : World) (bs t : Nat) (v : Value) (n : Nat) (f : Nat → Nat) : Prop := Box w bs #[v, .int .i64 t] 49 ∧ Rd w bs v n f ∧ (∀ i, f i < 256) ∧ n ≤ 1048576

theorem nat_mod (a b : Nat) : ((a : Int) % (b : Int)) = ((a % b : Nat) : Int) := by simp
theorem nat_div (a b : Nat) : ((a : Int) / (b : Int)) = ((a / b : Nat) : Int) := by simp

set_option maxHeartbeats 2000000 in
theorem l1Next_any (bs t : Nat) (v : Value) (n : Nat) (f : Nat → Nat) (N : Nat) (hN : 1 ≤ N) (hN2 : N ≤ 100000) (ht : t ≤ 1000000) (w : World) (h : SrcD w bs t v n f) :
    Calls Try.prog 14 #[.pointer (some ⟨bs, 0, none⟩), .int .i64 N] w fun e w' => ∃ r : Nat, r < N ∧ e = .returned (.int .i64 r) ∧ SrcD w' bs (t + 1) v n f ∧ Chg bs (bs + 1) w w' := by
  obtain ⟨hbox, hrd, kf, hn⟩ := h
  obtain ⟨ao, cap, rfl, hm, hc⟩ := hrd
  have fin : ∀ k : Nat, SrcD ((w.setCell ⟨bs, 1, none⟩ (.int .i64 ((t : Int) + 1))).drewN k) bs (t + 1) (.slice ao n cap) n f ∧ Chg bs (bs + 1) w ((w.setCell ⟨bs, 1, none⟩ (.int .i64 ((t : Int) + 1))).drewN k) := by
    intro k
    have o1 := out_store w bs (bs + 1) bs 1 (.int .i64 ((t : Int) + 1)) (Nat.le_refl _) (by omega)
    refine ⟨⟨?_, ?_, kf, hn⟩, ⟨o1.os, o1.tape, o1.output, Nat.le_of_eq o1.size.symm, fun b _ hb => o1.block b hb⟩⟩
    · exact heap_setCell_same w bs 1 _ _ _ hbox
    · refine ⟨ao, cap, rfl, hm, fun h0 => ?_⟩
      obtain ⟨b, off, rfl, hlt, hcell⟩ := hc h0
      exact ⟨b, off, rfl, hlt, fun i hi => (World.cell?_of_block (w := w) (o1.block b (.inl hlt))).trans (hcell i hi)⟩
  obtain ⟨c0, c1, z0, z1⟩ := res_cells hbox
  by_cases h0 : n = 0
  · subst h0
    have F := fin 0
    clear fin hc kf hbox
    go_enter Try.func14, Try.ntmps14
    go_wp2
    go_ret
    exact ⟨t * 7 % N, Nat.mod_lt _ (by omega), ret_eq (by rw [Int.natCast_emod]; simp), F⟩
  · obtain ⟨b, off, rfl, hlt, hcell⟩ := hc h0
    have hp := Nat.mod_lt t (show 0 < n by omega)
    have hp2 := Nat.mod_lt (t + 1) (show 0 < n by omega)
    have hq2 := Nat.div_le_self t n
    have e1 := nat_mod t n
    have e2 := nat_mod (t + 1) n
    have e3 := nat_div t n
    have e2' : ((t : Int) + 1) % (n : Int) = (((t + 1) % n : Nat) : Int) := by rw [← e2]; simp
    have hbs : b ≠ bs := by omega
    obtain ⟨p, hpd⟩ : ∃ p, p = t % n := ⟨_, rfl⟩
    obtain ⟨p2, hpd2⟩ : ∃ p, p = (t + 1) % n := ⟨_, rfl⟩
    obtain ⟨q, hqd⟩ : ∃ p, p = t / n := ⟨_, rfl⟩
    rw [← hpd] at e1 hp
    rw [← hpd2] at e2' hp2
    rw [← hqd] at e3 hq2
    have g1 := hcell p hp
    have g2 := hcell p2 hp2
    have k1 := kf p
    have k2 := kf p2
    have hne : ((n : Int) == 0) = false := by simp; omega
    clear hpd hpd2 hqd e2 hc kf hbox hcell
    by_cases hbig : 200 < N
    · go_enter Try.func14, Try.ntmps14
      go_wp2
      go_quiet (fail)
      go_wp2
      go_quiet (fail)
      go_wp2
      go_ret
      exact ⟨((f p + q * 37) * 251 + f p2 * 13 + t) % N, Nat.mod_lt _ (by omega), ret_eq (by rw [Int.natCast_emod]; simp), fin _⟩
    · go_enter Try.func14, Try.ntmps14
      go_wp2
      go_quiet (fail)
      go_wp2
      go_ret
      exact ⟨(f p + q * 37) % N, Nat.mod_lt _ (by omega), ret_eq (by rw [Int.natCast_emod]; simp), fin _⟩

theorem SrcD.chgTrans {w w' : World} {bs t n : Nat} {v : Value} {f : Nat → Nat} (h : SrcD w bs t v n f) (hb : Below w.heap.size w w') : SrcD w' bs t v n f :=
  ⟨h.1.below hb h.1.lt, h.2.1.below hb (Nat.le_of_lt h.1.lt), h.2.2⟩

set_option maxHeartbeats 2000000 in
/-- a choice out of a list of numbers that lies in a block of its own -/
theorem l1Pick_any (bs t : Nat) (v : Value) (n : Nat) (f : Nat → Nat) (cs : Array Value) (g : Nat → Int) (bl cap : Nat) (ht : t ≤ 1000000) (hl : 1 ≤ cs.size) (hl2 : cs.size ≤ 100000) (hg : ∀ i, i < cs.size → cs[i]? = some (.int .i64 (g i)))
    (w : World) (h : SrcD w bs t v n f) (hb : Box w bl cs 2) (hne : bl ≠ bs) :
    Calls Try.prog 32 #[.pointer (some ⟨bs, 0, none⟩), .slice (some ⟨bl, 0, none⟩) cs.size cap] w fun e w' => ∃ i : Nat, i < cs.size ∧ e = .returned (.int .i64 (g i)) ∧ SrcD w' bs (t + 1) v n f ∧ Chg bs (bs + 1) w w' := by
  have C := l1Next_any bs t v n f cs.size hl hl2 ht w h
  obtain ⟨sz, hsz⟩ : ∃ sz, sz = cs.size := ⟨_, rfl⟩
  rw [← hsz] at C hl hl2 ⊢
  have HS : Hid (sz = cs.size) := hsz
  have HG : Hid (∀ i, i < cs.size → cs[i]? = some (.int .i64 (g i))) := hg
  clear hsz hg
  go_enter Try.func32, Try.ntmps32
  go_wp2_with (go_at_call 14; refine C.mono ?_; rintro e w1 ⟨r, hr, rfl, hsrc, hchg⟩; have hcell : w1.cell? ⟨bl, r, none⟩ = some (.int .i64 (g r)) := ((hb.chg hchg (by omega)).cell r).trans (HG.out r (by rw [← HS.out]; exact hr)))
  go_ret
  exact ⟨r, hr, rfl, hsrc, hchg⟩

set_option maxHeartbeats 2000000 in
theorem l1Byte_any (bs t : Nat) (v : Value) (n : Nat) (f : Nat → Nat) (ht : t ≤ 900000) (w : World) (h : SrcD w bs t v n f) :
    Calls Try.prog 28 #[.pointer (some ⟨bs, 0, none⟩)] w fun e w' => ∃ a : Nat, a < 256 ∧ e = .returned (.int .u8 a) ∧ SrcD w' bs (t + 3) v n f ∧ Chg bs (bs + 1) w w' := by
  go_enter Try.func28, Try.ntmps28
  go_wp2_with fail
  refine (l1Next_any bs t v n f 256 (by omega) (by omega) (by omega) _ h).mono ?_
  rintro e w1 ⟨r1, hr1, rfl, h1, c1⟩
  go_wp2_with fail
  refine (l1Next_any bs (t + 1) v n f 256 (by omega) (by omega) (by omega) _ h1).mono ?_
  rintro e w2 ⟨r2, hr2, rfl, h2, c2⟩
  go_wp2_with fail
  have hb : Below w2.heap.size w2 (w2.alloc (.cells #[.int .i64 r1, .int .i64 r2, .int .i64 0, .int .i64 1, .int .i64 2, .int .i64 255] 2)) := (Below.refl _ _).alloc (Nat.le_refl _) _
  have hl2 := h2.1.lt
  refine (l1Pick_any bs (t + 2) v n f #[.int .i64 r1, .int .i64 r2, .int .i64 0, .int .i64 1, .int .i64 2, .int .i64 255] (fun i => ([(r1 : Int), (r2 : Int), 0, 1, 2, 255] : List Int).getD i 0) w2.heap.size 6 (by omega) (by show 1 ≤ 6; omega) (by show 6 ≤ 100000; omega) ?_ _ (h2.chgTrans hb) (box_new _ _ _) (by omega)).mono ?_
  · intro i hi
    have hi6 : i < 6 := hi
    have : i = 0 ∨ i = 1 ∨ i = 2 ∨ i = 3 ∨ i = 4 ∨ i = 5 := by omega
    rcases this with rfl | rfl | rfl | rfl | rfl | rfl <;> rfl
  rintro e w3 ⟨j, hj, rfl, h3, c3⟩
  have hj6 : j < 6 := hj
  obtain ⟨a, ha, hae⟩ : ∃ a : Nat, a < 256 ∧ ([(r1 : Int), (r2 : Int), 0, 1, 2, 255] : List Int).getD j 0 = (a : Int) := by
    have : j = 0 ∨ j = 1 ∨ j = 2 ∨ j = 3 ∨ j = 4 ∨ j = 5 := by omega
    rcases this with rfl | rfl | rfl | rfl | rfl | rfl
    · exact ⟨r1, hr1, rfl⟩
    · exact ⟨r2, hr2, rfl⟩
    · exact ⟨0, by omega, rfl⟩
    · exact ⟨1, by omega, rfl⟩
    · exact ⟨2, by omega, rfl⟩
    · exact ⟨255, by omega, rfl⟩
  rw [hae]
  have C := (c1.trans c2).trans ((Below.chg hb bs (bs + 1)).trans c3)
  clear hae hj hj6 h1 h2 c1 c2 c3 hb
  go_wp2
  go_ret
  exact ⟨a, ha, rfl, h3, C⟩

theorem l1Source_any (v : Value) (n : Nat) (f : Nat → Nat) (w : World) (h : Rd w w.heap.size v n f) (kf : ∀ i, f i < 256) (hn : n ≤ 1048576) :
    Calls Try.prog 10 #[v] w fun e w' => e = .returned (.pointer (some ⟨w.heap.size, 0, none⟩)) ∧ SrcD w' w.heap.size 0 v n f ∧ Below w.heap.size w w' := by
  have hb : Below w.heap.size w (w.alloc (.cells #[v, .int .i64 0] 49)) := (Below.refl _ _).alloc (Nat.le_refl _) _
  have hs : SrcD (w.alloc (.cells #[v, .int .i64 0] 49)) w.heap.size 0 v n f := ⟨box_new _ _ _, h.below hb (Nat.le_refl _), kf, hn⟩
  obtain ⟨ao, cap, rfl, hm, hc⟩ := h
  clear hc
  go_enter Try.func10, Try.ntmps10
  go_wp2
  go_ret
  exact ⟨rfl, hs, hb⟩

theorem lwBig_no (v : Value) (n : Nat) (f : Nat → Nat) (hh : Nat) (w : World) (h : Rd w hh v n f) (hn : n ≤ 1048576) :
    Calls Try.prog 4 #[v] w fun e w' => e = .returned (.bool false) ∧ w' = w := by
  obtain ⟨ao, cap, rfl, hm, hc⟩ := h
  clear hc
  have hd : decide ((1048576 : Int) < (n : Int)) = false := by simp; omega
  go_enter Try.func4, Try.ntmps4
  go_wp2
  go_ret
  exact ⟨rfl, rfl⟩
theorem lwBig_yes (v : Value) (n : Nat) (f : Nat → Nat) (hh : Nat) (w : World) (h : Rd w hh v n f) (hn : 1048576 < n) :
    Calls Try.prog 4 #[v] w fun e w' => e = .returned (.bool true) ∧ w' = w := by
  obtain ⟨ao, cap, rfl, hm, hc⟩ := h
  clear hc
  unfold maxLen at hm
  have hd : decide ((1048576 : Int) < (n : Int)) = true := by simp; omega
  go_enter Try.func4, Try.ntmps4
  go_wp2
  go_ret
  exact ⟨rfl, rfl⟩
end Go.Proofs.Ytopaofcpjiicmaa

namespace Go.Proofs.Ytopaofcpjiicmaa
open Go.RowKit F256
set_option linter.unusedVariables false

set_option maxHeartbeats 2000000 in
theorem l1Chance_any (bs t : Nat) (v : Value) (n : Nat) (f : Nat → Nat) (N : Nat) (hN : 1 ≤ N) (hN2 : N ≤ 100000) (ht : t ≤ 1000000) (w : World) (h : SrcD w bs t v n f) :
    Calls Try.prog 27 #[.pointer (some ⟨bs, 0, none⟩), .int .i64 N] w fun e w' => ∃ b : Bool, e = .returned (.bool b) ∧ SrcD w' bs (t + 1) v n f ∧ Chg bs (bs + 1) w w' := by
  go_enter Try.func27, Try.ntmps27
  go_wp2_with fail
  refine (l1Next_any bs t v n f N hN hN2 ht _ h).mono ?_
  rintro e w1 ⟨r, hr, rfl, h1, c1⟩
  go_wp2
  go_ret
  exact ⟨_, rfl, h1, c1⟩

/-- what changes only what came behind -/
theorem Chg.then {lo hi : Nat} {w w1 w2 : World} (h : Chg lo hi w w1) (b : Below w.heap.size w1 w2) : Chg lo hi w w2 :=
  ⟨b.os.trans h.os, b.tape.trans h.tape, b.output.trans h.output, Nat.le_trans h.size b.size, fun q hq ho => (b.block q hq).trans (h.block q hq ho)⟩

set_option maxHeartbeats 2000000 in
theorem l1Some_any (bs t : Nat) (v : Value) (n : Nat) (f : Nat → Nat) (N : Nat) (hN : N ≤ 1000) (ht : t ≤ 800000) (w : World) (h : SrcD w bs t v n f) :
    Calls Try.prog 13 #[.pointer (some ⟨bs, 0, none⟩), .int .i64 N] w fun e w' => ∃ v' g, e = .returned v' ∧ Own w' w.heap.size w'.heap.size v' N g ∧ (∀ i, g i < 256) ∧ SrcD w' bs (t + 3 * N) v n f ∧ Chg bs (bs + 1) w w' := by
  have hbs := h.1.lt
  have H0 : Hid (SrcD w bs t v n f) := h
  clear h
  go_enter Try.func13, Try.ntmps13
  go_wp2
  go_loopw [1, 5] (fun i u wr => ∃ j k : Nat, j + k = N ∧ i = .int .i64 j ∧ ∃ g, Own wr w.heap.size wr.heap.size u k g ∧ (∀ i, g i < 256) ∧ SrcD wr bs (t + 3 * k) v n f ∧ Chg bs (bs + 1) w wr) (fun i _ _ => (intOf i).toNat)
  case atStart =>
    have b0 : Below w.heap.size w (w.alloc (.cells #[] 5)) := (Below.refl _ _).alloc (Nat.le_refl _) _
    exact ⟨N, 0, rfl, rfl, fun _ => 0, own_lit0 w _, fun _ => by show (0 : Nat) < 256; omega, H0.out.chgTrans b0, Below.chg b0 _ _⟩
  case round =>
    obtain ⟨j, k, hjk, rfl, g, hown, hg, hsrc, hchg⟩ := hrel
    by_cases hlt : 0 < j
    · have C := l1Byte_any bs (t + 3 * k) v n f (by omega) wr hsrc
      have hsz := hchg.size
      have HO : Hid (Own wr w.heap.size wr.heap.size u5 k g) := hown
      have HG : Hid (∀ i, g i < 256) := hg
      clear hown hg hsrc
      go_wp2_with (first | (go_at_call 28; refine C.mono ?_; rintro e wx ⟨y, hy, rfl, hsx, hcx⟩; have HOX : Hid (Own wx w.heap.size wr.heap.size u5 k (fun i => if i = k then y else g i)) := (HO.out.chg hcx (.inr (by omega))).congr (fun i hi => by simp [show ¬ i = k by omega])) | (at_builtin; refine wp_appendB rfl (.tmp 11) (.tmp 14) rfl w.heap.size wr.heap.size u5 k (fun i => if i = k then y else g i) ?_ ?_ wx.heap.size 1 ?_ ?_ ?_ ?_ ?_; (simp [Act.eval]); exact HOX.out.alloc _; (simp [Act.eval]); simp; omega; (simp; have := hcx.size; omega); intro v' w1 hown1 hb1))
      have bx : Below wx.heap.size wx (wx.alloc (.cells #[.int .u8 y] 5)) := (Below.refl _ _).alloc (Nat.le_refl _) _
      have hsw := hcx.size
      have b2 : Below w.heap.size wx w1 := (bx.mono (by omega)).trans hb1
      have R1 : SrcD w1 bs (t + 3 * k + 3) v n f := ⟨hsx.1.below b2 hbs, hsx.2.1.below b2 (by omega), hsx.2.2⟩
      have R2 : Chg bs (bs + 1) w w1 := Chg.then (hchg.trans hcx) b2
      clear hsx hcx hb1 hchg
      go_wp2
      go_roundw
      case rel => exact ⟨j - 1, k + 1, by omega, by go_num, _, hown1, fun i => by
                    by_cases e : i = k
                    · simp [e, hy]
                    · simp [e]; exact HG.out i, by rw [show t + 3 * (k + 1) = t + 3 * k + 3 by omega]; exact R1, R2⟩
      case measure => simp [intOf]; omega
    · obtain rfl : j = 0 := by omega
      obtain rfl : k = N := by omega
      go_wp2
      go_ret
      exact ⟨_, g, rfl, hown, hg, hsrc, hchg⟩
end Go.Proofs.Ytopaofcpjiicmaa
