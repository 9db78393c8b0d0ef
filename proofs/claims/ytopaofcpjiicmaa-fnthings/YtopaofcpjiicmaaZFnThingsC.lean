/- Walk of the law FnThings. -/
import Derived.Test.YtopaofcpjiicmaaZFnThingsB
import Derived.Lib.Overlaps
import Derived.Lib.AppendZerosOnto
import Derived.Laws.IdiomCopy
import Derived.Shelf.RegionOpenPlain
import Derived.Deep.DeepCutAuto
import Derived.Deep.RegionLaw
import Derived.Test.YtopaofcpjiicmaaOwn
import Derived.BigQuiet
import Derived.Deep.QuietTactic
namespace Go.Proofs.Ytopaofcpjiicmaa
open Go.RowKit F256
set_option linter.unusedVariables false
set_option linter.unusedSimpArgs false
/-- append(v, y...) onto a row of its own -/
theorem run_appendW {α : Type} {E : Lay α} {T e : TypeId} {by_ : Nat} {zs : List Value} (I : ElInfo E T e by_ zs) (R1 : RdOne E) (ty : TypeId) {W : World} {lo hi n : Nat} {v : Value} {x : Nat → α} {ce : Nat → List Value} (h : View E e W lo hi v n x ce)
    {ao : Option Addr} {m : Nat} (c : Nat) {y : Nat → α} {cy : Nat → List Value} (hs : Src E W hi ao m y cy) (hlo : lo ≤ W.heap.size) (hhi : hi ≤ lo) (hn : n + m ≤ 10000000) (hc0 : ao = none → c = 0 ∨ m = 0) :
    ∃ v' w', (Builtin.append_ #[T, T] ty #[v, .slice ao m c]).run Try.prog W = .ok v' w' ∧ View E e w' lo hi v' (n + m) (cat2 x n y) (cat2 ce n cy) ∧ W.grownBy w' v.ownBlock ∧ Below lo W w' ∧ (v'.ownBlock = v.ownBlock ∨ v'.ownBlock = some W.heap.size) := by
  obtain ⟨hz, hzs, hu, hinf, few⟩ := I
  obtain ⟨i0, hi0⟩ : ∃ i0, Try.prog.info? e = some i0 := by
    cases h : Try.prog.info? e with
    | none => rw [h] at hinf; cases hinf
    | some i0 => exact ⟨i0, rfl⟩
  rw [hi0] at hinf
  simp only [Option.map_some, Option.some.injEq, Prod.mk.injEq] at hinf
  obtain ⟨h1, h2, h3⟩ := hinf
  obtain ⟨z, hz0, hzc⟩ : ∃ z, i0.zero = some z ∧ z.cells = zs.toArray := by
    cases h : i0.zero with
    | none => rw [h] at h1; cases h1
    | some z => rw [h] at h1; exact ⟨z, rfl, by simpa using h1⟩
  obtain ⟨hcell, hrd⟩ := hs
  have hlen : (catN m cy).length = m * E.sz := catN_len (fun j hj => E.rd_len (hrd j hj))
  have big : ∀ ad, ao = some ad → (∀ j u, (catN m cy)[j]? = some u → W.cell? (ad.add j) = some u) → ∃ v' w', (Builtin.append_ #[T, T] ty #[v, .slice ao m c]).run Try.prog W = .ok v' w' ∧ View E e w' lo hi v' (n + m) (cat2 x n y) (cat2 ce n cy) ∧ W.grownBy w' v.ownBlock ∧ Below lo W w' ∧ (v'.ownBlock = v.ownBlock ∨ v'.ownBlock = some W.heap.size) := fun ad ha hc => by
    subst ha
    obtain ⟨v', w', hr, r1, r2, r3, r4⟩ := run_append_own_at (P := Try.prog) W lo T ty e i0 z E.sz by_ hu hi0 hz0 h2 h3 (by rw [hzc]; simpa using hzs) hz v n (catN n ce) h.row ad m c (catN m cy) hlen hc
      (fun u hu => by
        obtain ⟨i, hi, hm⟩ := mem_catN.1 hu
        exact R1 _ _ _ _ (hrd i hi) u hm) (by unfold maxLen; omega) (by
        have : (n + m) * by_ ≤ 10000000 * 1000 := Nat.mul_le_mul hn few
        omega) hlo
    have hb : Below lo W w' := (Below.refl _ _).grown r2 hlo (fun k hk => (h.row.lt k hk).1)
    refine ⟨v', w', hr, ⟨by rw [catN_cat2]; exact r1, fun i hi => ?_⟩, r2, hb, r4⟩
    by_cases c1 : i < n
    · rw [cat2_lt x y c1, cat2_lt ce cy c1]
      exact E.rd_below (h.each i c1) hb hhi
    · obtain ⟨k, rfl⟩ : ∃ k, i = n + k := ⟨i - n, by omega⟩
      rw [cat2_ge, cat2_ge]
      exact E.rd_below (hrd k (by omega)) hb hhi
  by_cases hm : m = 0
  · subst hm
    cases ao with
    | some ad => exact big ad rfl (fun j u hj => by rw [catN_zero] at hj; simp at hj)
    | none =>
      refine ⟨v, W, run_append_none' W lo T ty e i0 E.sz hu hi0 v n c _ h.row, ⟨by rw [catN_cat2, catN_zero, List.append_nil]; exact h.row, fun i hi => ?_⟩, ⟨rfl, rfl, rfl, Nat.le_refl _, fun _ _ _ => rfl⟩, Below.refl _ _, .inl rfl⟩
      have hi' : i < n := by omega
      rw [cat2_lt x y hi', cat2_lt ce cy hi']
      exact h.each i hi'
  · obtain ⟨b, off, rfl, hcc⟩ := hcell hm
    refine big _ rfl (fun j u hj => ?_)
    have hj' : j < m * E.sz := by rw [← hlen]; exact (List.getElem?_eq_some_iff.1 hj).1
    have e1 : j / E.sz < m := Nat.div_lt_of_lt_mul (by rw [Nat.mul_comm]; exact hj')
    have e2 : j % E.sz < E.sz := Nat.mod_lt _ hz
    have e3 : j / E.sz * E.sz + j % E.sz = j := by rw [Nat.mul_comm]; exact Nat.div_add_mod j E.sz
    rw [add_oo, ← e3, hcc _ e1 _ e2, ← catN_get (fun j hj => E.rd_len (hrd j hj)) e1 e2, e3]
    exact hj
theorem wp_runZ {ops : Array Oper} {rest : List Oper} {o : Oper} {a : Act} {W w' : World} {Q : Exit → Act → World → Prop} {T T2 : TypeId} {v' x1 x2 : Value} (hg : o.guard = none) (s y : Operand) (hop : o.op = Op.call { callee := Callee.builtin Builtin.append, args := #[s, y], argTypes := #[T, T2] })
    (h1 : a.eval s = x1) (h2 : a.eval y = x2) (hrun : (Builtin.append_ #[T, T2] o.type #[x1, x2]).run Try.prog W = .ok v' w') (hK : wpList Try.prog ops Q rest (a.put o.dst v') w') : wpList Try.prog ops Q (o :: rest) a W := by
  refine wpList_plain hg fun K hK' => ?_
  unfold Oper.wp
  simp [execOp, hop, resolve, invoke, builtin, h1, h2, hrun, Result.andThen]
  exact hK' _ _ hK
theorem wp_runC {ops : Array Oper} {rest : List Oper} {o : Oper} {a : Act} {W w' : World} {Q : Exit → Act → World → Prop} {T : TypeId} {v' x1 x2 : Value} (hg : o.guard = none) (s y : Operand) (hop : o.op = Op.call { callee := Callee.builtin Builtin.copy, args := #[s, y], argTypes := #[T, T] })
    (h1 : a.eval s = x1) (h2 : a.eval y = x2) (hrun : (Builtin.copy_ #[T, T] o.type #[x1, x2]).run Try.prog W = .ok v' w') (hK : wpList Try.prog ops Q rest (a.put o.dst v') w') : wpList Try.prog ops Q (o :: rest) a W := by
  refine wpList_plain hg fun K hK' => ?_
  unfold Oper.wp
  simp [execOp, hop, resolve, invoke, builtin, h1, h2, hrun, Result.andThen]
  exact hK' _ _ hK
theorem step_runC {ops : Array Oper} {o : Oper} {a : Act} {W w' : World} {K : Act → World → Prop} {Q : Exit → Act → World → Prop} {F : Prop} {T : TypeId} {v' x1 x2 : Value} (hg : o.guard = none) (s y : Operand) (hop : o.op = Op.call { callee := Callee.builtin Builtin.copy, args := #[s, y], argTypes := #[T, T] })
    (h1 : a.eval s = x1) (h2 : a.eval y = x2) (hrun : (Builtin.copy_ #[T, T] o.type #[x1, x2]).run Try.prog W = .ok v' w') (hK : K (a.put o.dst v') w') : if Region.wanted o (yielded ops a.tmps) = true then Oper.wp Try.prog o a W K Q else F := by
  have hw : Region.wanted o (yielded ops a.tmps) = true := by simp [Region.wanted, hg]
  rw [if_pos hw]
  unfold Oper.wp
  simp [execOp, hop, resolve, invoke, builtin, h1, h2, hrun, Result.andThen]
  exact hK
theorem run_copyK (w : World) (ty : TypeId) (b o dLen dCap : Nat) (a : Addr) (sLen sCap n : Nat) (cs : List Value) (hn : n = Nat.min sLen dLen) (hcl : cs.length = n * 3)
    (hsrc : ∀ j v, cs[j]? = some v → w.cell? (a.add j) = some v) (hc : ∀ j, j < cs.length → (w.cell? ⟨b, o + j, none⟩).isSome = true) (hf : ∀ j, j < cs.length → w.frozen? ⟨b, o + j, none⟩ = false) (h1 : ∀ v ∈ cs, v.oneCell' = true) :
    (Builtin.copy_ #[24, 24] ty #[.slice (some ⟨b, o, none⟩) dLen dCap, .slice (some a) sLen sCap]).run Try.prog w = .ok (goInt n) (w.setCells b o cs) := by
  have hl := run_loadCells_list (P := Try.prog) w a cs hsrc
  have hst := run_storeCells_cells (P := Try.prog) b o cs 0 w (by simpa using hc) (by simpa using hf) h1
  have hs := size_Thing
  cases hq : Try.prog.info? 29 with
  | none => simp [hq] at hs
  | some i =>
    have hi : i.size = 3 := by simpa [hq] using hs
    rw [hcl] at hl
    simp [Builtin.copy_, run_underlying Try.underlying24, Builtin.lenOf, Builtin.firstCells, sizeOf, typeInfo, hq, hi, ← hn, hl, hst]
/-- a row that has room, one longer -/
theorem row_more {w : World} {g cap n : Nat} {xs : List Value} (h : w.ownsRow 0 29 3 (.slice (some ⟨g, 0, none⟩) n cap) n xs) (hr : n + 1 ≤ cap) : ∃ z, z.length = 3 ∧ w.ownsRow 0 29 3 (.slice (some ⟨g, 0, none⟩) (n + 1) cap) (n + 1) (xs ++ z) := by
  have hl := h.1
  rcases h.2 with ⟨hn, _⟩ | ⟨g', cap', cur, he, hbg, hgg, hnc, hcm, hcs, htk⟩
  · cases hn
  · cases he
    have h3 : (n + 1) * 3 ≤ cap * 3 := Nat.mul_le_mul_right 3 hr
    have h7 : cur.toList.length = cap * 3 := by simpa using hcs
    refine ⟨(cur.toList.drop (n * 3)).take 3, by simp only [List.length_take, List.length_drop]; omega, by simp only [List.length_append, List.length_take, List.length_drop]; omega, .inr ⟨g, cap, cur, rfl, hbg, hgg, hr, hcm, hcs, ?_⟩⟩
    rw [show (n + 1) * 3 = n * 3 + 3 by omega, List.take_add, htk]
theorem spl_len (cs : List Value) : ∀ (xs : List Value) (o : Nat), (spl xs o cs).length = xs.length := by
  induction cs with
  | nil => intro xs o; rfl
  | cons v r ih => intro xs o; show (spl (xs.set o v) (o + 1) r).length = _; rw [ih, List.length_set]
theorem ins_get {X ct : List Value} {n i : Nat} (hX : X.length = n * 3) (hc : ct.length = 3) (hi : i ≤ n) (j : Nat) : (X.take (i * 3) ++ (ct ++ X.drop (i * 3)))[j]? = if j < i * 3 then X[j]? else if j < i * 3 + 3 then ct[j - i * 3]? else X[j - 3]? := by
  have ht : (X.take (i * 3)).length = i * 3 := by rw [List.length_take]; omega
  by_cases c1 : j < i * 3
  · rw [if_pos c1, List.getElem?_append_left (by omega), List.getElem?_take, if_pos c1]
  · rw [if_neg c1, List.getElem?_append_right (by omega), ht]
    by_cases c2 : j < i * 3 + 3
    · rw [if_pos c2, List.getElem?_append_left (by omega)]
    · rw [if_neg c2, List.getElem?_append_right (by omega), hc, List.getElem?_drop]
      congr 1
      omega
theorem spl_shift {X z ct : List Value} {n i : Nat} (hX : X.length = n * 3) (hz : z.length = 3) (hc : ct.length = 3) (hi : i ≤ n) : spl (spl (X ++ z) ((i + 1) * 3) (X.drop (i * 3))) (i * 3) ct = X.take (i * 3) ++ (ct ++ X.drop (i * 3)) := by
  have hd : (X.drop (i * 3)).length = n * 3 - i * 3 := by rw [List.length_drop]; omega
  have hl : (X ++ z).length = n * 3 + 3 := by rw [List.length_append]; omega
  apply List.ext_getElem?
  intro j
  rw [ins_get hX hc hi, spl_get _ _ _ _ (by rw [spl_len]; omega), spl_get _ _ _ _ (by omega)]
  by_cases c1 : j < i * 3
  · rw [if_neg (by omega), if_neg (by omega), if_pos c1, List.getElem?_append_left (by omega)]
  · rw [if_neg c1]
    by_cases c2 : j < i * 3 + 3
    · rw [if_pos (by omega), if_pos c2]
    · rw [if_neg (by omega), if_neg c2]
      by_cases c3 : j < n * 3 + 3
      · rw [if_pos (by omega), List.getElem?_drop]
        congr 1
        omega
      · rw [if_neg (by omega), List.getElem?_eq_none (by omega), List.getElem?_eq_none (by omega)]
theorem spl_grow {X Y ct : List Value} {n i : Nat} (hX : X.length = n * 3) (hY : Y.length = (n + 1) * 3) (hc : ct.length = 3) (hi : i ≤ n) (hYX : ∀ j, j < i * 3 → Y[j]? = X[j]?) : spl (spl Y (i * 3) ct) ((i + 1) * 3) (X.drop (i * 3)) = X.take (i * 3) ++ (ct ++ X.drop (i * 3)) := by
  have hd : (X.drop (i * 3)).length = n * 3 - i * 3 := by rw [List.length_drop]; omega
  apply List.ext_getElem?
  intro j
  rw [ins_get hX hc hi, spl_get _ _ _ _ (by rw [spl_len]; omega), spl_get _ _ _ _ (by omega)]
  by_cases c1 : j < i * 3
  · rw [if_neg (by omega), if_neg (by omega), if_pos c1, hYX j c1]
  · rw [if_neg c1]
    by_cases c2 : j < i * 3 + 3
    · rw [if_neg (by omega), if_pos (by omega), if_pos c2]
    · rw [if_neg c2]
      by_cases c3 : j < n * 3 + 3
      · rw [if_pos (by omega), List.getElem?_drop]
        congr 1
        omega
      · rw [if_neg (by omega), if_neg (by omega), List.getElem?_eq_none (by omega), List.getElem?_eq_none (by omega)]
theorem catN_parts {ce : Nat → List Value} {n i : Nat} (h : ∀ k, k < n → (ce k).length = 3) (hi : i ≤ n) (ct : List Value) : (catN n ce).take (i * 3) ++ (ct ++ (catN n ce).drop (i * 3)) = catN (n + 1) (insF ce i ct) := by
  have e : catN n ce = catN i ce ++ catN (n - i) (fun k => ce (i + k)) := by
    have := catN_split ce i (n - i)
    rw [show i + (n - i) = n by omega] at this
    exact this
  have hl : (catN i ce).length = i * 3 := catN_len (fun k hk => h k (by omega))
  rw [catN_insF ce ct hi, catN_take h hi, e, ← hl, List.drop_left]
/-- what slices.Insert hands back -/
def InsPost (v : Value) (n i : Nat) (ce : Nat → List Value) (ct : List Value) (w : World) (e : Ending) (w' : World) : Prop := ∃ v', e = .returned v' ∧ w'.ownsRow 0 29 3 v' (n + 1) (catN (n + 1) (insF ce i ct)) ∧ (∀ b, v'.ownBlock = some b → v.ownBlock = some b ∨ w.heap.size ≤ b) ∧ ChgL v.ownBlock.toList w w'
set_option maxHeartbeats 16000000 in
set_option maxRecDepth 100000 in
theorem insert_end (v : Value) (n : Nat) (ce : Nat → List Value) (vb : Nat) (ct : List Value) (w : World) (V : View (layRaw 3) 29 w 0 0 v n ce ce) (hct : ct.length = 3) (h1 : ∀ u, u ∈ ct → u.oneCell' = true) (hX : Box w vb ct.toArray 29) (hn : n ≤ 1100000) :
    Calls Try.prog 17 #[v, .int .i64 (n : Int), .slice (some ⟨vb, 0, none⟩) 1 1] w (InsPost v n n ce ct w) := by
  obtain ⟨aF, cF, hFr, -, -, -⟩ := V.from_ (Nat.zero_le _) (al := n) (Nat.le_refl _)
  obtain ⟨v', w', hrun, V', hgr, hb', hblk⟩ := run_appendW el_Raw3 rdOne_raw3 24 V 1 (src_one (b := vb) (hi := 0) (y := ct) (cs := ct) (fun j hj => by rw [hX.cell j]; simp) ⟨rfl, hct, h1⟩) (Nat.zero_le _) (Nat.le_refl _) (by omega) (fun h => by cases h)
  obtain ⟨ar, cr, rfl⟩ := V.form
  have HP : Hid (InsPost (.slice ar n cr) n n ce ct w (.returned v') w') := ⟨v', rfl, by
    have e9 : catN (n + 1) (cat2 ce n fun _ => ct) = catN (n + 1) (insF ce n ct) := catN_congr (fun k hk => by
      by_cases c : k < n
      · rw [cat2_lt _ _ c, insF_lt _ _ c]
      · obtain rfl : k = n := by omega
        have := cat2_ge ce k (fun _ => ct) 0
        rw [Nat.add_zero] at this
        rw [this, insF_at])
    rw [← e9]
    exact V'.row, fun b hb => by
      rcases hblk with h | h
      · exact .inl (by rw [← h]; exact hb)
      · rw [h] at hb; cases hb; exact .inr (Nat.le_refl _), ⟨hgr.os, hgr.tape, hgr.output, hgr.size, fun b hb hn => hgr.block b hb (fun h => hn (by rw [← h]; simp))⟩⟩
  clear V V' hgr hb' hblk hX h1 hct
  go_enter Try.func17, Try.ntmps17
  go_wp2_with (at_builtin; refine wp_run2 rfl (.tmp 23) (.tmp 24) rfl ?_ ?_ hrun ?_; (simp [Act.eval]); (simp [Act.eval]))
  go_ret
  exact HP.out
set_option maxHeartbeats 16000000 in
set_option maxRecDepth 100000 in
theorem insert_shift (g cap n i : Nat) (ce : Nat → List Value) (vb : Nat) (ct : List Value) (w : World) (V : View (layRaw 3) 29 w 0 0 (.slice (some ⟨g, 0, none⟩) n cap) n ce ce) (hct : ct.length = 3) (h1 : ∀ u, u ∈ ct → u.oneCell' = true) (hX : Box w vb ct.toArray 29) (hvb : vb ≠ g) (hi : i < n) (hroom : n + 1 ≤ cap) (hn : n ≤ 1100000) :
    Calls Try.prog 17 #[.slice (some ⟨g, 0, none⟩) n cap, .int .i64 (i : Int), .slice (some ⟨vb, 0, none⟩) 1 1] w (InsPost (.slice (some ⟨g, 0, none⟩) n cap) n i ce ct w) := by
  have hc63 : cap ≤ 9223372036854775807 := by
    rcases V.row.2 with ⟨h, _⟩ | ⟨g', cap', cur, he, hbg, hgg, hnc, hcm, _⟩
    · cases h
    · cases he; unfold maxLen at hcm; omega
  have hlen := V.lens
  obtain ⟨z, hz, hrow⟩ := row_more V.row hroom
  have hXl : (catN n ce).length = n * 3 := catN_len hlen
  obtain ⟨X, hXe⟩ : ∃ X, X = catN n ce := ⟨_, rfl⟩
  rw [← hXe] at hrow hXl
  have hdl : (X.drop (i * 3)).length = (n - i) * 3 := by rw [List.length_drop, hXl, ← Nat.sub_mul]
  have hcell : ∀ j, j < (n + 1) * 3 → w.cell? ⟨g, j, none⟩ = (X ++ z)[j]? := fun j hj => hrow.cellAt j hj
  have hcX : ∀ j v, X[j]? = some v → w.cell? ⟨g, j, none⟩ = some v := fun j v hj => by
    have : j < X.length := (List.getElem?_eq_some_iff.1 hj).1
    rw [hcell j (by omega), List.getElem?_append_left this, hj]
  have hsp : ∀ j, j < (n + 1) * 3 → (w.cell? ⟨g, j, none⟩).isSome = true := fun j hj => by
    rw [hcell j hj, List.getElem?_eq_getElem (by rw [List.length_append]; omega)]; rfl
  have hfz : ∀ j, w.frozen? ⟨g, j, none⟩ = false := fun j => hrow.frozenAt j
  have h1X : ∀ u, u ∈ X → u.oneCell' = true := fun u hu => by
    rw [hXe] at hu
    obtain ⟨k, hk, hu⟩ := mem_catN.1 hu
    exact (V.each k hk).2.2 u hu
  have hz1 : ¬ ((1 : Int) = 0) := by omega
  have hz2 : ¬ ((i : Int) = (n : Int)) := by omega
  have hs1 : ∀ w', (Instr.slice 24 (.slice (some ⟨g, 0, none⟩) n cap) (some (.int .i64 (i : Int))) none none).run Try.prog w' = .ok (.slice (some ⟨g, i * 3, none⟩) (n - i) (cap - i)) w' := fun w' => by
    have := run_from9 g n cap i (by omega) w'
    rw [if_neg (by omega)] at this
    exact this
  have hs2 : ∀ w', (Instr.slice 24 (.slice (some ⟨g, 0, none⟩) n cap) none (some (.int .i64 ((n : Int) + 1))) none).run Try.prog w' = .ok (.slice (some ⟨g, 0, none⟩) (n + 1) cap) w' := fun w' => by
    have e1 : ((n : Int) + 1) ≤ (cap : Int) := by omega
    have e2 : n + 1 ≤ cap := hroom
    simp [Instr.slice, run_underlying Try.underlying24, Instr.sliceBounds, Instr.sliceBound, asIntOf, go_sem, e1, e2]
    omega
  have hs3 : ∀ w', (Instr.slice 24 (.slice (some ⟨g, 0, none⟩) (n + 1) cap) (some (.int .i64 ((i : Int) + 1))) none none).run Try.prog w' = .ok (.slice (some ⟨g, (i + 1) * 3, none⟩) (n - i) (cap - (i + 1))) w' := fun w' => by
    have := run_from9 g (n + 1) cap (i + 1) (by omega) w'
    rw [if_neg (by omega), show n + 1 - (i + 1) = n - i by omega] at this
    exact this
  have hs4 : ∀ w', (Instr.slice 24 (.slice (some ⟨g, 0, none⟩) (n + 1) cap) (some (.int .i64 (i : Int))) none none).run Try.prog w' = .ok (.slice (some ⟨g, i * 3, none⟩) (n + 1 - i) (cap - i)) w' := fun w' => by
    have := run_from9 g (n + 1) cap i (by omega) w'
    rw [if_neg (by omega)] at this
    exact this
  have hsa : w.shape? vb = some (29, ct.length) := by unfold Box at hX; unfold World.shape?; rw [hX]; simp
  have hsb : ∃ k, w.shape? g = some (29, k) ∧ k ≠ 0 := by
    rcases V.row.2 with ⟨h, _⟩ | ⟨g', cap', cur, he, hbg, hgg, hnc, hcm, hcs, _⟩
    · cases h
    · cases he
      refine ⟨cur.size, by unfold World.shape?; rw [hgg], ?_⟩
      have : cap * 3 ≠ 0 := by omega
      rw [hcs]; exact this
  obtain ⟨kB, hsb, hkB⟩ := hsb
  have hov : ∀ lb cb, (callFunc 29 #[.slice (some ⟨vb, 0, none⟩) 1 1, .slice (some ⟨g, (i + 1) * 3, none⟩) lb cb]).run Try.prog w = .ok (.value (.bool false)) w := fun lb cb => by
    rw [run_callFunc_extern Try.func29 (by kernel_rfl) (by kernel_rfl) (by kernel_rfl) (e := Extern.SlicesOverlaps.overlaps #[24, 24] #[4]) (by kernel_rfl),
      Lib.run_overlaps_apart w 24 4 29 Try.underlying24 3 (fun w => by kernel_rfl) ⟨vb, 0, none⟩ ⟨g, (i + 1) * 3, none⟩ 1 1 lb cb hvb 29 29 ct.length kB hsa hsb hkB (hX.frozen 0) (hX.frozen _)]
    rfl
  have hcp1 : ∀ ty dc sc, (Builtin.copy_ #[24, 24] ty #[.slice (some ⟨g, (i + 1) * 3, none⟩) (n - i) dc, .slice (some ⟨g, i * 3, none⟩) (n + 1 - i) sc]).run Try.prog w.drew = .ok (goInt ((n - i : Nat) : Int)) (w.drew.setCells g ((i + 1) * 3) (X.drop (i * 3))) := fun ty dc sc =>
    run_copyK w.drew ty g ((i + 1) * 3) (n - i) dc ⟨g, i * 3, none⟩ (n + 1 - i) sc (n - i) (X.drop (i * 3)) (by simp only [Nat.min_def]; split <;> omega) hdl
      (fun j v hj => by rw [add_oo]; exact hcX (i * 3 + j) v (by rwa [List.getElem?_drop] at hj))
      (fun j hj => hsp _ (by rw [hdl] at hj; have := Nat.sub_mul n i 3; omega)) (fun j hj => hfz _) (fun v hv => h1X v (List.mem_of_mem_drop hv))
  obtain ⟨W1, hW1⟩ : ∃ W1, W1 = w.drew.setCells g ((i + 1) * 3) (X.drop (i * 3)) := ⟨_, rfl⟩
  rw [← hW1] at hcp1
  have hr1 : W1.ownsRow 0 29 3 (.slice (some ⟨g, 0, none⟩) (n + 1) cap) (n + 1) (spl (X ++ z) ((i + 1) * 3) (X.drop (i * 3))) := by
    rw [hW1]
    exact row_setCells (X.drop (i * 3)) w.drew (X ++ z) _ hrow
  have hC1 : ChgL [g] w W1 := by
    rw [hW1]
    have hd : ChgL [g] w w.drew := ⟨rfl, rfl, rfl, Nat.le_refl _, fun _ _ _ => rfl⟩
    exact hd.trans (chgL_setCells g _ w.drew _)
  have hl1 : (spl (X ++ z) ((i + 1) * 3) (X.drop (i * 3))).length = (n + 1) * 3 := hr1.1
  have hcp2 : ∀ ty dc, (Builtin.copy_ #[24, 24] ty #[.slice (some ⟨g, i * 3, none⟩) (n + 1 - i) dc, .slice (some ⟨vb, 0, none⟩) 1 1]).run Try.prog W1 = .ok (goInt 1) (W1.setCells g (i * 3) ct) := fun ty dc =>
    run_copyK W1 ty g (i * 3) (n + 1 - i) dc ⟨vb, 0, none⟩ 1 1 1 ct (by simp only [Nat.min_def]; split <;> omega) (by omega)
      (fun j v hj => by
        have hb := hC1.block vb hX.lt (by simp; exact hvb)
        have e9 : W1.cell? ⟨vb, j, none⟩ = w.cell? ⟨vb, j, none⟩ := by simp [World.cell?, hb]
        rw [add_oo, Nat.zero_add, e9, hX.cell j]
        simpa using hj)
      (fun j hj => by rw [hr1.cellAt _ (by omega), List.getElem?_eq_getElem (by omega)]; rfl) (fun j hj => hr1.frozenAt _) h1
  have HP : Hid (InsPost (.slice (some ⟨g, 0, none⟩) n cap) n i ce ct w (.returned (.slice (some ⟨g, 0, none⟩) (n + 1) cap)) (W1.setCells g (i * 3) ct)) := ⟨_, rfl, by
    have h9 := row_setCells ct W1 _ (i * 3) hr1
    rw [spl_shift hXl hz hct (by omega), hXe, catN_parts hlen (by omega) ct] at h9
    exact h9, fun b hb => .inl hb, by
      have : (Value.slice (some ⟨g, 0, none⟩) n cap).ownBlock.toList = [g] := rfl
      rw [this]
      exact hC1.trans (chgL_setCells g ct W1 _)⟩
  have hw1 : IntKind.i64.wrap ((i : Int) + 1) = (i : Int) + 1 := by rw [IntKind.wrap_i64]; omega
  have hw2 : IntKind.i64.wrap ((n : Int) + 1) = (n : Int) + 1 := by rw [IntKind.wrap_i64]; omega
  have hg1 : ¬ ((cap : Int) < (n : Int) + 1) := by omega
  clear V hX hct h1 hlen hz hrow hXl hXe hdl hcell hcX hsp hfz h1X hsa hsb hkB hW1 hr1 hC1 hl1
  go_enter Try.func17, Try.ntmps17
  go_wp2_with (simp only [hov])
  go_region_law (refine step_runC rfl (.tmp 73) (.tmp 76) rfl ?_ ?_ (hcp1 _ _ _) ?_; (simp [Act.eval, Act.put]); (simp [Act.eval, Act.put]))
  all_goals
    go_wp2_with (at_builtin; refine wp_runC rfl (.tmp 80) (.tmp 81) rfl ?_ ?_ (hcp2 _ _) ?_; (simp [Act.eval]); (simp [Act.eval]))
    go_ret
    exact HP.out
set_option maxHeartbeats 16000000 in
set_option maxRecDepth 100000 in
theorem zero_Thing9 : (Try.prog.info? 29).map (fun i => (i.zero, i.size, i.bytes)) = some (some (.agg #[.string ⟨#[]⟩, .bool false, .slice none 0 0]), 3, 48) := by kernel_rfl
set_option maxHeartbeats 16000000 in
set_option maxRecDepth 100000 in
theorem insert_grow (g cap n i : Nat) (ce : Nat → List Value) (vb : Nat) (ct : List Value) (w : World) (V : View (layRaw 3) 29 w 0 0 (.slice (some ⟨g, 0, none⟩) n cap) n ce ce) (hct : ct.length = 3) (h1 : ∀ u, u ∈ ct → u.oneCell' = true) (hX : Box w vb ct.toArray 29) (hvb : vb ≠ g) (hi : i < n) (hroom : cap < n + 1) (hn : n ≤ 1100000) :
    Calls Try.prog 17 #[.slice (some ⟨g, 0, none⟩) n cap, .int .i64 (i : Int), .slice (some ⟨vb, 0, none⟩) 1 1] w (InsPost (.slice (some ⟨g, 0, none⟩) n cap) n i ce ct w) := by
  have hnc : n ≤ cap := by
    rcases V.row.2 with ⟨h, _⟩ | ⟨g', cap', cur, he, hbg, hgg, hnc, _⟩
    · cases h
    · cases he; exact hnc
  have hlen := V.lens
  have hgw : g < w.heap.size := (V.row.lt g rfl).2
  have hvw : vb < w.heap.size := hX.lt
  have hrow := V.row
  have hXl : (catN n ce).length = n * 3 := catN_len hlen
  obtain ⟨X, hXe⟩ : ∃ X, X = catN n ce := ⟨_, rfl⟩
  rw [← hXe] at hrow hXl
  have hdl : (X.drop (i * 3)).length = (n - i) * 3 := by rw [List.length_drop, hXl, ← Nat.sub_mul]
  have htl : (X.take (i * 3)).length = i * 3 := by rw [List.length_take]; omega
  have hcX : ∀ j v, X[j]? = some v → w.cell? ⟨g, j, none⟩ = some v := fun j v hj => by
    have : j < X.length := (List.getElem?_eq_some_iff.1 hj).1
    have h9 := hrow.cellAt j (show j < n * 3 by omega)
    rw [h9, hj]
  have h1X : ∀ u, u ∈ X → u.oneCell' = true := fun u hu => by
    rw [hXe] at hu
    obtain ⟨k, hk, hu⟩ := mem_catN.1 hu
    exact (V.each k hk).2.2 u hu
  obtain ⟨i0, hi0, hz0, hzs, hzb⟩ : ∃ i0, Try.prog.info? 29 = some i0 ∧ i0.zero = some (.agg #[.string ⟨#[]⟩, .bool false, .slice none 0 0]) ∧ i0.size = 3 ∧ i0.bytes = 48 := by
    have h := zero_Thing9
    cases hq : Try.prog.info? 29 with
    | none => rw [hq] at h; cases h
    | some i0 =>
      rw [hq] at h
      simp only [Option.map_some, Option.some.injEq, Prod.mk.injEq] at h
      exact ⟨i0, rfl, h.1, h.2.1, h.2.2⟩
  have hik : i + (n + 1 - i) = n + 1 := by omega
  have hold : (Builtin.firstCells i0.size i (.slice (some ⟨g, 0, none⟩) i cap)).run Try.prog w.drew = .ok (X.take (i * 3)).toArray w.drew := by
    rw [hzs]
    exact run_firstCells_some w.drew 3 i ⟨g, 0, none⟩ i cap (X.take (i * 3)) (by rw [htl]) (fun j v hj => by
      rw [add_oo, Nat.zero_add]
      rw [List.getElem?_take] at hj
      split at hj
      · exact hcX j v hj
      · cases hj)
  have hG0 := grownCap_ge w (n + 1) cap 29
  have hG1 := grownCap_le_maxLen w (n + 1) cap 29 (by unfold maxLen; omega)
  obtain ⟨G, hG⟩ : ∃ G, G = grownCap w (n + 1) cap 29 := ⟨_, rfl⟩
  obtain ⟨ROW, hROW⟩ : ∃ ROW : Array Value, ROW = (X.take (i * 3)).toArray ++ (Builtin.zeroCells #[.string ⟨#[]⟩, .bool false, .slice none 0 0] (n + 1 - i)) ++ (Builtin.zeroCells #[.string ⟨#[]⟩, .bool false, .slice none 0 0] (G - (n + 1))) := ⟨_, rfl⟩
  have hrz : (Builtin.append_ #[24, 3] 24 #[.slice (some ⟨g, 0, none⟩) i cap, .int .i64 ((n : Int) + 1 - (i : Int))]).run Try.prog w = .ok (.slice (some ⟨w.heap.size, 0, none⟩) (n + 1) G) (w.drew.alloc (.cells ROW 29)) := by
    have h := Lib.run_append_grow_zeros w 24 3 24 29 i0 _ .i64 .i64 Try.underlying24 Try.underlying3 hi0 hz0 (some ⟨g, 0, none⟩) i cap (X.take (i * 3)) hold (n + 1 - i) (by omega) (by omega) (by omega) (by omega) (by rw [hzb]; omega) (by
      rw [hzb, hik]
      exact growslice_fits hroom (by omega))
    rw [hik, ← hG] at h
    have e1 : (n : Int) + 1 - (i : Int) = ((n + 1 - i : Nat) : Int) := by omega
    rw [e1, hROW]
    exact h
  rw [← hG] at hG0 hG1
  unfold maxLen at hG1
  have hRl : ROW.size = G * 3 := by
    rw [hROW]
    simp [Builtin.zeroCells, htl]
    omega
  have hS : (w.drew.alloc (.cells ROW 29)).ownsRow 0 29 3 (.slice (some ⟨w.heap.size, 0, none⟩) (n + 1) G) (n + 1) (ROW.toList.take ((n + 1) * 3)) := by
    have h7 : ROW.toList.length = G * 3 := by simpa using hRl
    refine ⟨by rw [List.length_take]; omega, .inr ⟨w.heap.size, G, ROW, rfl, Nat.zero_le _, box_new w.drew ROW 29, hG0, by unfold maxLen; omega, hRl, rfl⟩⟩
  have hYX : ∀ j, j < i * 3 → (ROW.toList.take ((n + 1) * 3))[j]? = X[j]? := fun j hj => by
    rw [List.getElem?_take, if_pos (by omega), hROW]
    simp only [Array.toList_append, List.append_assoc]
    rw [List.getElem?_append_left (by simp [htl]; exact hj)]
    rw [List.getElem?_take, if_pos hj]
  obtain ⟨W1, hW1⟩ : ∃ W1, W1 = w.drew.alloc (.cells ROW 29) := ⟨_, rfl⟩
  rw [← hW1] at hrz hS
  have b01 : Below w.heap.size w W1 := by
    rw [hW1]
    have hd : Below w.heap.size w w.drew := ⟨rfl, rfl, rfl, Nat.le_refl _, fun _ _ => rfl⟩
    exact hd.alloc (show w.heap.size ≤ w.heap.size from Nat.le_refl _) _
  obtain ⟨S, hSe⟩ : ∃ S, S = w.heap.size := ⟨_, rfl⟩
  rw [← hSe] at hrz hS
  have hgS : g ≠ S := by omega
  have hvS : vb ≠ S := by omega
  obtain ⟨Y, hYe⟩ : ∃ Y, Y = ROW.toList.take ((n + 1) * 3) := ⟨_, rfl⟩
  rw [← hYe] at hS hYX
  have hYl : Y.length = (n + 1) * 3 := hS.1
  have hc1 : ∀ b j, b < w.heap.size → W1.cell? ⟨b, j, none⟩ = w.cell? ⟨b, j, none⟩ := fun b j hb => b01.cell (p := ⟨b, j, none⟩) hb
  have hcpA : ∀ ty dc, (Builtin.copy_ #[24, 24] ty #[.slice (some ⟨S, i * 3, none⟩) (n + 1 - i) dc, .slice (some ⟨vb, 0, none⟩) 1 1]).run Try.prog W1 = .ok (goInt ((1 : Nat) : Int)) (W1.setCells S (i * 3) ct) := fun ty dc =>
    run_copyK W1 ty S (i * 3) (n + 1 - i) dc ⟨vb, 0, none⟩ 1 1 1 ct (by simp only [Nat.min_def]; split <;> omega) (by omega)
      (fun j v hj => by
        rw [add_oo, Nat.zero_add, hc1 vb j hvw, hX.cell j]
        simpa using hj)
      (fun j hj => by rw [hS.cellAt _ (by omega), List.getElem?_eq_getElem (by omega)]; rfl) (fun j hj => hS.frozenAt _) h1
  obtain ⟨W2, hW2⟩ : ∃ W2, W2 = W1.setCells S (i * 3) ct := ⟨_, rfl⟩
  rw [← hW2] at hcpA
  have hr2 : W2.ownsRow 0 29 3 (.slice (some ⟨S, 0, none⟩) (n + 1) G) (n + 1) (spl Y (i * 3) ct) := by
    rw [hW2]
    exact row_setCells ct W1 Y _ hS
  have hC2 : ChgL [S] W1 W2 := by
    rw [hW2]
    exact chgL_setCells S ct W1 _
  have hl2 : (spl Y (i * 3) ct).length = (n + 1) * 3 := hr2.1
  have hcpB : ∀ ty dc sc, (Builtin.copy_ #[24, 24] ty #[.slice (some ⟨S, (i + 1) * 3, none⟩) (n - i) dc, .slice (some ⟨g, i * 3, none⟩) (n - i) sc]).run Try.prog W2.drew = .ok (goInt ((n - i : Nat) : Int)) (W2.drew.setCells S ((i + 1) * 3) (X.drop (i * 3))) := fun ty dc sc =>
    run_copyK W2.drew ty S ((i + 1) * 3) (n - i) dc ⟨g, i * 3, none⟩ (n - i) sc (n - i) (X.drop (i * 3)) (by simp only [Nat.min_def]; split <;> omega) hdl
      (fun j v hj => by
        have hb := hC2.block g (Nat.lt_of_lt_of_le hgw b01.size) (by simp; exact hgS)
        have e9 : W2.drew.cell? ⟨g, i * 3 + j, none⟩ = W1.cell? ⟨g, i * 3 + j, none⟩ := by
          show W2.cell? _ = _
          simp [World.cell?, hb]
        rw [add_oo, e9, hc1 g _ hgw]
        exact hcX (i * 3 + j) v (by rwa [List.getElem?_drop] at hj))
      (fun j hj => by
        have h9 : W2.cell? ⟨S, (i + 1) * 3 + j, none⟩ = _ := hr2.cellAt ((i + 1) * 3 + j) (by rw [hdl] at hj; have := Nat.sub_mul n i 3; omega)
        show (W2.cell? ⟨S, (i + 1) * 3 + j, none⟩).isSome = true
        rw [h9, List.getElem?_eq_getElem (by rw [hdl] at hj; have := Nat.sub_mul n i 3; omega)]; rfl) (fun j hj => hr2.frozenAt _) (fun v hv => h1X v (List.mem_of_mem_drop hv))
  obtain ⟨W3, hW3⟩ : ∃ W3, W3 = W2.drew.setCells S ((i + 1) * 3) (X.drop (i * 3)) := ⟨_, rfl⟩
  rw [← hW3] at hcpB
  have HP : Hid (InsPost (.slice (some ⟨g, 0, none⟩) n cap) n i ce ct w (.returned (.slice (some ⟨S, 0, none⟩) (n + 1) G)) W3) := ⟨_, rfl, by
    have h9 := row_setCells (X.drop (i * 3)) W2.drew _ ((i + 1) * 3) (show W2.drew.ownsRow 0 29 3 (.slice (some ⟨S, 0, none⟩) (n + 1) G) (n + 1) (spl Y (i * 3) ct) from hr2)
    rw [spl_grow hXl hYl hct (by omega) hYX, hXe, catN_parts hlen (by omega) ct, ← hXe, ← hW3] at h9
    exact h9, fun b hb => .inr (by simp [Value.ownBlock] at hb; omega), by
      have hd : ChgL [S] W2 W2.drew := ⟨rfl, rfl, rfl, Nat.le_refl _, fun _ _ _ => rfl⟩
      have hC3 : ChgL [S] W1 W3 := by
        rw [hW3]
        exact (hC2.trans hd).trans (chgL_setCells S _ W2.drew _)
      exact ⟨b01.os.symm ▸ hC3.os, b01.tape.symm ▸ hC3.tape, b01.output.symm ▸ hC3.output, Nat.le_trans b01.size hC3.size, fun b hb _ => (hC3.block b (Nat.lt_of_lt_of_le hb b01.size) (by simp; omega)).trans (b01.block b hb)⟩⟩
  have hs1 : ∀ w', (Instr.slice 24 (.slice (some ⟨g, 0, none⟩) n cap) (some (.int .i64 (i : Int))) none none).run Try.prog w' = .ok (.slice (some ⟨g, i * 3, none⟩) (n - i) (cap - i)) w' := fun w' => by
    have := run_from9 g n cap i (by omega) w'
    rw [if_neg (by omega)] at this
    exact this
  have hs2 : ∀ w', (Instr.slice 24 (.slice (some ⟨g, 0, none⟩) n cap) none (some (.int .i64 (i : Int))) none).run Try.prog w' = .ok (.slice (some ⟨g, 0, none⟩) i cap) w' := fun w' => run_upto9 g n cap i (by omega) hnc w'
  have hs3 : ∀ w', (Instr.slice 24 (.slice (some ⟨S, 0, none⟩) (n + 1) G) (some (.int .i64 (i : Int))) none none).run Try.prog w' = .ok (.slice (some ⟨S, i * 3, none⟩) (n + 1 - i) (G - i)) w' := fun w' => by
    have := run_from9 S (n + 1) G i (by omega) w'
    rw [if_neg (by omega)] at this
    exact this
  have hs4 : ∀ w', (Instr.slice 24 (.slice (some ⟨S, 0, none⟩) (n + 1) G) (some (.int .i64 ((i : Int) + 1))) none none).run Try.prog w' = .ok (.slice (some ⟨S, (i + 1) * 3, none⟩) (n - i) (G - (i + 1))) w' := fun w' => by
    have := run_from9 S (n + 1) G (i + 1) (by omega) w'
    rw [if_neg (by omega), show n + 1 - (i + 1) = n - i by omega] at this
    exact this
  have hz1 : ¬ ((1 : Int) = 0) := by omega
  have hz2 : ¬ ((i : Int) = (n : Int)) := by omega
  have hw1 : IntKind.i64.wrap ((i : Int) + 1) = (i : Int) + 1 := by rw [IntKind.wrap_i64]; omega
  have hw2 : IntKind.i64.wrap ((n : Int) + 1) = (n : Int) + 1 := by rw [IntKind.wrap_i64]; omega
  have hw3 : IntKind.i64.wrap ((n : Int) + 1 - (i : Int)) = (n : Int) + 1 - (i : Int) := by rw [IntKind.wrap_i64]; omega
  have hg1 : (cap : Int) < (n : Int) + 1 := by omega
  clear V hX hct h1 hlen hrow hXl hXe hdl htl hcX h1X hi0 hz0 hzs hzb hik hold hG hROW hRl hS hYX hW1 b01 hSe hgS hvS hYe hYl hc1 hW2 hr2 hC2 hl2 hW3
  go_enter Try.func17, Try.ntmps17
  go_wp2_with (first | (at_builtin; refine wp_runZ rfl (.tmp 34) (.tmp 39) rfl ?_ ?_ hrz ?_; (simp [Act.eval]); (simp [Act.eval])) | (at_builtin; refine wp_runC rfl (.tmp 43) (.tmp 44) rfl ?_ ?_ (hcpA _ _) ?_; (simp [Act.eval]); (simp [Act.eval])))
  go_region_law (refine step_runC rfl (.tmp 50) (.tmp 53) rfl ?_ ?_ (hcpB _ _ _) ?_; (simp [Act.eval, Act.put]); (simp [Act.eval, Act.put]))
  all_goals
    go_wp2
    go_ret
    exact HP.out
/-- slices.Insert of one thing -/
theorem insert_any (v : Value) (n i : Nat) (ce : Nat → List Value) (vb : Nat) (ct : List Value) (w : World) (V : View (layRaw 3) 29 w 0 0 v n ce ce) (hct : ct.length = 3) (h1 : ∀ u, u ∈ ct → u.oneCell' = true) (hX : Box w vb ct.toArray 29) (hvb : v.ownBlock ≠ some vb) (hi : i ≤ n) (hn : n ≤ 1100000) :
    Calls Try.prog 17 #[v, .int .i64 (i : Int), .slice (some ⟨vb, 0, none⟩) 1 1] w (InsPost v n i ce ct w) := by
  by_cases c : i = n
  · subst c
    exact insert_end v i ce vb ct w V hct h1 hX hn
  · rcases V.form2 with ⟨rfl, h0⟩ | ⟨g, cap, rfl, hnc, hg⟩
    · omega
    · have hne : vb ≠ g := fun h => hvb (by rw [h]; rfl)
      by_cases hr : n + 1 ≤ cap
      · exact insert_shift g cap n i ce vb ct w V hct h1 hX hne (by omega) hr hn
      · exact insert_grow g cap n i ce vb ct w V hct h1 hX hne (by omega) (by omega) hn
end Go.Proofs.Ytopaofcpjiicmaa

namespace Go.Proofs.Ytopaofcpjiicmaa
open Go.RowKit
set_option linter.unusedVariables false
theorem step_callv {ops : Array Oper} {o : Oper} {a : Act} {w : World} {K : Act → World → Prop} {Q : Exit → Act → World → Prop} {E : Prop}
    (hw : Region.wanted o (yielded ops a.tmps) = true) (x : Operand) (n : Nat) (caps : Array Value) (args : Array Operand) (ty : Array TypeId) (hop : o.op = Op.call { callee := Callee.value x, args := args, argTypes := ty }) (hx : a.eval x = .func (.func n) #[] caps) (vals : Array Value) (hv : args.map a.eval = vals)
    {fn : Func} (hfn : Try.prog.funcs[n]? = some fn) (hnm : (fn.name == "runtime.NumGoroutine") = false) (hbd : fn.body.isSome = true)
    {R : Ending → World → Prop} (hc : Calls Try.prog n (vals ++ caps) w R) (hK : ∀ e w', R e w' → ∃ v, e = .returned v ∧ K (a.put o.dst v) w') :
    if Region.wanted o (yielded ops a.tmps) = true then Oper.wp Try.prog o a w K Q else E := by
  have hn' : ¬ fn.name = "runtime.NumGoroutine" := by simpa using hnm
  have hb' : ¬ fn.body = none := by intro h; rw [h] at hbd; cases hbd
  rw [if_pos hw]
  unfold Oper.wp
  simp [execOp, hop, hx, resolve, invoke, Result.andThen, Deferred.ofValue, callFunc, Oper.upon, hv, hfn, hn', hb']
  refine hc.mono fun e w' h => ?_
  obtain ⟨v, rfl, hk⟩ := hK e w' h
  exact hk
end Go.Proofs.Ytopaofcpjiicmaa

namespace Go.Proofs.Ytopaofcpjiicmaa
open Go.RowKit F256
set_option linter.unusedVariables false
set_option linter.unusedSimpArgs false
set_option maxHeartbeats 16000000 in
set_option maxRecDepth 100000 in
theorem index_put (g cap n lo hi : Nat) (x : Nat → List Value) (ce : Nat → List Value) (a0 : Nat) (del : Nat → Bool) (w : World) (hV : View (layRaw 3) 29 w lo hi (.slice (some ⟨g, 0, none⟩) n cap) n x ce) (hhi : hi ≤ w.heap.size) (hn : n ≤ 1048576) (CD : ∀ k, k < n → ∀ w', ChgL [g] w w' → Calls Try.prog 16 #[.agg (ce k).toArray, .pointer (some ⟨a0, 0, none⟩)] w' (fun e w'' => e = .returned (.bool (del k)) ∧ Below w'.heap.size w' w'')) :
    Calls Try.prog 15 #[.slice (some ⟨g, 0, none⟩) n cap, .func (.func 16) #[] #[.pointer (some ⟨a0, 0, none⟩)]] w fun e w' => ((e = .returned (.int .i64 (-1)) ∧ ∀ i, i < n → del i = false) ∨ ∃ i : Nat, i < n ∧ e = .returned (.int .i64 (i : Int)) ∧ del i = true ∧ ∀ t, t < i → del t = false) ∧ Below w.heap.size w w' := by
  have HV : Hid (View (layRaw 3) 29 w lo hi (.slice (some ⟨g, 0, none⟩) n cap) n x ce) := hV
  have HCD : Hid (∀ k, k < n → ∀ w', ChgL [g] w w' → Calls Try.prog 16 #[.agg (ce k).toArray, .pointer (some ⟨a0, 0, none⟩)] w' (fun e w'' => e = .returned (.bool (del k)) ∧ Below w'.heap.size w' w'')) := CD
  clear hV CD
  go_enter Try.func15, Try.ntmps15
  go_wp2
  go_loopw [8] (fun z wr => ∃ k : Nat, k ≤ n ∧ z = .int .i64 k ∧ (∀ t, t < k → del t = false) ∧ Below w.heap.size w wr) (fun z _ => n - (intOf z).toNat)
  case atStart => exact ⟨0, Nat.zero_le _, rfl, fun t ht => by omega, Below.refl _ _⟩
  case round =>
    obtain ⟨k, hk, rfl, hall, hbl⟩ := hrel
    obtain ⟨wx, rfl⟩ : ∃ y, y = wr := ⟨_, rfl⟩
    have HALL : Hid (∀ t, t < k → del t = false) := hall
    have HBL : Hid (Below w.heap.size w wx) := hbl
    have zx := hbl.size
    clear hall
    by_cases hlt : k < n
    · have VX := HV.out.below hbl hhi
      have rgK : wx.rangeAt g (k * 3) (ce k) := VX.range hlt
      have hcK : (ce k).length = 3 := VX.lens k hlt
      have CS := HCD.out k hlt wx (ChgL.of_below hbl)
      obtain ⟨cK, hcKe⟩ : ∃ c, c = ce k := ⟨_, rfl⟩
      rw [← hcKe] at rgK hcK CS
      obtain ⟨t, ht⟩ : ∃ t, t = del k := ⟨_, rfl⟩
      rw [← ht] at CS
      have HT : Hid (t = del k) := ht
      have i1 : (0 : Int) ≤ (k : Int) := by omega
      have i2 : (k : Int) < (n : Int) := by omega
      clear hbl hcKe VX ht
      go_wp2_with (refine wpList_load_mid rfl 29 (.tmp 14) rfl g (k * 3) (by simp [Act.eval]) cK _ rgK Try.underlying29 rfl (info_Thing3 hcK) ?_)
      refine CS.mono ?_
      rintro e w5 ⟨rfl, b5⟩
      have B5 : Hid (Below w.heap.size w w5) := HBL.out.trans (b5.mono zx)
      clear b5 CS rgK
      cases t with
      | true =>
        go_wp2
        go_ret
        exact ⟨.inr ⟨k, hlt, rfl, HT.out.symm, HALL.out⟩, B5.out⟩
      | false =>
        go_wp2
        go_roundw
        case rel => exact ⟨k + 1, by omega, by go_num, fun t ht => by
                      by_cases c : t = k
                      · rw [c]; exact HT.out.symm
                      · exact HALL.out t (by omega), B5.out⟩
        case measure => simp [intOf]; omega
    · obtain rfl : k = n := by omega
      clear hbl
      go_wp2
      go_ret
      exact ⟨.inl ⟨rfl, HALL.out⟩, HBL.out⟩
theorem calls_app0 {f : Nat} {args : Array Value} {w : World} {R : Ending → World → Prop} (h : Calls Try.prog f args w R) : Calls Try.prog f (args ++ #[]) w R := by simpa using h
set_option maxHeartbeats 8000000 in
set_option maxRecDepth 20000 in
theorem indexNoneT (ao : Option Addr) (cap : Nat) (fv : Value) (w : World) : Calls Try.prog 15 #[.slice ao 0 cap, fv] w fun e w' => e = .returned (.int .i64 (-1)) ∧ w' = w := by
  go_enter Try.func15, Try.ntmps15
  go_wp2
  go_loop [8] (fun z => z = .int .i64 0) (fun _ => 0)
  case atStart => rfl
  case round =>
    subst hrel
    go_wp2
    go_ret
    exact ⟨rfl, rfl⟩
set_option maxHeartbeats 8000000 in
set_option maxRecDepth 20000 in
theorem put1_any (a0 : Nat) (bn na : ByteArray) (l : Bool) (o : Option Addr) (m c : Nat) (w : World) (h0 : w.cell? ⟨a0, 0, none⟩ = some (.string bn)) (hl : a0 < w.heap.size) :
    Calls Try.prog 16 #[.agg #[.string na, .bool l, .slice o m c], .pointer (some ⟨a0, 0, none⟩)] w fun e w' => e = .returned (.bool (!leS na bn)) ∧ Below w.heap.size w w' := by
  obtain ⟨lt, hlt1⟩ : ∃ t, Op.bytesLess na.toList bn.toList = t := ⟨_, rfl⟩
  obtain ⟨eq, heq1⟩ : ∃ t, (na.toList == bn.toList) = t := ⟨_, rfl⟩
  have heq2 : decide (na.toList = bn.toList) = eq := by rw [← heq1, Bool.eq_iff_iff]; simp
  have T0 := one_new w #[.string na, .bool l, .slice o m c] 29
  have h1 : (w.alloc (.cells #[.string na, .bool l, .slice o m c] 29)).cell? ⟨a0, 0, none⟩ = some (.string bn) := (T0.bel.cell (p := ⟨a0, 0, none⟩) hl).trans h0
  have HB : Hid (Below w.heap.size w (w.alloc (.cells #[.string na, .bool l, .slice o m c] 29))) := T0.bel
  clear T0
  unfold leS
  rw [hlt1, heq1]
  cases lt <;> cases eq
  all_goals
    go_enter Try.func16, Try.ntmps16
    go_wp2
    go_ret
    exact ⟨rfl, HB.out⟩
/-- where the name is to stand, as the program finds it -/
theorem index_thing {w : World} {m : Nat} {y : Nat → ThingD} {ce : Nat → List Value} {Ls : Nat → List Nat} {ar : Option Addr} {cr : Nat} (V : View (layRaw 3) 29 w 0 0 (.slice ar m cr) m ce ce) (he : ∀ i, i < m → layThing.own w (y i) (ce i) (Ls i)) (hn : m ≤ 1048576) (a0 : Nat) (bn : ByteArray) (h0 : w.cell? ⟨a0, 0, none⟩ = some (.string bn)) (hl0 : a0 < w.heap.size) (hk0 : (Value.slice ar m cr).ownBlock ≠ some a0) {at_ : Nat} (hA : AtP m y bn at_) :
    Calls Try.prog 15 #[.slice ar m cr, .func (.func 16) #[] #[.pointer (some ⟨a0, 0, none⟩)]] w fun e w' => ((e = .returned (.int .i64 (-1)) ∧ at_ = m) ∨ (e = .returned (.int .i64 (at_ : Int)) ∧ at_ < m)) ∧ Below w.heap.size w w' := by
  by_cases h9 : m = 0
  · subst h9
    refine (indexNoneT ar cr _ w).mono ?_
    rintro e w' ⟨rfl, rfl⟩
    exact ⟨.inl ⟨rfl, by have := hA.le; omega⟩, Below.refl _ _⟩
  · rcases V.form2 with ⟨_, h0⟩ | ⟨g, cap, e9, hnc, hg⟩
    · exact absurd h0 h9
    · cases e9
      have hg0 : a0 ≠ g := fun hh => hk0 (by rw [hh]; rfl)
      refine (index_put g cr m 0 0 ce ce a0 (fun i => !leS (y i).name bn) w V (Nat.zero_le _) hn (fun k hk w' hc => ?_)).mono ?_
      · obtain ⟨o2, c2, e2⟩ := Thing_cellsO (he k hk)
        rw [e2]
        exact put1_any a0 bn _ _ _ _ _ w' (by
          have hb := hc.block a0 hl0 (by simp; exact hg0)
          have e9 : w'.cell? ⟨a0, 0, none⟩ = w.cell? ⟨a0, 0, none⟩ := by simp [World.cell?, hb]
          rw [e9]; exact h0) (Nat.lt_of_lt_of_le hl0 hc.size)
      rintro e w' ⟨hc, hb⟩
      refine ⟨?_, hb⟩
      rcases hc with ⟨rfl, hall⟩ | ⟨i, hi, rfl, hd, hbef⟩
      · refine .inl ⟨rfl, ?_⟩
        exact hA.one ⟨Nat.le_refl _, fun t ht => by have := hall t ht; simpa using this, fun h => by omega⟩
      · have : at_ = i := hA.one ⟨by omega, fun t ht => by have := hbef t ht; simpa using this, fun _ => by simpa using hd⟩
        subst this
        exact .inr ⟨rfl, hi⟩
set_option maxHeartbeats 8000000 in
set_option maxRecDepth 20000 in
theorem implPut_any (p : Nat × (Nat → ThingD)) (bn : ByteArray) (q : Nat × (Nat → Nat)) (at_ : Nat) (v u : Value) (h1 h2 : Nat) (w : World) (r0 : (layThing.slice 29).rd w h1 p [v]) (r2 : layBytes.rd w h2 q [u]) (u1 : h1 ≤ w.heap.size) (u2 : h2 ≤ w.heap.size) (hsz : szSl szThingD p ≤ 1048576) (hbs : bn.size ≤ 1048576) (hbb : q.1 ≤ 1048576) (hA : AtP (dropL p bn).1 (dropL p bn).2 bn at_) :
    Calls Try.prog 6 #[v, .string bn, u] w fun e w' => ∃ v', e = .returned v' ∧ OwnT (layThing.slice 29) w' w.heap.size w'.heap.size (putL p bn q at_) [v'] ∧ Below w.heap.size w w' := by
  have hn1 := szSl_n hsz
  obtain ⟨ao, cap, hv⟩ := sl_form r0
  obtain rfl := one_eq hv
  obtain ⟨bo, bc, hv'⟩ := bytes_form r2
  obtain rfl := one_eq hv'
  have T0 := one_new w #[.string bn] 9
  have CD := implDrop_any p bn _ h1 _ ((layThing.slice 29).rd_below r0 T0.bel u1) (Nat.le_trans u1 T0.bel.size) hsz
  have hm0 : (dropL p bn).1 ≤ p.1 := kept_le _ _
  unfold putL
  obtain ⟨⟨m, y⟩, hD⟩ : ∃ d, d = dropL p bn := ⟨_, rfl⟩
  rw [← hD] at CD hA hm0 ⊢
  simp only at hA hm0
  have R2 : Hid (layBytes.rd w h2 q [.slice bo q.1 bc]) := r2
  have hat : at_ ≤ m := hA.le
  have HA : Hid (AtP m y bn at_) := hA
  have HT0 : Hid (One w (w.alloc (.cells #[.string bn] 9)) #[.string bn] 9) := T0
  clear r0 r2 hv hv' hsz hD hA T0
  go_enter Try.func6, Try.ntmps6
  go_wp2_with fail
  refine CD.mono ?_
  rintro e w1 ⟨vr, rfl, ⟨L, k1, k2, k3⟩, b1⟩
  obtain ⟨vr', ce, Ls, e1, rfl, hr, he⟩ := k1
  obtain rfl := one_eq e1
  have T1 := HT0.out.call b1
  have za : (w.alloc (.cells #[.string bn] 9)).heap.size = w.heap.size + 1 := by simp
  obtain ⟨ar, cr, hvr⟩ : ∃ a c, vr = .slice a m c := by
    rcases hr.2 with ⟨hv, hn⟩ | ⟨g, cap, cur, rfl, _⟩
    · exact ⟨none, 0, by rw [hv, show m = 0 from hn]⟩
    · exact ⟨_, _, rfl⟩
  subst hvr
  have V1 : View (layRaw 3) 29 w1 0 0 (.slice ar m cr) m ce ce := raw_view hr he
  have hne : (Value.slice ar m cr).ownBlock ≠ some w.heap.size := fun h => by
    have h7 : w.heap.size ∈ (Value.slice ar m cr).ownBlock.toList ++ catN m Ls := List.mem_append_left _ (by rw [h]; simp)
    have := (k3 _ h7).1
    omega
  have CX := index_thing V1 he (by omega) w.heap.size bn (T1.b1.cell 0) T1.b1.lt hne HA.out
  clear CD e1
  go_wp2_with fail
  refine CX.mono ?_
  rintro e w2 ⟨hcase, b2⟩
  have T2 := T1.call b2
  have z1 := T1.b1.lt
  have z2 := b2.size
  have bD : Below w1.heap.size w1 w2.drew := b2.trans (show Below w1.heap.size w2 w2.drew from ⟨rfl, rfl, rfl, Nat.le_refl _, fun _ _ => rfl⟩)
  have HTD : Hid (One w w2.drew #[.string bn] 9) := T2.call (show Below w2.heap.size w2 w2.drew from ⟨rfl, rfl, rfl, Nat.le_refl _, fun _ _ => rfl⟩)
  obtain ⟨D, hDe⟩ : ∃ D, D = w2.drew := ⟨_, rfl⟩
  have HD : Hid (D = w2.drew) := hDe
  rw [← hDe] at bD HTD
  have zD : D.heap.size = w2.heap.size := by rw [hDe]; rfl
  have n9 : D.cell? ⟨w.heap.size, 0, none⟩ = some (.string bn) := HTD.out.b1.cell 0
  have n2 : w2.cell? ⟨w.heap.size, 0, none⟩ = some (.string bn) := T2.b1.cell 0
  have hpD : w.heap.size < D.heap.size := HTD.out.b1.lt
  have zwD : w.heap.size ≤ D.heap.size := by omega
  have HR : Hid (D.ownsRow 0 29 layThing.sz (.slice ar m cr) m (catN m ce)) := (V1.below bD (Nat.zero_le _)).row
  have HE : Hid (∀ i, i < m → layThing.own D (y i) (ce i) (Ls i)) := fun i hi => layThing.own_kept (he i hi) (fun b hb => bD.block b (layThing.own_lt (he i hi) b hb))
  have HND : Hid (((Value.slice ar m cr).ownBlock.toList ++ catN m Ls).Nodup) := k2
  have HLO : Hid (∀ b, b ∈ (Value.slice ar m cr).ownBlock.toList ++ catN m Ls → w.heap.size ≤ b) := fun b hb => by have := (k3 b hb).1; omega
  have V9 : Hid (View (layRaw 3) 29 D 0 0 (.slice ar m cr) m ce ce) := V1.below bD (Nat.zero_le _)
  have HBD : Hid (Below w.heap.size w D) := HTD.out.bel
  have CB : Hid (Calls Try.prog 18 #[.slice bo q.1 bc] D fun e w' => ∃ v', e = .returned v' ∧ OwnT layBytes w' D.heap.size w'.heap.size q [v'] ∧ Below D.heap.size D w') := copyBytes_is _ q h2 D (layBytes.rd_below R2.out HTD.out.bel u2) (by omega) hbb
  clear CX b1 b2 T1 T2 hDe bD HTD hr he k2 k3 V1 hne za R2
  rcases hcase with ⟨rfl, hm⟩ | ⟨rfl, hm⟩
  · have hneg : ((-1 : Int) < 0) := by omega
    subst hm
    go_upto_region 5 with fail
    refine wp_region_M 6 (fun w' => w'.cell? ⟨w.heap.size, 0, none⟩ = some (.string bn)) mixedO (by rw [← HD.out]; exact n9) (fun hHeld => ?_)
    rw [← HD.out] at hHeld ⊢
    refine wpAnyM_pure (i := 0) (oi := _) (v := ?_) rfl (by kernel_rfl) (fun _ _ _ h => h) (Or.inl ⟨by kernel_rfl, ?_⟩) (by assumption) ?_
    rotate_left
    · intro w' hSw
      go_simp
      try with_reducible rfl
    try simp only [List.getElem_toArray, List.getElem_cons_succ, List.getElem_cons_zero, Act.put, List.setIfInBounds_toArray, List.set_cons_zero, List.set_cons_succ]
    refine wpAnyM_pure (i := 1) (oi := _) (v := ?_) rfl (by kernel_rfl) (fun _ _ _ h => h) (Or.inl ⟨by kernel_rfl, ?_⟩) (by assumption) ?_
    rotate_left
    · intro w' hSw
      go_simp
      try with_reducible rfl
    try simp only [List.getElem_toArray, List.getElem_cons_succ, List.getElem_cons_zero, Act.put, List.setIfInBounds_toArray, List.set_cons_zero, List.set_cons_succ]
    refine wpAnyM_take (i := 2) (oi := _) (v := ?_) 16 rfl (by kernel_rfl) (fun _ _ _ h => h) (Or.inl ⟨by kernel_rfl, ?_⟩) (by assumption) ?_
    rotate_left
    · intro w' hSw
      try dsimp only at hSw
      have hname := hSw
      go_simp
      try with_reducible rfl
    try simp only [List.getElem_toArray, List.getElem_cons_succ, List.getElem_cons_zero, Act.put, List.setIfInBounds_toArray, List.set_cons_zero, List.set_cons_succ]
    refine wpAnyM_pure (i := 3) (oi := _) (v := ?_) rfl (by kernel_rfl) (fun _ _ _ h => h) (Or.inl ⟨by kernel_rfl, ?_⟩) (by assumption) ?_
    rotate_left
    · intro w' hSw
      go_simp
      try with_reducible rfl
    try simp only [List.getElem_toArray, List.getElem_cons_succ, List.getElem_cons_zero, Act.put, List.setIfInBounds_toArray, List.set_cons_zero, List.set_cons_succ]
    refine wpAnyM_oneS (i := 4) (o := _) rfl (by kernel_rfl) (fun KC hKC => ?_)
    refine step_callv (by kernel_rfl) (.func 18) 18 #[] _ _ rfl (by simp [Act.eval, Act.put]) #[.slice bo q.1 bc] (by simp [Act.eval, Act.put]) Try.func18 (by kernel_rfl) (by kernel_rfl) (calls_app0 (CB.out)) ?_
    rintro e w5 ⟨v5, rfl, o5, b5⟩
    refine ⟨_, rfl, ?_⟩
    have n5 : w5.cell? ⟨w.heap.size, 0, none⟩ = some (.string bn) := (b5.cell (p := ⟨w.heap.size, 0, none⟩) hpD).trans n9
    obtain ⟨bo2, bc2, hv5⟩ := bytes_formT o5
    obtain rfl := one_eq hv5
    refine hKC _ _ n5 ?_
    clear hKC KC hv5
    try simp only [List.getElem_toArray, List.getElem_cons_succ, List.getElem_cons_zero, Act.put, List.setIfInBounds_toArray, List.set_cons_zero, List.set_cons_succ]
    refine wpAnyM_pure (i := 5) (oi := _) (v := ?_) rfl (by kernel_rfl) (fun _ _ _ h => h) (Or.inl ⟨by kernel_rfl, ?_⟩) (by assumption) ?_
    rotate_left
    · intro w' hSw
      go_simp
      try with_reducible rfl
    try simp only [List.getElem_toArray, List.getElem_cons_succ, List.getElem_cons_zero, Act.put, List.setIfInBounds_toArray, List.set_cons_zero, List.set_cons_succ]
    refine wpAnyM_one (i := 6) (o := _) rfl (by kernel_rfl) (by kernel_rfl) (fun KC hKC => ?_)
    refine step_build1T rfl (.tmp 24) rfl bn false bo2 q.1 bc2 (by simp [Act.eval, Act.put]) ?_
    have b6 : Below w5.heap.size w5 (w5.alloc (.cells #[.string bn, .bool false, .slice bo2 q.1 bc2] 29)) := (Below.refl _ _).alloc (Nat.le_refl _) _
    have X6 : Box (w5.alloc (.cells #[.string bn, .bool false, .slice bo2 q.1 bc2] 29)) w5.heap.size ([.string bn, .bool false, .slice bo2 q.1 bc2] : List Value).toArray 29 := box_new _ _ _
    have z5 := b5.size
    have V6 : View (layRaw 3) 29 (w5.alloc (.cells #[.string bn, .bool false, .slice bo2 q.1 bc2] 29)) 0 0 (.slice ar at_ cr) at_ ce ce := (V9.out.below b5 (Nat.zero_le _)).below b6 (Nat.zero_le _)
    have CN := insert_any (.slice ar at_ cr) at_ at_ ce w5.heap.size [.string bn, .bool false, .slice bo2 q.1 bc2] _ V6 rfl (fun u hu => by
      simp only [List.mem_cons, List.not_mem_nil, or_false] at hu
      rcases hu with rfl | rfl | rfl <;> rfl) X6 (fun h => by have := (HR.out.lt _ h).2; omega) hat (by omega)
    refine hKC _ _ ?_
    clear hKC KC
    try simp only [List.getElem_toArray, List.getElem_cons_succ, List.getElem_cons_zero, Act.put, List.setIfInBounds_toArray, List.set_cons_zero, List.set_cons_succ]
    obtain ⟨W6, hW6⟩ : ∃ x, x = w5.alloc (.cells #[.string bn, .bool false, .slice bo2 q.1 bc2] 29) := ⟨_, rfl⟩
    rw [← hW6] at b6 X6 V6 CN ⊢
    clear hW6
    refine wpAnyM_one (i := 7) (o := _) rfl (by kernel_rfl) (by kernel_rfl) (fun KC hKC => ?_)
    refine step_callv (by kernel_rfl) (.func 17) 17 #[] _ _ rfl (by simp [Act.eval, Act.put]) #[.slice ar at_ cr, .int .i64 (at_ : Int), .slice (some ⟨w5.heap.size, 0, none⟩) 1 1] (by simp [Act.eval, Act.put]) Try.func17 (by kernel_rfl) (by kernel_rfl) (calls_app0 (CN)) ?_
    rintro e w8 ⟨v8, rfl, hrow, hblk, hch⟩
    refine ⟨_, rfl, ?_⟩
    refine hKC _ _ ?_
    clear hKC KC
    try simp only [List.getElem_toArray, List.getElem_cons_succ, List.getElem_cons_zero, Act.put, List.setIfInBounds_toArray, List.set_cons_zero, List.set_cons_succ]
    refine wpAnyM_pureL (i := 8) (oi := _) (v := ?_) rfl (by kernel_rfl) (fun _ _ _ h => h) (Or.inl ⟨by kernel_rfl, ?_⟩) ?_
    rotate_left
    · intro w' hSw
      go_simp
      try with_reducible rfl
    try simp only [List.getElem_toArray, List.getElem_cons_succ, List.getElem_cons_zero, Act.put, List.setIfInBounds_toArray, List.set_cons_zero, List.set_cons_succ]
    refine wpAnyM_done (by kernel_rfl) ?_ _
    have HF1 : Hid (OwnT (layThing.slice 29) w8 w.heap.size w8.heap.size (putD (at_, y) bn q at_) [v8]) := put_own (w1 := D) (w2 := w5) (D := W6) (lo := w.heap.size) HR.out HE.out HND.out HLO.out zwD o5 (by unfold maxLen; omega) b5 b6 hat hrow hblk (fun b hb hn => hch.block b hb (fun h => hn (by simpa using h)))
    have b8 : Below w.heap.size W6 w8 := hch.bel (fun b hb => HLO.out b (List.mem_append_left _ hb)) (by have := b6.size; omega)
    have HF2 : Hid (Below w.heap.size w w8) := HBD.out.trans (((b5.mono zwD).trans (b6.mono (by omega))).trans b8)
    clear hrow hblk hch CN o5 b5 b6 b8 X6 V6 hHeld n9 n5
    go_wp2
    go_ret
    exact ⟨_, rfl, HF1.out, HF2.out⟩
  · have hpos : ¬ ((at_ : Int) < 0) := by omega
    go_upto_region 5 with fail
    refine wp_region_M 6 (fun w' => w'.cell? ⟨w.heap.size, 0, none⟩ = some (.string bn)) mixedO (by rw [← HD.out]; exact n9) (fun hHeld => ?_)
    rw [← HD.out] at hHeld ⊢
    refine wpAnyM_pure (i := 0) (oi := _) (v := ?_) rfl (by kernel_rfl) (fun _ _ _ h => h) (Or.inl ⟨by kernel_rfl, ?_⟩) (by assumption) ?_
    rotate_left
    · intro w' hSw
      go_simp
      try with_reducible rfl
    try simp only [List.getElem_toArray, List.getElem_cons_succ, List.getElem_cons_zero, Act.put, List.setIfInBounds_toArray, List.set_cons_zero, List.set_cons_succ]
    refine wpAnyM_pure (i := 1) (oi := _) (v := ?_) rfl (by kernel_rfl) (fun _ _ _ h => h) (Or.inl ⟨by kernel_rfl, ?_⟩) (by assumption) ?_
    rotate_left
    · intro w' hSw
      go_simp
      try with_reducible rfl
    try simp only [List.getElem_toArray, List.getElem_cons_succ, List.getElem_cons_zero, Act.put, List.setIfInBounds_toArray, List.set_cons_zero, List.set_cons_succ]
    refine wpAnyM_take (i := 2) (oi := _) (v := ?_) 16 rfl (by kernel_rfl) (fun _ _ _ h => h) (Or.inl ⟨by kernel_rfl, ?_⟩) (by assumption) ?_
    rotate_left
    · intro w' hSw
      try dsimp only at hSw
      have hname := hSw
      go_simp
      try with_reducible rfl
    try simp only [List.getElem_toArray, List.getElem_cons_succ, List.getElem_cons_zero, Act.put, List.setIfInBounds_toArray, List.set_cons_zero, List.set_cons_succ]
    refine wpAnyM_pure (i := 3) (oi := _) (v := ?_) rfl (by kernel_rfl) (fun _ _ _ h => h) (Or.inl ⟨by kernel_rfl, ?_⟩) (by assumption) ?_
    rotate_left
    · intro w' hSw
      go_simp
      try with_reducible rfl
    try simp only [List.getElem_toArray, List.getElem_cons_succ, List.getElem_cons_zero, Act.put, List.setIfInBounds_toArray, List.set_cons_zero, List.set_cons_succ]
    refine wpAnyM_oneS (i := 4) (o := _) rfl (by kernel_rfl) (fun KC hKC => ?_)
    refine step_callv (by kernel_rfl) (.func 18) 18 #[] _ _ rfl (by simp [Act.eval, Act.put]) #[.slice bo q.1 bc] (by simp [Act.eval, Act.put]) Try.func18 (by kernel_rfl) (by kernel_rfl) (calls_app0 (CB.out)) ?_
    rintro e w5 ⟨v5, rfl, o5, b5⟩
    refine ⟨_, rfl, ?_⟩
    have n5 : w5.cell? ⟨w.heap.size, 0, none⟩ = some (.string bn) := (b5.cell (p := ⟨w.heap.size, 0, none⟩) hpD).trans n9
    obtain ⟨bo2, bc2, hv5⟩ := bytes_formT o5
    obtain rfl := one_eq hv5
    refine hKC _ _ n5 ?_
    clear hKC KC hv5
    try simp only [List.getElem_toArray, List.getElem_cons_succ, List.getElem_cons_zero, Act.put, List.setIfInBounds_toArray, List.set_cons_zero, List.set_cons_succ]
    refine wpAnyM_pure (i := 5) (oi := _) (v := ?_) rfl (by kernel_rfl) (fun _ _ _ h => h) (Or.inl ⟨by kernel_rfl, ?_⟩) (by assumption) ?_
    rotate_left
    · intro w' hSw
      go_simp
      try with_reducible rfl
    try simp only [List.getElem_toArray, List.getElem_cons_succ, List.getElem_cons_zero, Act.put, List.setIfInBounds_toArray, List.set_cons_zero, List.set_cons_succ]
    refine wpAnyM_one (i := 6) (o := _) rfl (by kernel_rfl) (by kernel_rfl) (fun KC hKC => ?_)
    refine step_build1T rfl (.tmp 24) rfl bn false bo2 q.1 bc2 (by simp [Act.eval, Act.put]) ?_
    have b6 : Below w5.heap.size w5 (w5.alloc (.cells #[.string bn, .bool false, .slice bo2 q.1 bc2] 29)) := (Below.refl _ _).alloc (Nat.le_refl _) _
    have X6 : Box (w5.alloc (.cells #[.string bn, .bool false, .slice bo2 q.1 bc2] 29)) w5.heap.size ([.string bn, .bool false, .slice bo2 q.1 bc2] : List Value).toArray 29 := box_new _ _ _
    have z5 := b5.size
    have V6 : View (layRaw 3) 29 (w5.alloc (.cells #[.string bn, .bool false, .slice bo2 q.1 bc2] 29)) 0 0 (.slice ar m cr) m ce ce := (V9.out.below b5 (Nat.zero_le _)).below b6 (Nat.zero_le _)
    have CN := insert_any (.slice ar m cr) m at_ ce w5.heap.size [.string bn, .bool false, .slice bo2 q.1 bc2] _ V6 rfl (fun u hu => by
      simp only [List.mem_cons, List.not_mem_nil, or_false] at hu
      rcases hu with rfl | rfl | rfl <;> rfl) X6 (fun h => by have := (HR.out.lt _ h).2; omega) hat (by omega)
    refine hKC _ _ ?_
    clear hKC KC
    try simp only [List.getElem_toArray, List.getElem_cons_succ, List.getElem_cons_zero, Act.put, List.setIfInBounds_toArray, List.set_cons_zero, List.set_cons_succ]
    obtain ⟨W6, hW6⟩ : ∃ x, x = w5.alloc (.cells #[.string bn, .bool false, .slice bo2 q.1 bc2] 29) := ⟨_, rfl⟩
    rw [← hW6] at b6 X6 V6 CN ⊢
    clear hW6
    refine wpAnyM_one (i := 7) (o := _) rfl (by kernel_rfl) (by kernel_rfl) (fun KC hKC => ?_)
    refine step_callv (by kernel_rfl) (.func 17) 17 #[] _ _ rfl (by simp [Act.eval, Act.put]) #[.slice ar m cr, .int .i64 (at_ : Int), .slice (some ⟨w5.heap.size, 0, none⟩) 1 1] (by simp [Act.eval, Act.put]) Try.func17 (by kernel_rfl) (by kernel_rfl) (calls_app0 (CN)) ?_
    rintro e w8 ⟨v8, rfl, hrow, hblk, hch⟩
    refine ⟨_, rfl, ?_⟩
    refine hKC _ _ ?_
    clear hKC KC
    try simp only [List.getElem_toArray, List.getElem_cons_succ, List.getElem_cons_zero, Act.put, List.setIfInBounds_toArray, List.set_cons_zero, List.set_cons_succ]
    refine wpAnyM_pureL (i := 8) (oi := _) (v := ?_) rfl (by kernel_rfl) (fun _ _ _ h => h) (Or.inl ⟨by kernel_rfl, ?_⟩) ?_
    rotate_left
    · intro w' hSw
      go_simp
      try with_reducible rfl
    try simp only [List.getElem_toArray, List.getElem_cons_succ, List.getElem_cons_zero, Act.put, List.setIfInBounds_toArray, List.set_cons_zero, List.set_cons_succ]
    refine wpAnyM_done (by kernel_rfl) ?_ _
    have HF1 : Hid (OwnT (layThing.slice 29) w8 w.heap.size w8.heap.size (putD (m, y) bn q at_) [v8]) := put_own (w1 := D) (w2 := w5) (D := W6) (lo := w.heap.size) HR.out HE.out HND.out HLO.out zwD o5 (by unfold maxLen; omega) b5 b6 hat hrow hblk (fun b hb hn => hch.block b hb (fun h => hn (by simpa using h)))
    have b8 : Below w.heap.size W6 w8 := hch.bel (fun b hb => HLO.out b (List.mem_append_left _ hb)) (by have := b6.size; omega)
    have HF2 : Hid (Below w.heap.size w w8) := HBD.out.trans (((b5.mono zwD).trans (b6.mono (by omega))).trans b8)
    clear hrow hblk hch CN o5 b5 b6 b8 X6 V6 hHeld n9 n5
    go_wp2
    go_ret
    exact ⟨_, rfl, HF1.out, HF2.out⟩
end Go.Proofs.Ytopaofcpjiicmaa

namespace Go.Proofs.Ytopaofcpjiicmaa
open Go.RowKit F256
set_option linter.unusedVariables false
theorem drop_le (p : Nat × (Nat → ThingD)) (bn : ByteArray) : szSl szThingD (dropL p bn) ≤ szSl szThingD p := by
  have h1 := sum_sel (fun i => szThingD (p.2 i)) (fun i => keepT bn (p.2 i)) p.1
  have h2 := kept_le (fun i => keepT bn (p.2 i)) p.1
  unfold szSl dropL
  simp only at h1 ⊢
  omega
theorem drop_sz {p : Nat × (Nat → ThingD)} {bn : ByteArray} (h : szSl szThingD p ≤ 1048576) : szSl szThingD (dropL p bn) ≤ 4000000 := by
  have := drop_le p bn
  omega
end Go.Proofs.Ytopaofcpjiicmaa

namespace Go.Proofs.Ytopaofcpjiicmaa
open Go.RowKit F256
set_option linter.unusedVariables false
theorem sum_insF {β : Type} (f : β → Nat) (x : Nat → β) (a : β) (i : Nat) : ∀ k, sumN (fun j => f (insF x i a j)) (i + k + 1) = sumN (fun j => f (x j)) (i + k) + f a
  | 0 => by
    have h : ∀ n, n ≤ i → sumN (fun j => f (insF x i a j)) n = sumN (fun j => f (x j)) n := fun n => by
      induction n with
      | zero => intro _; rfl
      | succ n ih => intro hn; rw [sumN_succ, sumN_succ, ih (by omega), insF_lt x a (by omega)]
    show sumN (fun j => f (insF x i a j)) (i + 1) = sumN (fun j => f (x j)) i + f a
    rw [sumN_succ, h i (Nat.le_refl _), insF_at]
  | k + 1 => by
    have e : i + (k + 1) = i + k + 1 := by omega
    rw [sumN_succ, e, sum_insF f x a i k, sumN_succ]
    have e2 : insF x i a (i + k + 1) = x (i + k) := by
      have := insF_gt x i a k
      rw [show i + 1 + k = i + k + 1 by omega] at this
      exact this
    rw [e2]
    omega
theorem put_sz {p : Nat × (Nat → ThingD)} {bn : ByteArray} {q : Nat × (Nat → Nat)} {i : Nat} (h : szSl szThingD p ≤ 1048576) (h1 : bn.size ≤ 1048576) (h2 : q.1 ≤ 1048576) (hi : i ≤ (dropL p bn).1) : szSl szThingD (putL p bn q i) ≤ 4000000 := by
  have hd := drop_le p bn
  obtain ⟨d, hD⟩ : ∃ d, d = dropL p bn := ⟨_, rfl⟩
  unfold putL
  rw [← hD] at hd hi ⊢
  have hs := sum_insF szThingD d.2 ⟨bn, false, q⟩ i (d.1 - i)
  rw [show i + (d.1 - i) = d.1 by omega] at hs
  have e : szThingD ⟨bn, false, q⟩ = bn.size + q.1 := rfl
  unfold szSl putD
  unfold szSl at hd h
  simp only at hs ⊢
  omega
end Go.Proofs.Ytopaofcpjiicmaa

namespace Go.Proofs.Ytopaofcpjiicmaa
open Go.RowKit F256

/-- a source of draws in block bs: t draws were made; its bytes lie below -/
def SrcD (w : World) (bs t : Nat) (v : Value) (n : Nat) (f : Nat → Nat) : Prop := Box w bs #[v, .int .i64 t] 49 ∧ Rd w bs v n f ∧ (∀ i, f i < 256) ∧ n ≤ 1048576

theorem nat_mod (a b : Nat) : ((a : Int) % (b : Int)) = ((a % b : Nat) : Int) := by simp
theorem nat_div (a b : Nat) : ((a : Int) / (b : Int)) = ((a / b : Nat) : Int) := by simp

set_option maxHeartbeats 2000000 in
theorem l1Next_any (bs t : Nat) (v : Value) (n : Nat) (f : Nat → Nat) (N : Nat) (hN : 1 ≤ N) (hN2 : N ≤ 100000) (ht : t ≤ 1000000) (w : World) (h : SrcD w bs t v n f) :
    Calls Try.prog 14 #[.pointer (some ⟨bs, 0, none⟩), .int .i64 N] w fun e w' => ∃ r : Nat, r < N ∧ e = .returned (.int .i64 r) ∧ SrcD w' bs (t + 1) v n f ∧ Chg bs (bs + 1) w w' := by
  obtain ⟨hbox, hrd, kf, hn⟩ := h
  obtain ⟨ao, cap, rfl, hm, hc⟩ := hrd
  have fin : ∀ k : Nat, SrcD ((w.setCell ⟨bs, 1, none⟩ (.int .i64 ((t : Int) + 1))).drewN k) bs (t + 1) (.slice ao n cap) n f ∧ Chg bs (bs + 1) w ((w.setCell ⟨bs, 1, none⟩ (.int .i64 ((t : Int) + 1))).drewN k) := by
    intro k
    have o1 := out_store w bs (bs + 1) bs 1 (.int .i64 ((t : Int) + 1)) (Nat.le_refl _) (by omega)
    refine ⟨⟨?_, ?_, kf, hn⟩, ⟨o1.os, o1.tape, o1.output, Nat.le_of_eq o1.size.symm, fun b _ hb => o1.block b hb⟩⟩
    · exact heap_setCell_same w bs 1 _ _ _ hbox
    · refine ⟨ao, cap, rfl, hm, fun h0 => ?_⟩
      obtain ⟨b, off, rfl, hlt, hcell⟩ := hc h0
      exact ⟨b, off, rfl, hlt, fun i hi => (World.cell?_of_block (w := w) (o1.block b (.inl hlt))).trans (hcell i hi)⟩
  obtain ⟨c0, c1, z0, z1⟩ := res_cells hbox
  by_cases h0 : n = 0
  · subst h0
    have F := fin 0
    clear fin hc kf hbox
    go_enter Try.func14, Try.ntmps14
    go_wp2
    go_ret
    exact ⟨t * 7 % N, Nat.mod_lt _ (by omega), ret_eq (by rw [Int.natCast_emod]; simp), F⟩
  · obtain ⟨b, off, rfl, hlt, hcell⟩ := hc h0
    have hp := Nat.mod_lt t (show 0 < n by omega)
    have hp2 := Nat.mod_lt (t + 1) (show 0 < n by omega)
    have hq2 := Nat.div_le_self t n
    have e1 := nat_mod t n
    have e2 := nat_mod (t + 1) n
    have e3 := nat_div t n
    have e2' : ((t : Int) + 1) % (n : Int) = (((t + 1) % n : Nat) : Int) := by rw [← e2]; simp
    have hbs : b ≠ bs := by omega
    obtain ⟨p, hpd⟩ : ∃ p, p = t % n := ⟨_, rfl⟩
    obtain ⟨p2, hpd2⟩ : ∃ p, p = (t + 1) % n := ⟨_, rfl⟩
    obtain ⟨q, hqd⟩ : ∃ p, p = t / n := ⟨_, rfl⟩
    rw [← hpd] at e1 hp
    rw [← hpd2] at e2' hp2
    rw [← hqd] at e3 hq2
    have g1 := hcell p hp
    have g2 := hcell p2 hp2
    have k1 := kf p
    have k2 := kf p2
    have hne : ((n : Int) == 0) = false := by simp; omega
    clear hpd hpd2 hqd e2 hc kf hbox hcell
    by_cases hbig : 200 < N
    · go_enter Try.func14, Try.ntmps14
      go_wp2
      go_quiet (fail)
      go_wp2
      go_quiet (fail)
      go_wp2
      go_ret
      exact ⟨((f p + q * 37) * 251 + f p2 * 13 + t) % N, Nat.mod_lt _ (by omega), ret_eq (by rw [Int.natCast_emod]; simp), fin _⟩
    · go_enter Try.func14, Try.ntmps14
      go_wp2
      go_quiet (fail)
      go_wp2
      go_ret
      exact ⟨(f p + q * 37) % N, Nat.mod_lt _ (by omega), ret_eq (by rw [Int.natCast_emod]; simp), fin _⟩

theorem SrcD.chgTrans {w w' : World} {bs t n : Nat} {v : Value} {f : Nat → Nat} (h : SrcD w bs t v n f) (hb : Below w.heap.size w w') : SrcD w' bs t v n f :=
  ⟨h.1.below hb h.1.lt, h.2.1.below hb (Nat.le_of_lt h.1.lt), h.2.2⟩

set_option maxHeartbeats 2000000 in
/-- a choice out of a list of numbers that lies in a block of its own -/
theorem l1Pick_any (bs t : Nat) (v : Value) (n : Nat) (f : Nat → Nat) (cs : Array Value) (g : Nat → Int) (bl cap : Nat) (ht : t ≤ 1000000) (hl : 1 ≤ cs.size) (hl2 : cs.size ≤ 100000) (hg : ∀ i, i < cs.size → cs[i]? = some (.int .i64 (g i)))
    (w : World) (h : SrcD w bs t v n f) (hb : Box w bl cs 2) (hne : bl ≠ bs) :
    Calls Try.prog 32 #[.pointer (some ⟨bs, 0, none⟩), .slice (some ⟨bl, 0, none⟩) cs.size cap] w fun e w' => ∃ i : Nat, i < cs.size ∧ e = .returned (.int .i64 (g i)) ∧ SrcD w' bs (t + 1) v n f ∧ Chg bs (bs + 1) w w' := by
  have C := l1Next_any bs t v n f cs.size hl hl2 ht w h
  obtain ⟨sz, hsz⟩ : ∃ sz, sz = cs.size := ⟨_, rfl⟩
  rw [← hsz] at C hl hl2 ⊢
  have HS : Hid (sz = cs.size) := hsz
  have HG : Hid (∀ i, i < cs.size → cs[i]? = some (.int .i64 (g i))) := hg
  clear hsz hg
  go_enter Try.func32, Try.ntmps32
  go_wp2_with (go_at_call 14; refine C.mono ?_; rintro e w1 ⟨r, hr, rfl, hsrc, hchg⟩; have hcell : w1.cell? ⟨bl, r, none⟩ = some (.int .i64 (g r)) := ((hb.chg hchg (by omega)).cell r).trans (HG.out r (by rw [← HS.out]; exact hr)))
  go_ret
  exact ⟨r, hr, rfl, hsrc, hchg⟩

set_option maxHeartbeats 2000000 in
theorem l1Byte_any (bs t : Nat) (v : Value) (n : Nat) (f : Nat → Nat) (ht : t ≤ 900000) (w : World) (h : SrcD w bs t v n f) :
    Calls Try.prog 28 #[.pointer (some ⟨bs, 0, none⟩)] w fun e w' => ∃ a : Nat, a < 256 ∧ e = .returned (.int .u8 a) ∧ SrcD w' bs (t + 3) v n f ∧ Chg bs (bs + 1) w w' := by
  go_enter Try.func28, Try.ntmps28
  go_wp2_with fail
  refine (l1Next_any bs t v n f 256 (by omega) (by omega) (by omega) _ h).mono ?_
  rintro e w1 ⟨r1, hr1, rfl, h1, c1⟩
  go_wp2_with fail
  refine (l1Next_any bs (t + 1) v n f 256 (by omega) (by omega) (by omega) _ h1).mono ?_
  rintro e w2 ⟨r2, hr2, rfl, h2, c2⟩
  go_wp2_with fail
  have hb : Below w2.heap.size w2 (w2.alloc (.cells #[.int .i64 r1, .int .i64 r2, .int .i64 0, .int .i64 1, .int .i64 2, .int .i64 255] 2)) := (Below.refl _ _).alloc (Nat.le_refl _) _
  have hl2 := h2.1.lt
  refine (l1Pick_any bs (t + 2) v n f #[.int .i64 r1, .int .i64 r2, .int .i64 0, .int .i64 1, .int .i64 2, .int .i64 255] (fun i => ([(r1 : Int), (r2 : Int), 0, 1, 2, 255] : List Int).getD i 0) w2.heap.size 6 (by omega) (by show 1 ≤ 6; omega) (by show 6 ≤ 100000; omega) ?_ _ (h2.chgTrans hb) (box_new _ _ _) (by omega)).mono ?_
  · intro i hi
    have hi6 : i < 6 := hi
    have : i = 0 ∨ i = 1 ∨ i = 2 ∨ i = 3 ∨ i = 4 ∨ i = 5 := by omega
    rcases this with rfl | rfl | rfl | rfl | rfl | rfl <;> rfl
  rintro e w3 ⟨j, hj, rfl, h3, c3⟩
  have hj6 : j < 6 := hj
  obtain ⟨a, ha, hae⟩ : ∃ a : Nat, a < 256 ∧ ([(r1 : Int), (r2 : Int), 0, 1, 2, 255] : List Int).getD j 0 = (a : Int) := by
    have : j = 0 ∨ j = 1 ∨ j = 2 ∨ j = 3 ∨ j = 4 ∨ j = 5 := by omega
    rcases this with rfl | rfl | rfl | rfl | rfl | rfl
    · exact ⟨r1, hr1, rfl⟩
    · exact ⟨r2, hr2, rfl⟩
    · exact ⟨0, by omega, rfl⟩
    · exact ⟨1, by omega, rfl⟩
    · exact ⟨2, by omega, rfl⟩
    · exact ⟨255, by omega, rfl⟩
  rw [hae]
  have C := (c1.trans c2).trans ((Below.chg hb bs (bs + 1)).trans c3)
  clear hae hj hj6 h1 h2 c1 c2 c3 hb
  go_wp2
  go_ret
  exact ⟨a, ha, rfl, h3, C⟩

theorem l1Source_any (v : Value) (n : Nat) (f : Nat → Nat) (w : World) (h : Rd w w.heap.size v n f) (kf : ∀ i, f i < 256) (hn : n ≤ 1048576) :
    Calls Try.prog 10 #[v] w fun e w' => e = .returned (.pointer (some ⟨w.heap.size, 0, none⟩)) ∧ SrcD w' w.heap.size 0 v n f ∧ Below w.heap.size w w' := by
  have hb : Below w.heap.size w (w.alloc (.cells #[v, .int .i64 0] 49)) := (Below.refl _ _).alloc (Nat.le_refl _) _
  have hs : SrcD (w.alloc (.cells #[v, .int .i64 0] 49)) w.heap.size 0 v n f := ⟨box_new _ _ _, h.below hb (Nat.le_refl _), kf, hn⟩
  obtain ⟨ao, cap, rfl, hm, hc⟩ := h
  clear hc
  go_enter Try.func10, Try.ntmps10
  go_wp2
  go_ret
  exact ⟨rfl, hs, hb⟩

theorem lwBig_no (v : Value) (n : Nat) (f : Nat → Nat) (hh : Nat) (w : World) (h : Rd w hh v n f) (hn : n ≤ 1048576) :
    Calls Try.prog 4 #[v] w fun e w' => e = .returned (.bool false) ∧ w' = w := by
  obtain ⟨ao, cap, rfl, hm, hc⟩ := h
  clear hc
  have hd : decide ((1048576 : Int) < (n : Int)) = false := by simp; omega
  go_enter Try.func4, Try.ntmps4
  go_wp2
  go_ret
  exact ⟨rfl, rfl⟩
theorem lwBig_yes (v : Value) (n : Nat) (f : Nat → Nat) (hh : Nat) (w : World) (h : Rd w hh v n f) (hn : 1048576 < n) :
    Calls Try.prog 4 #[v] w fun e w' => e = .returned (.bool true) ∧ w' = w := by
  obtain ⟨ao, cap, rfl, hm, hc⟩ := h
  clear hc
  unfold maxLen at hm
  have hd : decide ((1048576 : Int) < (n : Int)) = true := by simp; omega
  go_enter Try.func4, Try.ntmps4
  go_wp2
  go_ret
  exact ⟨rfl, rfl⟩
end Go.Proofs.Ytopaofcpjiicmaa

namespace Go.Proofs.Ytopaofcpjiicmaa
open Go.RowKit F256
set_option linter.unusedVariables false

set_option maxHeartbeats 2000000 in
theorem l1Chance_any (bs t : Nat) (v : Value) (n : Nat) (f : Nat → Nat) (N : Nat) (hN : 1 ≤ N) (hN2 : N ≤ 100000) (ht : t ≤ 1000000) (w : World) (h : SrcD w bs t v n f) :
    Calls Try.prog 27 #[.pointer (some ⟨bs, 0, none⟩), .int .i64 N] w fun e w' => ∃ b : Bool, e = .returned (.bool b) ∧ SrcD w' bs (t + 1) v n f ∧ Chg bs (bs + 1) w w' := by
  go_enter Try.func27, Try.ntmps27
  go_wp2_with fail
  refine (l1Next_any bs t v n f N hN hN2 ht _ h).mono ?_
  rintro e w1 ⟨r, hr, rfl, h1, c1⟩
  go_wp2
  go_ret
  exact ⟨_, rfl, h1, c1⟩

/-- what changes only what came behind -/
theorem Chg.then {lo hi : Nat} {w w1 w2 : World} (h : Chg lo hi w w1) (b : Below w.heap.size w1 w2) : Chg lo hi w w2 :=
  ⟨b.os.trans h.os, b.tape.trans h.tape, b.output.trans h.output, Nat.le_trans h.size b.size, fun q hq ho => (b.block q hq).trans (h.block q hq ho)⟩

set_option maxHeartbeats 2000000 in
theorem l1Some_any (bs t : Nat) (v : Value) (n : Nat) (f : Nat → Nat) (N : Nat) (hN : N ≤ 1000) (ht : t ≤ 800000) (w : World) (h : SrcD w bs t v n f) :
    Calls Try.prog 13 #[.pointer (some ⟨bs, 0, none⟩), .int .i64 N] w fun e w' => ∃ v' g, e = .returned v' ∧ Own w' w.heap.size w'.heap.size v' N g ∧ (∀ i, g i < 256) ∧ SrcD w' bs (t + 3 * N) v n f ∧ Chg bs (bs + 1) w w' := by
  have hbs := h.1.lt
  have H0 : Hid (SrcD w bs t v n f) := h
  clear h
  go_enter Try.func13, Try.ntmps13
  go_wp2
  go_loopw [1, 5] (fun i u wr => ∃ j k : Nat, j + k = N ∧ i = .int .i64 j ∧ ∃ g, Own wr w.heap.size wr.heap.size u k g ∧ (∀ i, g i < 256) ∧ SrcD wr bs (t + 3 * k) v n f ∧ Chg bs (bs + 1) w wr) (fun i _ _ => (intOf i).toNat)
  case atStart =>
    have b0 : Below w.heap.size w (w.alloc (.cells #[] 5)) := (Below.refl _ _).alloc (Nat.le_refl _) _
    exact ⟨N, 0, rfl, rfl, fun _ => 0, own_lit0 w _, fun _ => by show (0 : Nat) < 256; omega, H0.out.chgTrans b0, Below.chg b0 _ _⟩
  case round =>
    obtain ⟨j, k, hjk, rfl, g, hown, hg, hsrc, hchg⟩ := hrel
    by_cases hlt : 0 < j
    · have C := l1Byte_any bs (t + 3 * k) v n f (by omega) wr hsrc
      have hsz := hchg.size
      have HO : Hid (Own wr w.heap.size wr.heap.size u5 k g) := hown
      have HG : Hid (∀ i, g i < 256) := hg
      clear hown hg hsrc
      go_wp2_with (first | (go_at_call 28; refine C.mono ?_; rintro e wx ⟨y, hy, rfl, hsx, hcx⟩; have HOX : Hid (Own wx w.heap.size wr.heap.size u5 k (fun i => if i = k then y else g i)) := (HO.out.chg hcx (.inr (by omega))).congr (fun i hi => by simp [show ¬ i = k by omega])) | (at_builtin; refine wp_appendB rfl (.tmp 11) (.tmp 14) rfl w.heap.size wr.heap.size u5 k (fun i => if i = k then y else g i) ?_ ?_ wx.heap.size 1 ?_ ?_ ?_ ?_ ?_; (simp [Act.eval]); exact HOX.out.alloc _; (simp [Act.eval]); simp; omega; (simp; have := hcx.size; omega); intro v' w1 hown1 hb1))
      have bx : Below wx.heap.size wx (wx.alloc (.cells #[.int .u8 y] 5)) := (Below.refl _ _).alloc (Nat.le_refl _) _
      have hsw := hcx.size
      have b2 : Below w.heap.size wx w1 := (bx.mono (by omega)).trans hb1
      have R1 : SrcD w1 bs (t + 3 * k + 3) v n f := ⟨hsx.1.below b2 hbs, hsx.2.1.below b2 (by omega), hsx.2.2⟩
      have R2 : Chg bs (bs + 1) w w1 := Chg.then (hchg.trans hcx) b2
      clear hsx hcx hb1 hchg
      go_wp2
      go_roundw
      case rel => exact ⟨j - 1, k + 1, by omega, by go_num, _, hown1, fun i => by
                    by_cases e : i = k
                    · simp [e, hy]
                    · simp [e]; exact HG.out i, by rw [show t + 3 * (k + 1) = t + 3 * k + 3 by omega]; exact R1, R2⟩
      case measure => simp [intOf]; omega
    · obtain rfl : j = 0 := by omega
      obtain rfl : k = N := by omega
      go_wp2
      go_ret
      exact ⟨_, g, rfl, hown, hg, hsrc, hchg⟩
end Go.Proofs.Ytopaofcpjiicmaa

namespace Go.Proofs.Ytopaofcpjiicmaa
open Go.RowKit F256
set_option linter.unusedVariables false
set_option linter.unusedSimpArgs false
set_option maxHeartbeats 8000000 in
set_option maxRecDepth 20000 in
theorem l4Name_any (bs t : Nat) (v : Value) (n : Nat) (f : Nat → Nat) (ht : t ≤ 1000000) (w : World) (h : SrcD w bs t v n f) :
    Calls Try.prog 12 #[.pointer (some ⟨bs, 0, none⟩)] w fun e w' => ∃ b : ByteArray, e = .returned (.string b) ∧ b.size ≤ 3 ∧ SrcD w' bs (t + 1) v n f ∧ Chg bs (bs + 1) w w' := by
  have hbs := h.1.lt
  have b0 : Below w.heap.size w (w.alloc (.cells #[.string ⟨#[97]⟩, .string ⟨#[98]⟩, .string ⟨#[99]⟩, .string ⟨#[100, 49]⟩, .string ⟨#[108, 111, 103]⟩, .string ⟨#[122, 122]⟩] 9)) := (Below.refl _ _).alloc (Nat.le_refl _) _
  have X0 := box_new w #[.string ⟨#[97]⟩, .string ⟨#[98]⟩, .string ⟨#[99]⟩, .string ⟨#[100, 49]⟩, .string ⟨#[108, 111, 103]⟩, .string ⟨#[122, 122]⟩] 9
  have CN := l1Next_any bs t v n f 6 (by omega) (by omega) ht _ (h.chgTrans b0)
  have HB0 : Hid (Below w.heap.size w (w.alloc (.cells #[.string ⟨#[97]⟩, .string ⟨#[98]⟩, .string ⟨#[99]⟩, .string ⟨#[100, 49]⟩, .string ⟨#[108, 111, 103]⟩, .string ⟨#[122, 122]⟩] 9))) := b0
  clear h
  go_enter Try.func12, Try.ntmps12
  go_wp2_with fail
  refine CN.mono ?_
  rintro e w1 ⟨r, hr, rfl, h1, c1⟩
  have X1 : Box w1 w.heap.size #[.string ⟨#[97]⟩, .string ⟨#[98]⟩, .string ⟨#[99]⟩, .string ⟨#[100, 49]⟩, .string ⟨#[108, 111, 103]⟩, .string ⟨#[122, 122]⟩] 9 := (c1.block w.heap.size X0.lt (by omega)).trans X0
  have HS : Hid (SrcD w1 bs (t + 1) v n f) := h1
  have HC : Hid (Chg bs (bs + 1) w w1) := ⟨c1.os.trans HB0.out.os, c1.tape.trans HB0.out.tape, c1.output.trans HB0.out.output, Nat.le_trans HB0.out.size c1.size, fun b hb hn => (c1.block b (Nat.lt_of_lt_of_le hb HB0.out.size) hn).trans (HB0.out.block b hb)⟩
  clear h1 c1 CN X0 b0
  have i1 : (0 : Int) ≤ (r : Int) := by omega
  have i2 : (r : Int) < 6 := by omega
  match r, hr with
  | 0, _ =>
    have c := X1.cell 0
    simp only [List.getElem?_toArray, List.getElem?_cons_succ, List.getElem?_cons_zero] at c
    go_wp2
    go_ret
    exact ⟨_, rfl, by decide, HS.out, HC.out⟩
  | 1, _ =>
    have c := X1.cell 1
    simp only [List.getElem?_toArray, List.getElem?_cons_succ, List.getElem?_cons_zero] at c
    go_wp2
    go_ret
    exact ⟨_, rfl, by decide, HS.out, HC.out⟩
  | 2, _ =>
    have c := X1.cell 2
    simp only [List.getElem?_toArray, List.getElem?_cons_succ, List.getElem?_cons_zero] at c
    go_wp2
    go_ret
    exact ⟨_, rfl, by decide, HS.out, HC.out⟩
  | 3, _ =>
    have c := X1.cell 3
    simp only [List.getElem?_toArray, List.getElem?_cons_succ, List.getElem?_cons_zero] at c
    go_wp2
    go_ret
    exact ⟨_, rfl, by decide, HS.out, HC.out⟩
  | 4, _ =>
    have c := X1.cell 4
    simp only [List.getElem?_toArray, List.getElem?_cons_succ, List.getElem?_cons_zero] at c
    go_wp2
    go_ret
    exact ⟨_, rfl, by decide, HS.out, HC.out⟩
  | 5, _ =>
    have c := X1.cell 5
    simp only [List.getElem?_toArray, List.getElem?_cons_succ, List.getElem?_cons_zero] at c
    go_wp2
    go_ret
    exact ⟨_, rfl, by decide, HS.out, HC.out⟩
theorem put_le {p : Nat × (Nat → ThingD)} {bn : ByteArray} {q : Nat × (Nat → Nat)} {i : Nat} (hi : i ≤ (dropL p bn).1) : szSl szThingD (putL p bn q i) ≤ szSl szThingD p + 1 + bn.size + q.1 := by
  have hd := drop_le p bn
  obtain ⟨d, hD⟩ : ∃ d, d = dropL p bn := ⟨_, rfl⟩
  unfold putL
  rw [← hD] at hd hi ⊢
  have hs := sum_insF szThingD d.2 ⟨bn, false, q⟩ i (d.1 - i)
  rw [show i + (d.1 - i) = d.1 by omega] at hs
  have e : szThingD ⟨bn, false, q⟩ = bn.size + q.1 := rfl
  unfold szSl putD
  unfold szSl at hd
  simp only at hs ⊢
  omega
theorem SrcD.bel {w w' : World} {bs t n B : Nat} {v : Value} {f : Nat → Nat} (h : SrcD w bs t v n f) (hb : Below B w w') (hB : bs < B) : SrcD w' bs t v n f := ⟨h.1.below hb hB, h.2.1.below hb (by omega), h.2.2⟩
theorem Chg.also {lo hi : Nat} {w w1 w2 : World} (h : Chg lo hi w w1) (b : Below w.heap.size w1 w2) : Chg lo hi w w2 := Chg.then h b
/-- what was drawn so far: a list of things of one's own -/
def DrT (w : World) (bs t : Nat) (v : Value) (n : Nat) (f : Nat → Nat) (B T : Nat) (vo : Value) (wr : World) : Prop := ∃ (p : Nat × (Nat → ThingD)) (t' : Nat) (ao : Option Addr) (c : Nat), vo = .slice ao p.1 c ∧ OwnT (layThing.slice 29) wr w.heap.size wr.heap.size p [.slice ao p.1 c] ∧ szSl szThingD p ≤ B ∧ SrcD wr bs t' v n f ∧ t' ≤ t + T ∧ Chg bs (bs + 1) w wr
/-- a list of things that was drawn -/
def ThgP (bs t : Nat) (v : Value) (n : Nat) (f : Nat → Nat) (w : World) (e : Ending) (w' : World) : Prop := ∃ (v' : Value) (p : Nat × (Nat → ThingD)) (t' : Nat), e = .returned v' ∧ (∀ w2, Chg bs (bs + 1) w' w2 → (layThing.slice 29).rd w2 w2.heap.size p [v']) ∧ szSl szThingD p ≤ 100 ∧ SrcD w' bs t' v n f ∧ t' ≤ t + 100 ∧ Chg bs (bs + 1) w w'
set_option maxHeartbeats 8000000 in
set_option maxRecDepth 20000 in
theorem l13Things_any (bs t : Nat) (v : Value) (n : Nat) (f : Nat → Nat) (ht : t ≤ 700000) (w : World) (h : SrcD w bs t v n f) :
    Calls Try.prog 11 #[.pointer (some ⟨bs, 0, none⟩)] w (ThgP bs t v n f w) := by
  have hbs := h.1.lt
  have b0 : Below w.heap.size w (w.alloc (.cells #[] 29)) := (Below.refl _ _).alloc (Nat.le_refl _) _
  have G0 : OwnT (layThing.slice 29) (w.alloc (.cells #[] 29)) w.heap.size (w.alloc (.cells #[] 29)).heap.size (0, fun _ => ⟨⟨#[]⟩, false, (0, fun _ => 0)⟩) [.slice (some ⟨w.heap.size, 0, none⟩) 0 0] := (gat_lit0 (E := layThing) (t := 29) (fun _ => ⟨⟨#[]⟩, false, (0, fun _ => 0)⟩) w).own
  have CN := l1Next_any bs t v n f 5 (by omega) (by omega) (by omega) _ (h.chgTrans b0)
  have HB0 : Hid (Below w.heap.size w (w.alloc (.cells #[] 29))) := b0
  have HG0 : Hid (OwnT (layThing.slice 29) (w.alloc (.cells #[] 29)) w.heap.size (w.alloc (.cells #[] 29)).heap.size (0, fun _ => ⟨⟨#[]⟩, false, (0, fun _ => 0)⟩) [.slice (some ⟨w.heap.size, 0, none⟩) 0 0]) := G0
  clear h b0 G0
  go_enter Try.func11, Try.ntmps11
  go_wp2_with fail
  refine CN.mono ?_
  rintro e w1 ⟨r, hr, rfl, h1, c1⟩
  have HD1 : Hid (DrT w bs t v n f 0 1 (.slice (some ⟨w.heap.size, 0, none⟩) 0 0) w1) := ⟨_, t + 1, _, _, rfl, (HG0.out.chg c1 (.inr (by omega))).weaken (Nat.le_refl _) c1.size, by simp [szSl, sumN], h1, by omega, ⟨c1.os.trans HB0.out.os, c1.tape.trans HB0.out.tape, c1.output.trans HB0.out.output, Nat.le_trans HB0.out.size c1.size, fun b hb hn => (c1.block b (Nat.lt_of_lt_of_le hb HB0.out.size) hn).trans (HB0.out.block b hb)⟩⟩
  clear CN h1 c1
  go_wp2
  go_loopw [3, 4] (fun vo vk wr => ∃ j : Nat, j ≤ 4 ∧ vk = .int .i64 j ∧ DrT w bs t v n f (7 * (4 - j)) (1 + 20 * (4 - j)) vo wr) (fun _ vk _ => (intOf vk).toNat)
  case atStart => exact ⟨r, by omega, rfl, by
    obtain ⟨p, t', ao, c, e1, e2, e3, e4, e5, e6⟩ := HD1.out
    exact ⟨p, t', ao, c, e1, e2, by omega, e4, by omega, e6⟩⟩
  case round =>
    obtain ⟨j, hj, rfl, ⟨p, t', ao, c, rfl, ow, hsz, hs, ht', hc⟩⟩ := hrel
    obtain ⟨wx, rfl⟩ : ∃ y, y = wr := ⟨_, rfl⟩
    have zx := hc.size
    have HOW : Hid (OwnT (layThing.slice 29) wx w.heap.size wx.heap.size p [.slice ao p.1 c]) := ow
    have HS : Hid (SrcD wx bs t' v n f) := hs
    have HC : Hid (Chg bs (bs + 1) w wx) := hc
    clear ow hs hc HD1 HG0
    by_cases hlt : 0 < j
    · have hgt : (0 : Int) < (j : Int) := by omega
      go_wp2_with fail
      refine (l4Name_any bs t' v n f (by omega) wx HS.out).mono ?_
      rintro e w2 ⟨bn, rfl, hbn, s2, c2⟩
      have z2 := c2.size
      go_wp2_with fail
      refine (l1Next_any bs (t' + 1) v n f 4 (by omega) (by omega) (by omega) w2 s2).mono ?_
      rintro e w3 ⟨r3, hr3, rfl, s3, c3⟩
      have z3 := c3.size
      go_wp2_with fail
      refine (l1Some_any bs (t' + 1 + 1) v n f r3 (by omega) (by omega) w3 s3).mono ?_
      rintro e w4 ⟨v4, g4, rfl, o4, k4, s4, c4⟩
      have z4 := c4.size
      obtain ⟨ao4, cap4, rfl⟩ := o4.slice
      have OB := ownB_T o4 (Nat.le_refl _) k4
      have C24 : Chg bs (bs + 1) wx w4 := (c2.trans c3).trans c4
      have OW4 : OwnT (layThing.slice 29) w4 w.heap.size wx.heap.size p [.slice ao p.1 c] := HOW.out.chg C24 (.inr (by omega))
      obtain ⟨at_, hA⟩ := at_ex (dropL p bn).1 (dropL p bn).2 bn
      have CP := specPut_any p bn (r3, g4) at_ _ _ _ _ w4 OW4.rd OB.rd (by omega) (Nat.le_refl _) (by omega) (by omega) (show r3 ≤ 1048576 by omega) hA
      have HP : Hid (szSl szThingD (putL p bn (r3, g4) at_) ≤ 7 * (4 - (j - 1))) := by
        have := put_le (p := p) (bn := bn) (q := (r3, g4)) hA.le
        show _ ≤ _
        simp only at this
        omega
      have HS4 : Hid (SrcD w4 bs (t' + 1 + 1 + 3 * r3) v n f) := s4
      have HC4 : Hid (Chg bs (bs + 1) w w4) := HC.out.trans C24
      clear s2 c2 s3 c3 s4 c4 o4 k4 OB C24 OW4 hA
      go_wp2_with fail
      refine CP.mono ?_
      rintro e w5 ⟨v5, rfl, o5, b5⟩
      obtain ⟨ao5, cap5, hv5⟩ := sl_formT o5
      obtain rfl := one_eq hv5
      have HR : Hid (DrT w bs t v n f (7 * (4 - (j - 1))) (1 + 20 * (4 - (j - 1))) (.slice ao5 (putL p bn (r3, g4) at_).1 cap5) w5) := ⟨_, t' + 1 + 1 + 3 * r3, ao5, cap5, rfl, o5.weaken (by omega) (Nat.le_refl _), HP.out, HS4.out.chgTrans b5, by omega, HC4.out.also (b5.mono (by omega))⟩
      clear CP o5 b5 hv5
      go_wp2
      go_roundw
      case rel => exact ⟨j - 1, by omega, by go_num, HR.out⟩
      case measure => simp [intOf]; omega
    · obtain rfl : j = 0 := by omega
      have hsz' : szSl szThingD p ≤ 28 := by omega
      have ht2 : t' ≤ t + 81 := by omega
      clear hsz ht' hlt hj
      have hp1 := szSl_n hsz'
      have L0 : ¬ ((0 : Int) < ((0 : Nat) : Int)) := by omega
      go_upto_region 6 with fail
      go_cut [26] (fun cb wy => ∃ bb : Bool, cb = .bool bb ∧ (bb = true → p.1 ≠ 0) ∧ OwnT (layThing.slice 29) wy w.heap.size wx.heap.size p [.slice ao p.1 c] ∧ wx.heap.size ≤ wy.heap.size ∧ ∃ t2, SrcD wy bs t2 v n f ∧ t2 ≤ t + 82 ∧ Chg bs (bs + 1) w wy)
      case first =>
        by_cases h0 : p.1 = 0
        · have hz : ¬ ((0 : Int) < (p.1 : Int)) := by omega
          clear h0
          go_wp2
          go_meet
          exact ⟨false, rfl, (fun h => by cases h), HOW.out, Nat.le_refl _, t', HS.out, by omega, HC.out⟩
        · have hz : (0 : Int) < (p.1 : Int) := by omega
          go_wp2_with fail
          refine (l1Chance_any bs t' v n f 6 (by omega) (by omega) (by omega) wx HS.out).mono ?_
          rintro e w2 ⟨bb, rfl, s2, cg2⟩
          have HR : Hid (OwnT (layThing.slice 29) w2 w.heap.size wx.heap.size p [.slice ao p.1 c] ∧ wx.heap.size ≤ w2.heap.size ∧ ∃ t2, SrcD w2 bs t2 v n f ∧ t2 ≤ t + 82 ∧ Chg bs (bs + 1) w w2) := ⟨HOW.out.chg cg2 (.inr (by omega)), cg2.size, t' + 1, s2, by omega, HC.out.trans cg2⟩
          have H0 : Hid (p.1 ≠ 0) := h0
          clear s2 cg2 h0
          go_wp2
          go_meet
          exact ⟨bb, rfl, fun _ => H0.out, HR.out⟩
      case rest =>
        obtain ⟨bb, rfl, hb0, OW2, z2, t2, s2, ht3, c2⟩ := hcut
        have H0 : Hid (bb = true → p.1 ≠ 0) := hb0
        have HOW2 : Hid (OwnT (layThing.slice 29) wc w.heap.size wx.heap.size p [.slice ao p.1 c]) := OW2
        have HS2 : Hid (SrcD wc bs t2 v n f) := s2
        have HC2 : Hid (Chg bs (bs + 1) w wc) := c2
        obtain ⟨w2, rfl⟩ : ∃ y, y = wc := ⟨_, rfl⟩
        clear hb0 OW2 s2 c2 HOW HS HC
        go_upto_if 26 with fail
        go_cut [3] (fun vo wy => DrT w bs t v n f 28 90 vo wy)
        case first =>
          cases bb with
          | false =>
            have HR : Hid (DrT w bs t v n f 28 90 (.slice ao p.1 c) w2) := ⟨p, t2, ao, c, rfl, HOW2.out.weaken (Nat.le_refl _) z2, hsz', HS2.out, by omega, HC2.out⟩
            go_wp2
            go_meet
            exact HR.out
          | true =>
            have h0 := H0.out rfl
            obtain ⟨L, k1, k2, k3⟩ := HOW2.out
            obtain ⟨g, cap', ce, Ls, e9, eK, S⟩ := slice_form k1 h0
            simp only [List.cons.injEq, Value.slice.injEq, and_true, true_and] at e9
            obtain ⟨rfl, rfl⟩ := e9
            subst eK
            have SK := S.at_ 0
            obtain ⟨o9, c9, K9, hcs, hL, ob9, kn9⟩ := Thing_own (SK.own (by omega))
            rw [hcs] at SK
            have hg := (k3 g (List.mem_cons_self ..)).1
            have i2 : (0 : Int) < (p.1 : Int) := by omega
            have cc : w2.cell? ⟨g, 1, none⟩ = some (.bool (p.2 0).lost) := SK.cell (by omega) (show 1 < layThing.sz by decide)
            have cf : w2.frozen? ⟨g, 1, none⟩ = false := S.frozen 1
            have S2 := SK.store (a' := ⟨(p.2 0).name, true, (p.2 0).bytes⟩) k2 (by omega) (show 1 < layThing.sz by decide) (.bool true) (by rw [hL]; exact Thing_mk ⟨(p.2 0).name, true, (p.2 0).bytes⟩ ob9 kn9)
            have S3 : (layThing.slice 29).own (w2.setCell ⟨g, 1, none⟩ (.bool true)) (p.1, upd p.2 0 ⟨(p.2 0).name, true, (p.2 0).bytes⟩) [.slice (some ⟨g, 0, none⟩) p.1 c] (g :: catN p.1 Ls) := SlO.own S2
            have b9 : Below w.heap.size w2 (w2.setCell ⟨g, 1, none⟩ (.bool true)) := (Below.refl _ _).setCell hg _
            have HR : Hid (DrT w bs t v n f 28 90 (.slice (some ⟨g, 0, none⟩) p.1 c) (w2.setCell ⟨g, 1, none⟩ (.bool true))) := ⟨(p.1, upd p.2 0 ⟨(p.2 0).name, true, (p.2 0).bytes⟩), t2, _, c, rfl, ⟨_, S3, k2, fun b hb => ⟨(k3 b hb).1, by have := (k3 b hb).2; simp; omega⟩⟩, by
              have e8 : szSl szThingD (p.1, upd p.2 0 ⟨(p.2 0).name, true, (p.2 0).bytes⟩) = szSl szThingD p := by
                unfold szSl
                congr 1
                show sumN _ p.1 = sumN _ p.1
                congr 1
                funext i
                by_cases ci : i = 0
                · rw [ci]; show szThingD (upd p.2 0 _ 0) = _; rw [upd_at]; rfl
                · show szThingD (upd p.2 0 _ i) = _; rw [upd_ne _ _ ci]
              rw [e8]; exact hsz', HS2.out.bel b9 hbs, by omega, HC2.out.also b9⟩
            clear k1 k2 k3 S SK S2 S3 b9 ob9 hcs hL h0
            go_wp2
            go_meet
            exact HR.out
        case rest =>
          obtain ⟨p2, t3, ao2, c2, rfl, OW3, hsz3, s3, ht4, c3⟩ := hcut
          have HOW3 : Hid (OwnT (layThing.slice 29) wc w.heap.size wc.heap.size p2 [.slice ao2 p2.1 c2]) := OW3
          have HS3 : Hid (SrcD wc bs t3 v n f) := s3
          have HC3 : Hid (Chg bs (bs + 1) w wc) := c3
          have hp2 := szSl_n hsz3
          have z3w := c3.size
          obtain ⟨w3, rfl⟩ : ∃ y, y = wc := ⟨_, rfl⟩
          clear OW3 s3 c3 HOW2 HS2 HC2 H0
          go_upto_region 8 with fail
          go_cut [36] (fun cb wy => ∃ bb : Bool, cb = .bool bb ∧ (bb = true → p2.1 ≠ 0) ∧ OwnT (layThing.slice 29) wy w.heap.size w3.heap.size p2 [.slice ao2 p2.1 c2] ∧ w3.heap.size ≤ wy.heap.size ∧ ∃ t2, SrcD wy bs t2 v n f ∧ t2 ≤ t + 91 ∧ Chg bs (bs + 1) w wy)
          case first =>
            by_cases h0 : p2.1 = 0
            · have hz : ¬ ((0 : Int) < (p2.1 : Int)) := by omega
              clear h0
              go_wp2
              go_meet
              exact ⟨false, rfl, (fun h => by cases h), HOW3.out, Nat.le_refl _, t3, HS3.out, by omega, HC3.out⟩
            · have hz : (0 : Int) < (p2.1 : Int) := by omega
              go_wp2_with fail
              refine (l1Chance_any bs t3 v n f 8 (by omega) (by omega) (by omega) w3 HS3.out).mono ?_
              rintro e w2 ⟨bb, rfl, s2, cg2⟩
              have HR : Hid (OwnT (layThing.slice 29) w2 w.heap.size w3.heap.size p2 [.slice ao2 p2.1 c2] ∧ w3.heap.size ≤ w2.heap.size ∧ ∃ t2, SrcD w2 bs t2 v n f ∧ t2 ≤ t + 91 ∧ Chg bs (bs + 1) w w2) := ⟨HOW3.out.chg cg2 (.inr (by omega)), cg2.size, t3 + 1, s2, by omega, HC3.out.trans cg2⟩
              have H0 : Hid (p2.1 ≠ 0) := h0
              clear s2 cg2 h0
              go_wp2
              go_meet
              exact ⟨bb, rfl, fun _ => H0.out, HR.out⟩
          case rest =>
            obtain ⟨bb, rfl, hb0, OW4, z4, t4, s4, ht5, c4⟩ := hcut
            have H0 : Hid (bb = true → p2.1 ≠ 0) := hb0
            have HOW4 : Hid (OwnT (layThing.slice 29) wc w.heap.size w3.heap.size p2 [.slice ao2 p2.1 c2]) := OW4
            have HS4 : Hid (SrcD wc bs t4 v n f) := s4
            have HC4 : Hid (Chg bs (bs + 1) w wc) := c4
            obtain ⟨w4, rfl⟩ : ∃ y, y = wc := ⟨_, rfl⟩
            clear hb0 OW4 s4 c4 HOW3 HS3 HC3
            cases bb with
            | false =>
              have HR : Hid (∀ w2, Chg bs (bs + 1) w4 w2 → (layThing.slice 29).rd w2 w2.heap.size p2 [.slice ao2 p2.1 c2]) := fun w2 hc => (layThing.slice 29).rd_mono (HOW4.out.chg hc (.inr (by omega))).rd (Nat.le_trans z4 hc.size)
              go_wp2
              go_ret
              exact ⟨_, p2, t4, rfl, HR.out, by omega, HS4.out, by omega, HC4.out⟩
            | true =>
              have h0 := H0.out rfl
              obtain ⟨L, k1, k2, k3⟩ := HOW4.out
              obtain ⟨g, cap', ce, Ls, e9, eK, S⟩ := slice_form k1 h0
              simp only [List.cons.injEq, Value.slice.injEq, and_true, true_and] at e9
              obtain ⟨rfl, rfl⟩ := e9
              subst eK
              obtain ⟨o9, c9, hcs⟩ := Thing_cellsO (S.each 0 (by omega))
              have i2 : (0 : Int) < (p2.1 : Int) := by omega
              have hg := k3 g (List.mem_cons_self ..)
              have cc0 : w4.cell? ⟨g, 0, none⟩ = some (.string (p2.2 0).name) := by have := S.cell (i := 0) (j := 0) (by omega) (by decide); rw [hcs] at this; exact this
              have cc1 : w4.cell? ⟨g, 1, none⟩ = some (.bool (p2.2 0).lost) := by have := S.cell (i := 0) (j := 1) (by omega) (by decide); rw [hcs] at this; exact this
              have cc2 : w4.cell? ⟨g, 2, none⟩ = some (.slice o9 (p2.2 0).bytes.1 c9) := by have := S.cell (i := 0) (j := 2) (by omega) (by decide); rw [hcs] at this; exact this
              have bA : Below w4.heap.size w4 (w4.alloc (.cells #[.string (p2.2 0).name, .bool (p2.2 0).lost, .slice o9 (p2.2 0).bytes.1 c9] 29)) := (Below.refl _ _).alloc (Nat.le_refl _) _
              have XA : Box (w4.alloc (.cells #[.string (p2.2 0).name, .bool (p2.2 0).lost, .slice o9 (p2.2 0).bytes.1 c9] 29)) w4.heap.size ([.string (p2.2 0).name, .bool (p2.2 0).lost, .slice o9 (p2.2 0).bytes.1 c9] : List Value).toArray 29 := box_new _ _ _
              have VA := (S.raw (m := 3) rfl).below bA (Nat.zero_le _)
              obtain ⟨v', w', hrun, V', hgr, hb', hblk⟩ := run_appendW el_Raw3 rdOne_raw3 24 VA 1 (src_one (b := w4.heap.size) (hi := 0) (y := ([.string (p2.2 0).name, .bool (p2.2 0).lost, .slice o9 (p2.2 0).bytes.1 c9] : List Value)) (cs := [.string (p2.2 0).name, .bool (p2.2 0).lost, .slice o9 (p2.2 0).bytes.1 c9]) (fun j hj => by rw [XA.cell j]; simp) ⟨rfl, rfl, fun u hu => by
                simp only [List.mem_cons, List.not_mem_nil, or_false] at hu
                rcases hu with rfl | rfl | rfl <;> rfl⟩) (Nat.zero_le _) (Nat.le_refl _) (by omega) (fun h => by cases h)
              obtain ⟨ao5, c5, rfl⟩ := V'.form
              have hz4' := HC4.out.size
              have hown : ∀ w2, Chg bs (bs + 1) w' w2 → ∀ i, i < p2.1 → layThing.rd w2 w2.heap.size (p2.2 i) (ce i) := fun w2 hc i hi => by
                have h1 := S.each i hi
                refine layThing.own_rd (layThing.own_kept h1 (fun b hb => ?_)) (fun b hb => ?_)
                · have hlt := layThing.own_lt h1 b hb
                  have hlo := (k3 b (List.mem_cons_of_mem _ (mem_catN.2 ⟨i, hi, hb⟩))).1
                  have hlt' : b < w'.heap.size := Nat.lt_of_lt_of_le hlt (Nat.le_trans bA.size hgr.size)
                  rw [hc.block b hlt' (.inr (by omega)), hgr.block b (Nat.lt_of_lt_of_le hlt bA.size) (fun h => by
                    have e : b = g := by simpa [Value.ownBlock] using h
                    exact (List.nodup_cons.1 k2).1 (mem_catN.2 ⟨i, hi, by rw [← e]; exact hb⟩)), bA.block b hlt]
                · exact Nat.lt_of_lt_of_le (layThing.own_lt h1 b hb) (Nat.le_trans (Nat.le_trans bA.size hgr.size) hc.size)
              have VT : ∀ w2, Chg bs (bs + 1) w' w2 → View layThing 29 w2 0 w2.heap.size (.slice ao5 (p2.1 + 1) c5) (p2.1 + 1) (cat2 p2.2 p2.1 (fun _ => p2.2 0)) (cat2 ce p2.1 (fun _ => [.string (p2.2 0).name, .bool (p2.2 0).lost, .slice o9 (p2.2 0).bytes.1 c9])) := fun w2 hc => ⟨(V'.kept (fun b hb => hc.block b (V'.row.lt b hb).2 (.inr (by
                  rcases hblk with h | h
                  · rw [h] at hb
                    have e : b = g := by simpa [Value.ownBlock] using hb.symm
                    rw [e]; have := hg.1; omega
                  · rw [h] at hb
                    have e : b = (w4.alloc (.cells #[.string (p2.2 0).name, .bool (p2.2 0).lost, .slice o9 (p2.2 0).bytes.1 c9] 29)).heap.size := by simpa using hb.symm
                    have := bA.size
                    omega))) (hc.bel (B := 0) (Nat.zero_le _) (Nat.zero_le _))).row, fun i hi => by
                by_cases ci : i < p2.1
                · rw [cat2_lt _ _ ci, cat2_lt _ _ ci]; exact hown w2 hc i ci
                · obtain rfl : i = p2.1 := by omega
                  have e1 := cat2_ge p2.2 p2.1 (fun _ => p2.2 0) 0
                  have e2 := cat2_ge ce p2.1 (fun _ => ([.string (p2.2 0).name, .bool (p2.2 0).lost, .slice o9 (p2.2 0).bytes.1 c9] : List Value)) 0
                  rw [Nat.add_zero] at e1 e2
                  rw [e1, e2, ← hcs]
                  exact hown w2 hc 0 (by omega)⟩
              have HR : Hid (∀ w2, Chg bs (bs + 1) w' w2 → (layThing.slice 29).rd w2 w2.heap.size (p2.1 + 1, cat2 p2.2 p2.1 (fun _ => p2.2 0)) [.slice ao5 (p2.1 + 1) c5]) := fun w2 hc => (VT w2 hc).rd (Nat.le_refl _)
              have hz9 : szSl szThingD (p2.1 + 1, cat2 p2.2 p2.1 (fun _ => p2.2 0)) ≤ 100 := by
                have e1 : sumN (fun i => szThingD (cat2 p2.2 p2.1 (fun _ => p2.2 0) i)) (p2.1 + 1) = sumN (fun i => szThingD (p2.2 i)) p2.1 + szThingD (p2.2 0) := by
                  have e3 : ∀ m, m ≤ p2.1 → sumN (fun i => szThingD (cat2 p2.2 p2.1 (fun _ => p2.2 0) i)) m = sumN (fun i => szThingD (p2.2 i)) m := fun m => by
                    induction m with
                    | zero => intro _; rfl
                    | succ m ih => intro hm; rw [sumN_succ, sumN_succ, ih (by omega), cat2_lt _ _ (by omega)]
                  have e4 := cat2_ge p2.2 p2.1 (fun _ => p2.2 0) 0
                  rw [Nat.add_zero] at e4
                  rw [sumN_succ, e3 _ (Nat.le_refl _), e4]
                have e2 := szSl_at hsz3 (i := 0) (by omega)
                have e5 := hsz3
                unfold szSl at e5 ⊢
                simp only at e1 ⊢
                omega
              have HZ : Hid (szSl szThingD (p2.1 + 1, cat2 p2.2 p2.1 (fun _ => p2.2 0)) ≤ 100) := hz9
              have b9 : Below w.heap.size w4 w' := by
                have hz4 := HC4.out.size
                refine (bA.mono hz4).trans ((Below.refl _ _).grown hgr (Nat.le_trans hz4 bA.size) (fun k hk => ?_))
                have e : k = g := by simpa [Value.ownBlock] using hk.symm
                rw [e]; exact hg.1
              have HS9 : Hid (SrcD w' bs t4 v n f) := HS4.out.bel b9 hbs
              have HC9 : Hid (Chg bs (bs + 1) w w') := HC4.out.also b9
              clear k1 k2 k3 S VA V' hgr hb' hblk hown VT hz9 b9 XA bA hcs hg h0
              go_wp2_with (at_builtin; refine wp_run2 rfl (.tmp 37) (.tmp 41) rfl ?_ ?_ hrun ?_; (simp [Act.eval]); (simp [Act.eval]))
              go_ret
              exact ⟨_, _, t4, rfl, HR.out, HZ.out, HS9.out, by omega, HC9.out⟩
/-- what DrawPutThing hands back -/
def DrwP (w : World) (e : Ending) (w' : World) : Prop := ∃ (vl : Value) (p : Nat × (Nat → ThingD)) (bn : ByteArray) (vb : Value) (N : Nat) (g : Nat → Nat), e = .returned (.tuple #[vl, .string bn, vb]) ∧ (layThing.slice 29).rd w' w'.heap.size p [vl] ∧ szSl szThingD p ≤ 100 ∧ bn.size ≤ 3 ∧ N ≤ 3 ∧ layBytes.rd w' w'.heap.size (N, g) [vb] ∧ Below w.heap.size w w'
set_option maxHeartbeats 8000000 in
set_option maxRecDepth 20000 in
theorem drawPut_any (v : Value) (n : Nat) (f : Nat → Nat) (w : World) (h : Rd w w.heap.size v n f) (kf : ∀ i, f i < 256) (hn : n ≤ 1048576) : Calls Try.prog 5 #[v] w (DrwP w) := by
  have CS := l1Source_any v n f w h kf hn
  obtain ⟨ao, cap, rfl, -⟩ := h
  go_enter Try.func5, Try.ntmps5
  go_wp2_with fail
  refine CS.mono ?_
  rintro e w1 ⟨rfl, s1, b1⟩
  have hbs := s1.1.lt
  have HB1 : Hid (Below w.heap.size w w1) := b1
  go_wp2_with fail
  refine (l13Things_any w.heap.size 0 _ n f (by omega) w1 s1).mono ?_
  rintro e w2 ⟨v2, p, t2, rfl, R2, hsz, s2, ht2, c2⟩
  have z2 := c2.size
  have HR2 : Hid (∀ w3, Chg w.heap.size (w.heap.size + 1) w2 w3 → (layThing.slice 29).rd w3 w3.heap.size p [v2]) := R2
  obtain ⟨a2, k2, hv2⟩ := sl_form (R2 w2 ⟨rfl, rfl, rfl, Nat.le_refl _, fun _ _ _ => rfl⟩)
  obtain rfl := one_eq hv2
  clear R2 hv2
  go_wp2_with fail
  refine (l4Name_any w.heap.size t2 _ n f (by omega) w2 s2).mono ?_
  rintro e w3 ⟨bn, rfl, hbn, s3, c3⟩
  have z3 := c3.size
  go_wp2_with fail
  refine (l1Next_any w.heap.size (t2 + 1) _ n f 4 (by omega) (by omega) (by omega) w3 s3).mono ?_
  rintro e w4 ⟨r4, hr4, rfl, s4, c4⟩
  have z4 := c4.size
  go_wp2_with fail
  refine (l1Some_any w.heap.size (t2 + 1 + 1) _ n f r4 (by omega) (by omega) w4 s4).mono ?_
  rintro e w5 ⟨v5, g5, rfl, o5, k5, s5, c5⟩
  have z5 := c5.size
  obtain ⟨ao5, cap5, rfl⟩ := o5.slice
  have HR : Hid ((layThing.slice 29).rd w5 w5.heap.size p [.slice a2 p.1 k2]) := HR2.out w5 ((c3.trans c4).trans c5)
  have HO : Hid (layBytes.rd w5 w5.heap.size (r4, g5) [.slice ao5 r4 cap5]) := (ownB_T o5 (Nat.le_refl _) k5).rd
  have HB5 : Hid (Below w.heap.size w w5) := HB1.out.trans ((((c2.trans c3).trans c4).trans c5).bel (Nat.le_refl _) HB1.out.size)
  clear s1 s2 s3 s4 s5 c2 c3 c4 c5 o5 k5 CS b1 HR2
  go_wp2
  refine bodyPost_ret (v := .tuple #[.slice a2 p.1 k2, .string bn, .slice ao5 r4 cap5]) (by simp [results, Try.results5, go_sem]) rfl ?_
  exact ⟨_, p, bn, _, r4, g5, rfl, HR.out, hsz, hbn, by omega, HO.out, HB5.out⟩
end Go.Proofs.Ytopaofcpjiicmaa

namespace Go.Proofs.Ytopaofcpjiicmaa
open Go.RowKit F256
set_option linter.unusedVariables false
set_option linter.unusedSimpArgs false
theorem kept_but (i : Nat) (p : Nat → Bool) (hp : ∀ k, p k = !(k == i)) : ∀ k, (keptI p (i + 1 + k)).length = i + k ∧ ∀ m, m < i + k → selF p (i + 1 + k) m = if m < i then m else m + 1
  | 0 => by
    have ha : ∀ t, t < i → p t = true := fun t ht => by rw [hp]; simp; omega
    have hi : p i = false := by rw [hp]; simp
    have e : keptI p (i + 1) = keptI p i := kept_skip hi
    refine ⟨by rw [Nat.add_zero, e, kept_all ha]; simp, fun m hm => ?_⟩
    have h1 : selF p (i + 1) m = selF p i m := by unfold selF; rw [e]
    rw [Nat.add_zero, h1, sel_all ha (by omega), if_pos (by omega)]
  | k + 1 => by
    obtain ⟨h1, h2⟩ := kept_but i p hp k
    have hk : p (i + 1 + k) = true := by rw [hp]; simp; omega
    have e : i + 1 + (k + 1) = (i + 1 + k) + 1 := by omega
    rw [e]
    refine ⟨by rw [kept_succ, if_pos hk, List.length_append, h1]; simp; omega, fun m hm => ?_⟩
    by_cases c : m < i + k
    · rw [selF_more (by rw [h1]; exact c), h2 m c]
    · obtain rfl : m = i + k := by omega
      have := selF_last (p := p) (n := i + 1 + k) hk
      rw [h1] at this
      rw [this, if_neg (by omega)]
      omega
theorem drop_name (p : Nat × (Nat → ThingD)) (bn : ByteArray) {m : Nat} (hm : m < (dropL p bn).1) : keepT bn ((dropL p bn).2 m) = true := by
  have := selF_mem (p := fun i => keepT bn (p.2 i)) (n := p.1) (m := m) hm
  unfold keptI at this
  exact (List.mem_filter.1 this).2
/-- what is put and dropped again is what it was -/
theorem put_drop (d : Nat × (Nat → ThingD)) (bn : ByteArray) (q : Nat × (Nat → Nat)) {i : Nat} (hi : i ≤ d.1) (hd : ∀ m, m < d.1 → keepT bn (d.2 m) = true) :
    (dropL (putD d bn q i) bn).1 = d.1 ∧ ∀ m, m < d.1 → (dropL (putD d bn q i) bn).2 m = d.2 m := by
  have hself : keepT bn ⟨bn, false, q⟩ = false := by unfold keepT; simp
  have hp : ∀ k, k < d.1 + 1 → keepT bn (insF d.2 i ⟨bn, false, q⟩ k) = !(k == i) := fun k hk => by
    by_cases c1 : k < i
    · rw [insF_lt _ _ c1, hd k (by omega)]; simp; omega
    · by_cases c2 : k = i
      · rw [c2, insF_at, hself]; simp
      · obtain ⟨j, rfl⟩ : ∃ j, k = i + 1 + j := ⟨k - (i + 1), by omega⟩
        rw [insF_gt, hd _ (by omega)]; simp; omega
  have key := kept_but i (fun k => !(k == i)) (fun _ => rfl) (d.1 - i)
  rw [show i + 1 + (d.1 - i) = d.1 + 1 by omega, show i + (d.1 - i) = d.1 by omega] at key
  have ek : keptI (fun k => keepT bn (insF d.2 i ⟨bn, false, q⟩ k)) (d.1 + 1) = keptI (fun k => !(k == i)) (d.1 + 1) := by
    unfold keptI
    exact List.filter_congr (fun k hk => hp k (List.mem_range.1 hk))
  have es : ∀ m, selF (fun k => keepT bn (insF d.2 i ⟨bn, false, q⟩ k)) (d.1 + 1) m = selF (fun k => !(k == i)) (d.1 + 1) m := fun m => by unfold selF; rw [ek]
  refine ⟨?_, fun m hm => ?_⟩
  · show (keptI (fun k => keepT bn (insF d.2 i ⟨bn, false, q⟩ k)) (d.1 + 1)).length = d.1
    rw [ek, key.1]
  · show insF d.2 i ⟨bn, false, q⟩ (selF (fun k => keepT bn (insF d.2 i ⟨bn, false, q⟩ k)) (d.1 + 1) m) = d.2 m
    rw [es, key.2 m hm]
    by_cases c : m < i
    · rw [if_pos c, insF_lt _ _ c]
    · rw [if_neg c]
      obtain ⟨j, rfl⟩ : ∃ j, m = i + j := ⟨m - i, by omega⟩
      rw [show i + j + 1 = i + 1 + j by omega, insF_gt]
theorem sameT_refl (a : ThingD) : SameT a a := ⟨rfl, rfl, rfl, fun _ _ => rfl⟩
set_option maxHeartbeats 400000 in
theorem lwBytes_same (v1 v2 : Value) (n : Nat) (f : Nat → Nat) (h1 h2 : Nat) (w : World) (r1 : Rd w h1 v1 n f) (r2 : Rd w h2 v2 n f) :
    Calls Try.prog 7 #[v1, v2] w fun e w' => e = .returned (.bool true) ∧ Below w.heap.size w w' := by
  obtain ⟨ao, cap, rfl, hm, hc⟩ := r1
  obtain ⟨ao2, cap2, rfl, _, hc2⟩ := r2
  unfold maxLen at hm
  go_enter Try.func7, Try.ntmps7
  go_wp2
  go_loopw [5] (fun i wr => ∃ k : Nat, k ≤ n ∧ i = .int .i64 k ∧ ∃ m, wr = w.drewN m) (fun i _ => n - (intOf i).toNat)
  case atStart => exact ⟨0, Nat.zero_le _, rfl, 0, rfl⟩
  case round =>
    obtain ⟨k, hk, rfl, m, rfl⟩ := hrel
    by_cases hlt : k < n
    · obtain ⟨b, off, rfl, hblt, hcell⟩ := hc (by omega)
      obtain ⟨b2, off2, rfl, hblt2, hcell2⟩ := hc2 (by omega)
      have hck : w.cell? ⟨b, off + k, none⟩ = some (.int .u8 (f k)) := hcell k hlt
      have hck2 : w.cell? ⟨b2, off2 + k, none⟩ = some (.int .u8 (f k)) := hcell2 k hlt
      clear hc hc2 hcell hcell2
      go_wp2
      go_quiet (fail)
      go_wp2
      go_roundw
      case rel => exact ⟨k + 1, by omega, by go_num, _, rfl⟩
      case measure => simp [intOf]; omega
    · have hkn : k = n := by omega
      subst hkn
      go_wp2
      go_ret
      exact ⟨rfl, below_drewN (Below.refl _ _) _⟩
end Go.Proofs.Ytopaofcpjiicmaa

namespace Go.Proofs.Ytopaofcpjiicmaa
open Go.RowKit F256
set_option linter.unusedVariables false
set_option linter.unusedSimpArgs false
set_option maxHeartbeats 8000000 in
set_option maxRecDepth 20000 in
theorem fnThings_core (v : Value) (n0 : Nat) (f0 : Nat → Nat) (k0 : ∀ i, f0 i < 256) (w : World) (r0 : Rd w w.heap.size v n0 f0) :
    Calls Try.prog 3 #[v] w fun e w' => e = .returned (.bool true) ∧ Below w.heap.size w w' := by
  by_cases hbig : 1048576 < n0
  · go_enter Try.func3, Try.ntmps3
    go_wp2_with fail
    refine (lwBig_yes _ n0 f0 _ _ r0 hbig).mono ?_
    rintro e w1 ⟨rfl, hw1⟩
    obtain rfl := hw1.symm
    go_wp2
    go_ret
    exact ⟨rfl, Below.refl _ _⟩
  go_enter Try.func3, Try.ntmps3
  go_wp2_with fail
  refine (lwBig_no _ n0 f0 _ _ r0 (by omega)).mono ?_
  rintro e w1 ⟨rfl, hw1⟩
  obtain rfl := hw1.symm
  go_wp2_with fail
  refine (drawPut_any _ n0 f0 _ r0 k0 (by omega)).mono ?_
  rintro e w1 ⟨vl, p, bn, vb, N, g0, rfl, R1, hsz, hbn, hN, R2, b1⟩
  obtain ⟨al, cl, hv1⟩ := sl_form R1
  obtain rfl := one_eq hv1
  obtain ⟨ab, cb, hv2⟩ := bytes_form R2
  obtain rfl := one_eq hv2
  have HR1 : Hid ((layThing.slice 29).rd w1 w1.heap.size p [.slice al p.1 cl]) := R1
  have HR2 : Hid (layBytes.rd w1 w1.heap.size (N, g0) [.slice ab N cb]) := R2
  have HB1 : Hid (Below w.heap.size w w1) := b1
  have z1 := b1.size
  obtain ⟨at_, hA⟩ := at_ex (dropL p bn).1 (dropL p bn).2 bn
  have CP := implPut_any p bn (N, g0) at_ _ _ _ _ w1 R1 R2 (Nat.le_refl _) (Nat.le_refl _) (by omega) (by omega) (show N ≤ 1048576 by omega) hA
  have HNM : Hid (∀ m, m < (dropL p bn).1 → keepT bn ((dropL p bn).2 m) = true) := fun m hm => drop_name p bn hm
  have hpz := put_le (p := p) (bn := bn) (q := (N, g0)) hA.le
  have hdz := drop_le p bn
  have CDl := fun w' (hb : Below w1.heap.size w1 w') => implDrop_any p bn _ _ w' ((layThing.slice 29).rd_below HR1.out hb (Nat.le_refl _)) hb.size (by omega)
  unfold putL at CP hpz
  obtain ⟨d, hd⟩ : ∃ d, d = dropL p bn := ⟨_, rfl⟩
  rw [← hd] at CP HNM hA hpz hdz CDl
  have hat := hA.le
  have hd1 := szSl_n (Nat.le_trans hdz hsz)
  have hpz' : szSl szThingD (putD d bn (N, g0) at_) ≤ 1048576 := by
    simp only at hpz
    omega
  have HCD : Hid (∀ w', Below w1.heap.size w1 w' → Calls Try.prog 8 #[.slice al p.1 cl, .string bn] w' fun e w'' => ∃ v', e = .returned v' ∧ OwnT (layThing.slice 29) w'' w'.heap.size w''.heap.size d [v'] ∧ Below w'.heap.size w' w'') := CDl
  clear R1 R2 b1 hv1 hv2 hd hA hpz hdz CDl r0
  go_wp2_with fail
  refine CP.mono ?_
  rintro e w2 ⟨v2, rfl, o2, b2⟩
  obtain ⟨a2, c2, hv⟩ := sl_formT o2
  have hv' : v2 = .slice a2 (d.1 + 1) c2 := one_eq hv
  subst hv'
  have HO2 : Hid (OwnT (layThing.slice 29) w2 w1.heap.size w2.heap.size (putD d bn (N, g0) at_) [.slice a2 (d.1 + 1) c2]) := o2
  have HB2 : Hid (Below w1.heap.size w1 w2) := b2
  have z2 := b2.size
  have HEL : Hid (∃ g, a2 = some ⟨g, 0, none⟩ ∧ g < w2.heap.size ∧ ∀ i, i < d.1 + 1 → ∃ o c, w2.cell? ⟨g, i * 3, none⟩ = some (.string (insF d.2 at_ ⟨bn, false, (N, g0)⟩ i).name) ∧ w2.cell? ⟨g, i * 3 + 1, none⟩ = some (.bool (insF d.2 at_ ⟨bn, false, (N, g0)⟩ i).lost) ∧ w2.cell? ⟨g, i * 3 + 2, none⟩ = some (.slice o (insF d.2 at_ ⟨bn, false, (N, g0)⟩ i).bytes.1 c) ∧ layBytes.rd w2 w2.heap.size (insF d.2 at_ ⟨bn, false, (N, g0)⟩ i).bytes [.slice o (insF d.2 at_ ⟨bn, false, (N, g0)⟩ i).bytes.1 c]) := by
    obtain ⟨L, k1, k2, k3⟩ := o2
    obtain ⟨g, cap', ce, Ls, e9, eK, S⟩ := slice_form k1 (show d.1 + 1 ≠ 0 by omega)
    simp only [List.cons.injEq, Value.slice.injEq, and_true] at e9
    refine ⟨g, e9.1, S.lt, fun i hi => ?_⟩
    have h1 := S.each i hi
    obtain ⟨o9, c9, K9, hcs, hL, ob9, kn9⟩ := Thing_own h1
    refine ⟨o9, c9, ?_, ?_, ?_, layBytes.own_rd ob9 (layBytes.own_lt ob9)⟩
    · have := S.cell (i := i) (j := 0) hi (by decide); rw [hcs] at this; exact this
    · have := S.cell (i := i) (j := 1) hi (by decide); rw [hcs] at this; exact this
    · have := S.cell (i := i) (j := 2) hi (by decide); rw [hcs] at this; exact this
  have CD2 := implDrop_any (putD d bn (N, g0) at_) bn _ _ w2 o2.rd (Nat.le_refl _) hpz'
  clear CP o2 b2 hv
  obtain ⟨g, rfl, hgl, hel⟩ := HEL.out
  have HEL2 : Hid (∀ i, i < d.1 + 1 → ∃ o c, w2.cell? ⟨g, i * 3, none⟩ = some (.string (insF d.2 at_ ⟨bn, false, (N, g0)⟩ i).name) ∧ w2.cell? ⟨g, i * 3 + 1, none⟩ = some (.bool (insF d.2 at_ ⟨bn, false, (N, g0)⟩ i).lost) ∧ w2.cell? ⟨g, i * 3 + 2, none⟩ = some (.slice o (insF d.2 at_ ⟨bn, false, (N, g0)⟩ i).bytes.1 c) ∧ layBytes.rd w2 w2.heap.size (insF d.2 at_ ⟨bn, false, (N, g0)⟩ i).bytes [.slice o (insF d.2 at_ ⟨bn, false, (N, g0)⟩ i).bytes.1 c]) := hel
  clear hel HEL
  go_wp2
  go_loopw [7, 8] (fun vn vi wr => ∃ k : Nat, k ≤ d.1 + 1 ∧ vi = .int .i64 k ∧ vn = .int .i64 (if at_ < k then 1 else 0) ∧ Below w2.heap.size w2 wr) (fun _ vi _ => d.1 + 1 - (intOf vi).toNat)
  case atStart => exact ⟨0, Nat.zero_le _, rfl, by rw [if_neg (by omega)], Below.refl _ _⟩
  case round =>
    obtain ⟨k, hk, rfl, rfl, hb⟩ := hrel
    obtain ⟨wx, rfl⟩ : ∃ y, y = wr := ⟨_, rfl⟩
    have HBX : Hid (Below w2.heap.size w2 wx) := hb
    have zx := hb.size
    by_cases hlt : k < d.1 + 1
    · obtain ⟨o9, c9, e0, e1, e2, rb⟩ := HEL2.out k hlt
      have x0 : wx.cell? ⟨g, k * 3, none⟩ = _ := (hb.cell (p := ⟨g, k * 3, none⟩) hgl).trans e0
      have x1 : wx.cell? ⟨g, k * 3 + 1, none⟩ = _ := (hb.cell (p := ⟨g, k * 3 + 1, none⟩) hgl).trans e1
      have x2 : wx.cell? ⟨g, k * 3 + 2, none⟩ = _ := (hb.cell (p := ⟨g, k * 3 + 2, none⟩) hgl).trans e2
      have RB := layBytes.rd_below rb hb (Nat.le_refl _)
      have i1 : (0 : Int) ≤ (k : Int) := by omega
      have i2 : (k : Int) < (d.1 : Int) + 1 := by omega
      clear e0 e1 e2 rb hb
      by_cases ck : k = at_
      · subst ck
        rw [insF_at] at x0 x1 x2 RB
        have RV := layBytes.rd_below HR2.out (HB2.out.trans (HBX.out.mono z2)) (Nat.le_refl _)
        obtain ⟨_, e8, r8, _⟩ := RB
        cases e8
        obtain ⟨_, e7, r7, _⟩ := RV
        cases e7
        have CW := lwBytes_same _ _ N g0 _ _ wx r8 r7
        have hn0 : (if k < k then (1 : Int) else 0) = 0 := if_neg (by omega)
        have hn1 : Hid ((if k < k + 1 then (1 : Int) else 0) = 1) := if_pos (by omega)
        rw [hn0]
        clear r8 r7
        have hself : (bn.toList == bn.toList) = true := by simp
        go_wp2_with fail
        refine CW.mono ?_
        rintro e w3 ⟨rfl, b3⟩
        have HB3 : Hid (Below w2.heap.size w2 w3) := HBX.out.trans (b3.mono zx)
        clear CW b3 x0 x1 x2
        go_wp2
        go_roundw
        case rel => exact ⟨k + 1, by omega, by go_num, by rw [hn1.out], HB3.out⟩
        case measure => simp [intOf]; omega
      · have hne : (insF d.2 at_ ⟨bn, false, (N, g0)⟩ k).name.toList = bn.toList → False := fun he => by
          have hkp : keepT bn (insF d.2 at_ ⟨bn, false, (N, g0)⟩ k) = true := by
            by_cases c1 : k < at_
            · rw [insF_lt _ _ c1]; exact HNM.out k (by omega)
            · obtain ⟨j, rfl⟩ : ∃ j, k = at_ + 1 + j := ⟨k - (at_ + 1), by omega⟩
              rw [insF_gt]; exact HNM.out _ (by omega)
          unfold keepT at hkp
          rw [he] at hkp
          simp at hkp
        obtain ⟨nm, hnm⟩ : ∃ z, z = (insF d.2 at_ ⟨bn, false, (N, g0)⟩ k).name := ⟨_, rfl⟩
        rw [← hnm] at x0 hne
        have hq1 : (nm.toList == bn.toList) = false := by simp; exact hne
        have hq2 : decide (nm.toList = bn.toList) = false := decide_eq_false hne
        have HI : Hid ((if at_ < k + 1 then (1 : Int) else 0) = (if at_ < k then (1 : Int) else 0)) := by
          show _ = _
          by_cases c1 : at_ < k
          · rw [if_pos (by omega), if_pos c1]
          · rw [if_neg (by omega), if_neg c1]
        obtain ⟨cn, hcn⟩ : ∃ z, z = (if at_ < k then (1 : Int) else 0) := ⟨_, rfl⟩
        rw [← hcn]
        have HCN : Hid (cn = (if at_ < k then (1 : Int) else 0)) := hcn
        clear x1 x2 RB hne hnm hcn ck
        go_wp2
        go_roundw
        case rel => exact ⟨k + 1, by omega, by go_num, by rw [HI.out, HCN.out], HBX.out⟩
        case measure => simp [intOf]; omega
    · obtain rfl : k = d.1 + 1 := by omega
      have hn1 : (if at_ < d.1 + 1 then (1 : Int) else 0) = 1 := if_pos (by omega)
      rw [hn1]
      have CD3 := implDrop_any (putD d bn (N, g0) at_) bn (.slice (some ⟨g, 0, none⟩) (d.1 + 1) c2) _ wx ((layThing.slice 29).rd_below HO2.out.rd HBX.out (Nat.le_refl _)) zx hpz'
      have PD := put_drop d bn (N, g0) hat HNM.out
      obtain ⟨⟨m3, y3⟩, hD3⟩ : ∃ x, x = dropL (putD d bn (N, g0) at_) bn := ⟨_, rfl⟩
      rw [← hD3] at CD3 PD
      simp only at PD
      obtain ⟨hm3, hy3⟩ := PD
      subst hm3
      have HY3 : Hid (SameTs (d.1, y3) d) := ⟨rfl, fun i hi => by rw [show (d.1, y3).2 i = d.2 i from hy3 i hi]; exact sameT_refl _⟩
      have HPP : Hid (SameTs (putD d bn (N, g0) at_) (putD d bn (N, g0) at_)) := ⟨rfl, fun i _ => sameT_refl _⟩
      have hw : IntKind.i64.wrap ((d.1 : Int) + 1 - 1) = (d.1 : Int) := by rw [IntKind.wrap_i64]; omega
      have hw2 : (d.1 : Int) + 1 - 1 = (d.1 : Int) := by omega
      clear CD2 hb hlt hk hn1 hD3 hy3
      go_wp2_with fail
      refine CD3.mono ?_
      rintro e w3 ⟨v3, rfl, o3, b3⟩
      obtain ⟨a3, c3, hv3⟩ := sl_formT o3
      have hv3' : v3 = .slice a3 d.1 c3 := one_eq hv3
      subst hv3'
      have z3 := b3.size
      have HO3 : Hid (OwnT (layThing.slice 29) w3 wx.heap.size w3.heap.size (d.1, y3) [.slice a3 d.1 c3]) := o3
      have HB13 : Hid (Below w1.heap.size w1 w3) := (HB2.out.trans (HBX.out.mono z2)).trans (b3.mono (by omega))
      have HB23 : Hid (Below w2.heap.size w2 w3) := HBX.out.trans (b3.mono zx)
      clear CD3 o3 b3 hv3
      go_wp2_with fail
      refine (HCD.out w3 HB13.out).mono ?_
      rintro e w4 ⟨v4, rfl, o4, b4⟩
      obtain ⟨a4, c4, hv4⟩ := sl_formT o4
      obtain rfl := one_eq hv4
      have z4 := b4.size
      have CS1 := det_b (b := true) (implSameTs_any (d.1, y3) d _ _ _ _ w4 (HO3.out.call b4).rd o4.rd (by omega) (Nat.le_refl _)) ⟨fun _ => HY3.out, fun _ => rfl⟩
      have HB24 : Hid (Below w2.heap.size w2 w4) := HB23.out.trans (b4.mono (by omega))
      clear o4 b4 hv4
      go_wp2_with fail
      refine CS1.mono ?_
      rintro e w5 ⟨rfl, b5⟩
      have z5 := b5.size
      have HB25 : Hid (Below w2.heap.size w2 w5) := HB24.out.trans (b5.mono (by omega))
      have RP := (layThing.slice 29).rd_below HO2.out.rd HB25.out (Nat.le_refl _)
      have CS2 := det_b (b := true) (implSameTs_any (putD d bn (N, g0) at_) (putD d bn (N, g0) at_) (.slice (some ⟨g, 0, none⟩) (d.1 + 1) c2) (.slice (some ⟨g, 0, none⟩) (d.1 + 1) c2) _ _ w5 RP RP (by omega) (by omega)) ⟨fun _ => HPP.out, fun _ => rfl⟩
      clear CS1 b5 RP
      go_wp2_with fail
      refine CS2.mono ?_
      rintro e w6 ⟨rfl, b6⟩
      have HF : Hid (Below w.heap.size w w6) := HB1.out.trans ((HB2.out.mono z1).trans ((HB25.out.trans (b6.mono (by omega))).mono (by omega)))
      clear b6 CS2
      go_wp2
      go_ret
      exact ⟨rfl, HF.out⟩
end Go.Proofs.Ytopaofcpjiicmaa
