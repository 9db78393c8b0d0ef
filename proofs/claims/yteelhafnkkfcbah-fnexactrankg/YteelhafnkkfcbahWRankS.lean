/- Walk of the specification's RankG. -/
import Derived.Test.YteelhafnkkfcbahWStep
import Derived.Test.YteelhafnkkfcbahWRankI
namespace Go.Proofs.Yteelhafnkkfcbah
open Go.RowKit F256
set_option linter.unusedVariables false
set_option linter.unusedSimpArgs false

/-- append(v, x...), v empty and the call's own, x a slice that the call owns -/
theorem wp_appendC {ops : Array Oper} {rest : List Oper} {o : Oper} {a : Act} {w : World} {Q : Exit → Act → World → Prop}
    (hg : o.guard = none) (s x : Operand) (hop : o.op = Op.call { callee := Callee.builtin Builtin.append, args := #[s, x], argTypes := #[23, 23] })
    (lo hi : Nat) (v : Value) (z : Nat → Nat) (hs : a.eval s = v) (hown : Own w lo hi v 0 z) (lo2 hi2 : Nat) (xv : Value) (m : Nat) (f : Nat → Nat) (hx : a.eval x = xv) (hox : Own w lo2 hi2 xv m f)
    (hm : m ≤ 1000000) (hlo : lo ≤ w.heap.size)
    (hK : ∀ v' w', Own w' lo w'.heap.size v' m f → Below lo w w' → wpList Try.prog ops Q rest (a.put o.dst v') w') : wpList Try.prog ops Q (o :: rest) a w := by
  obtain ⟨i0, hi0, hz0, hz1, hz2⟩ := info_parts info_u8
  have key : ∃ v' w', (Builtin.append_ #[23, 23] o.type #[v, xv]).run Try.prog w = .ok v' w' ∧ Own w' lo w'.heap.size v' m f ∧ Below lo w w' := by
    rcases hox.1.2 with ⟨rfl, rfl⟩ | ⟨g, cap, cur, rfl, hbg, hgg, hnc, hcm, hcs, htake⟩
    · have hr := run_append_owned_none (P := Try.prog) w lo 23 o.type 5 i0 1 Try.underlying23 hi0 v 0 _ hown.1
      refine ⟨v, w, hr, ?_, Below.refl _ _⟩
      have := hown.congr (g := f) (fun i hi => by omega)
      exact ⟨this.1, fun k hk => (this.1.lt k hk).2⟩
    · obtain ⟨v', w', hr, h2, h3, _⟩ := run_append_own (P := Try.prog) w lo 23 o.type 5 i0 (.int .u8 0) 1 1 Try.underlying23 hi0 hz0 hz1 hz2 rfl (by decide) v 0 (cellsOf 0 z) hown.1 ⟨g, 0, none⟩ m cap (cellsOf m f) (by rw [cellsOf_length]; omega)
        (fun j u hj => by
          by_cases hjm : j < m
          · rw [add_none', Nat.zero_add, hox.1.cellAt j (by omega)]
            exact hj
          · rw [List.getElem?_eq_none (by rw [cellsOf_length]; omega)] at hj
            cases hj)
        (cellsOf_one m f) (by unfold maxLen; omega) (by omega) hlo
      have h2' : w'.ownsRow lo 5 1 v' m (cellsOf m f) := by
        have e0 : cellsOf 0 z ++ cellsOf m f = cellsOf m f := rfl
        rw [Nat.zero_add, e0] at h2
        exact h2
      exact ⟨v', w', hr, ⟨h2', fun k hk => (h2'.lt k hk).2⟩, (Below.refl _ _).grown h3 hlo (fun k hk => (hown.1.lt k hk).1)⟩
  refine wpList_plain hg fun K hK' => ?_
  obtain ⟨v', w', hrun, r1, r2⟩ := key
  unfold Oper.wp
  simp [execOp, hop, resolve, invoke, builtin, hs, hx, hrun, Result.andThen]
  exact hK' _ _ (hK v' w' r1 r2)

/-- rows that are gathered one behind the other: the outer slice v, k of them -/
structure Bld (w wr : World) (lo : Nat) (v : Value) (k : Nat) (n : Nat → Nat) (f : Mat) (e : Nat → Value) : Prop where
  row : wr.ownsRow lo 23 1 v k (valsOf k e)
  notnil : v ≠ nilS
  each : ∀ i, i < k → Own wr lo wr.heap.size (e i) (n i) (f i)
  apart : ∀ i j, i < k → j < k → i ≠ j → ∀ b, (e i).ownBlock = some b → (e j).ownBlock ≠ some b
  bel : Below lo w wr
  le : lo ≤ wr.heap.size
/-- a row of slices and a row of bytes lie in two blocks -/
theorem two_blocks {w : World} {lo lo' hi : Nat} {v x : Value} {k n : Nat} {xs : List Value} {f : Nat → Nat} (h : w.ownsRow lo 23 1 v k xs) (ho : Own w lo' hi x n f) (b : Nat) (hb : v.ownBlock = some b) : x.ownBlock ≠ some b := by
  intro hx
  rcases h.2 with ⟨rfl, _⟩ | ⟨g, cap, cur, rfl, _, hg, _⟩
  · cases hb
  · rcases ho.1.2 with ⟨rfl, _⟩ | ⟨g', cap', cur', rfl, _, hg', _⟩
    · cases hx
    · simp [Value.ownBlock] at hb hx
      subst hb
      subst hx
      rw [hg] at hg'
      simp at hg'
theorem Bld.next {w wr w2 w4 : World} {lo : Nat} {v v' x : Value} {k : Nat} {n : Nat → Nat} {f : Mat} {e : Nat → Value} (h : Bld w wr lo v k n f e) (hb : Below wr.heap.size wr w2) (ho : Own w2 wr.heap.size w2.heap.size x (n k) (f k))
    (hr : w4.ownsRow lo 23 1 v' (k + 1) (valsOf k e ++ [x])) (hg : (w2.alloc (.cells #[x] 23)).grownBy w4 v.ownBlock) (hnn : v' ≠ nilS) : Bld w w4 lo v' (k + 1) n f (fun i => if i = k then x else e i) := by
  have hs2 := hb.size
  have hs4 : w2.heap.size + 1 ≤ w4.heap.size := by have := hg.size; simpa using this
  have hv : valsOf k e ++ [x] = valsOf (k + 1) (fun i => if i = k then x else e i) := by
    rw [← valsOf_snoc]
    simp only [if_pos]
    rw [valsOf_eq (e := e) (g := fun i => if i = k then x else e i) (fun i hi => by simp [show ¬ i = k by omega])]
  rw [hv] at hr
  have row2 : w2.ownsRow lo 23 1 v k (valsOf k e) := row_kept h.row fun b hb' => hb.block b (h.row.lt b hb').2
  have kp : ∀ {y : Value} {m : Nat} {q : Nat → Nat} {l : Nat}, Own w2 l w2.heap.size y m q → Own w4 l w4.heap.size y m q := fun {y m q l} hy =>
    (hy.kept fun b hb' => by
      have hlt := hy.2 b hb'
      rw [hg.block b (by simp; omega) (fun hh => two_blocks row2 hy b hh.symm hb')]
      exact Below.heap_alloc w2 _ b hlt).mono (by omega)
  refine ⟨hr, hnn, fun i hi => ?_, fun i j hi hj hne b hbi => ?_, ?_, by have := h.le; omega⟩
  · by_cases c : i = k
    · subst c
      simp only [if_pos]
      exact (kp ho).weaken h.le (Nat.le_refl _)
    · simp only [if_neg c]
      exact kp (((h.each i (by omega)).below hb (Nat.le_refl _)).mono hs2)
  · have new : ∀ b, x.ownBlock = some b → wr.heap.size ≤ b := fun b hb' => (ho.1.lt b hb').1
    have old : ∀ i, i < k → ∀ b, (e i).ownBlock = some b → b < wr.heap.size := fun i hi b hb' => (h.each i hi).2 b hb'
    have hbi2 : (if i = k then x else e i).ownBlock = some b := hbi
    show (if j = k then x else e j).ownBlock ≠ some b
    by_cases c : i = k
    · have c2 : ¬ j = k := fun z => hne (by rw [c, z])
      rw [if_pos c] at hbi2
      rw [if_neg c2]
      intro hh
      have h5 := new b hbi2
      have h6 := old j (by omega) b hh
      omega
    · rw [if_neg c] at hbi2
      by_cases c2 : j = k
      · rw [if_pos c2]
        intro hh
        have h5 := new b hh
        have h6 := old i (by omega) b hbi2
        omega
      · rw [if_neg c2]
        exact h.apart i j (by omega) (by omega) hne b hbi2
  · have b1 : Below lo w w2 := h.bel.trans (hb.mono h.le)
    exact (b1.alloc (by have := h.le; omega) (.cells #[x] 23)).grown hg (by simp; have := h.le; omega) (fun b hb' => (h.row.lt b hb').1)
theorem Bld.done {w wr : World} {lo : Nat} {v : Value} {k : Nat} {n : Nat → Nat} {f : Mat} {e : Nat → Value} (h : Bld w wr lo v k n f e) : OwnM wr lo wr.heap.size v k n f := by
  rcases h.row.2 with ⟨hv, _⟩ | ⟨g, cap, cur, hv, hbg, hg, _⟩
  · exact absurd hv h.notnil
  · refine ⟨g, cap, e, hv, hbg, (Array.getElem?_eq_some_iff.1 hg).1, h.row, h.each, ⟨fun i hi => ?_, h.apart⟩⟩
    exact two_blocks h.row (h.each i hi) g (by rw [hv]; rfl)

/-- append(v, x), x a slice that lies in a block of its own, v the call's own row of slices -/
theorem wp_appendM {ops : Array Oper} {rest : List Oper} {o : Oper} {a : Act} {w : World} {Q : Exit → Act → World → Prop}
    (hg : o.guard = none) (s x : Operand) (hop : o.op = Op.call { callee := Callee.builtin Builtin.append, args := #[s, x], argTypes := #[22, 22] })
    (lo : Nat) (v : Value) (k : Nat) (e : Nat → Value) (hs : a.eval s = v) (hown : w.ownsRow lo 23 1 v k (valsOf k e)) (b c : Nat) (y : Value) (hx : a.eval x = .slice (some ⟨b, 0, none⟩) 1 c) (hcell : w.cell? ⟨b, 0, none⟩ = some y) (hy : y.oneCell' = true)
    (hk : k + 1 ≤ 1000000) (hlo : lo ≤ w.heap.size)
    (hK : ∀ v' w', w'.ownsRow lo 23 1 v' (k + 1) (valsOf k e ++ [y]) → w.grownBy w' v.ownBlock → v' ≠ nilS → wpList Try.prog ops Q rest (a.put o.dst v') w') : wpList Try.prog ops Q (o :: rest) a w := by
  obtain ⟨i0, hi0, hz0, hz1, hz2⟩ := info_parts info_sl
  refine wpList_append_own w hg s x 22 hop lo 23 i0 nilS 1 24 Try.underlying22 hi0 hz0 hz1 hz2 rfl (by decide) v k (valsOf k e) hs hown ⟨b, 0, none⟩ 1 c [y] hx rfl ?_ ?_ (by unfold maxLen; omega) (by omega) hlo ?_
  · intro j u hj
    match j, hj with
    | 0, hj => simp at hj; subst hj; simpa [Addr.add] using hcell
  · intro u hu
    simp at hu
    subst hu
    exact hy
  · intro v' w' h1 h2 h3
    exact hK v' w' h1 h2 (fun hh => by have := (h3.mp hh).2; omega)

set_option maxHeartbeats 4000000 in
theorem specRank_any (v : Value) (R : Nat) (n : Nat → Nat) (f : Mat) (lA hA gA cA : Nat) (e : Nat → Value) (w : World) (r1 : OwnE w lA hA v R n f gA cA e) (hh1 : hA ≤ w.heap.size) (kf : Byt f) :
    Calls Try.prog 23 #[v] w fun ee w' => ∃ c x, ee = .returned (intR c x) ∧ RankAns R n f c x ∧ Below w.heap.size w w' := by
  have hm : R ≤ maxLen := by obtain ⟨_, _, _, _, h, _⟩ := r1.rd; exact h
  unfold maxLen at hm
  obtain rfl := r1.val
  have hb0 : Below w.heap.size w (w.alloc (.cells #[.int .i64 0, .int .i64 0] 39)) := (Below.refl _ _).alloc (Nat.le_refl _) _
  have rA := r1.below hb0 hh1
  have HA : Hid (OwnE w lA hA (.slice (some ⟨gA, 0, none⟩) R cA) R n f gA cA e) := r1
  by_cases hbig : 16 < R
  · clear rA r1
    go_enter Try.func23, Try.ntmps23
    go_wp2
    exact bodyPost_ret (v := intR 2 0) (by simp [results, Try.results23, go_sem, intR]) rfl ⟨2, 0, rfl, .inl ⟨rfl, rfl, .inl hbig⟩, (Below.refl _ _).alloc (Nat.le_refl _) _⟩
  have HCA : Hid (∀ i, i < R → (w.alloc (.cells #[.int .i64 0, .int .i64 0] 39)).cell? ⟨gA, i, none⟩ = some (e i)) := fun i hi => rA.cell i hi
  have hgw : gA < w.heap.size := by have := r1.high; omega
  clear rA r1
  go_enter Try.func23, Try.ntmps23
  go_wp2
  go_loop [3] (fun i => ∃ k : Nat, k ≤ R ∧ i = .int .i64 k ∧ ∀ i, i < k → n i ≤ 16) (fun i => R - (intOf i).toNat)
  case atStart => exact ⟨0, Nat.zero_le _, rfl, fun i hi => by omega⟩
  case round =>
    obtain ⟨k, hk, rfl, hall⟩ := hrel
    have HALL : Hid (∀ i, i < k → n i ≤ 16) := hall
    clear hall
    by_cases hlt : k < R
    · obtain ⟨aok, capk, hsk⟩ := (HA.out.each k hlt).slice
      have hle := (HA.out.each k hlt).le
      unfold maxLen at hle
      have hck := HCA.out k hlt
      rw [hsk] at hck
      obtain ⟨nk, hnk⟩ : ∃ x, x = n k := ⟨_, rfl⟩
      have HK : Hid (nk = n k) := hnk
      rw [← hnk] at hck hle
      have hck' : w.cell? ⟨gA, k, none⟩ = some (.slice aok nk capk) := by rw [← hck]; exact (cell_alloc_old w _ gA k hgw).symm
      clear hnk hsk hck
      by_cases hl : nk ≤ 16
      · go_wp2
        go_round
        case rel => exact ⟨k + 1, by omega, by go_num, fun i hi => by
                      by_cases cc : i = k
                      · rw [cc, ← HK.out]; exact hl
                      · exact HALL.out i (by omega)⟩
        case measure => simp [intOf]; omega
      · go_wp2
        exact bodyPost_ret (v := intR 2 0) (by simp [results, Try.results23, go_sem, intR]) rfl ⟨2, 0, rfl, .inl ⟨rfl, rfl, .inr ⟨k, hlt, by rw [← HK.out]; omega⟩⟩, (Below.refl _ _).alloc (Nat.le_refl _) _⟩
    · have hkn : k = R := by omega
      subst hkn
      go_wp2
      have hstart : Bld (w.alloc (.cells #[.int .i64 0, .int .i64 0] 39)) ((w.alloc (.cells #[.int .i64 0, .int .i64 0] 39)).alloc (.cells #[] 23)) (w.heap.size + 1) (.slice (some ⟨w.heap.size + 1, 0, none⟩) 0 0) 0 n f e := by
        have hl := World.ownsRow_lit (base := w.heap.size + 1) (e := 23) (size := 1) (w.alloc (.cells #[.int .i64 0, .int .i64 0] 39)) #[] 0 (by simp) (Nat.zero_le _) rfl
        have hz : (w.alloc (.cells #[.int .i64 0, .int .i64 0] 39)).heap.size = w.heap.size + 1 := by simp
        rw [hz] at hl
        exact ⟨hl, by simp, fun i hi => by omega, fun i j hi => by omega, (Below.refl _ _).alloc (by simp) _, by simp⟩
      go_loopw [4, 5] (fun v i wr => ∃ m : Nat, m ≤ k ∧ i = .int .i64 m ∧ (∀ i, i < m → n i = n 0) ∧ ∃ e', Bld (w.alloc (.cells #[.int .i64 0, .int .i64 0] 39)) wr (w.heap.size + 1) v m n f e') (fun _ i _ => k - (intOf i).toNat)
      case atStart => exact ⟨0, Nat.zero_le _, rfl, fun i hi => by omega, e, hstart⟩
      case round =>
        clear hstart
        obtain ⟨m, hm1, rfl, heq0, e', hB⟩ := hrel
        have HEQ : Hid (∀ i, i < m → n i = n 0) := heq0
        clear heq0
        have hbw : Below w.heap.size w wr := hb0.trans (hB.bel.mono (by omega))
        have hres : Box wr w.heap.size #[.int .i64 0, .int .i64 0] 39 := (box_new w _ _).below hB.bel (by omega)
        obtain ⟨x0, x1, y0, y1⟩ := res_cells hres
        by_cases hlt2 : m < k
        · obtain ⟨aom, capm, hsm⟩ := (HA.out.each m hlt2).slice
          obtain ⟨ao0, cap0, hs0⟩ := (HA.out.each 0 (by omega)).slice
          have hnm := HALL.out m hlt2
          have hn0 := HALL.out 0 (by omega)
          have hcm : wr.cell? ⟨gA, m, none⟩ = some (e m) := (hB.bel.cell (p := ⟨gA, m, none⟩) (by show gA < w.heap.size + 1; omega)).trans (HCA.out m hlt2)
          have hc0 : wr.cell? ⟨gA, 0, none⟩ = some (e 0) := (hB.bel.cell (p := ⟨gA, 0, none⟩) (by show gA < w.heap.size + 1; omega)).trans (HCA.out 0 (by omega))
          have om : Own wr lA hA (e m) (n m) (f m) := (HA.out.each m hlt2).below hbw hh1
          obtain ⟨nm, hnmd⟩ : ∃ x, x = n m := ⟨_, rfl⟩
          obtain ⟨n0, hn0d⟩ : ∃ x, x = n 0 := ⟨_, rfl⟩
          have HM : Hid (nm = n m) := hnmd
          have H0 : Hid (n0 = n 0) := hn0d
          rw [hsm] at hcm
          rw [hs0] at hc0
          rw [← hnmd] at hcm hnm
          rw [← hn0d] at hc0 hn0
          have HOM : Hid (Own wr lA hA (.slice aom nm capm) nm (f m)) := by
            have := om
            rw [hsm, ← hnmd] at this
            exact this
          have HBB : Hid (Bld (w.alloc (.cells #[.int .i64 0, .int .i64 0] 39)) wr (w.heap.size + 1) u4 m n f e') := hB
          have hszr := hB.le
          have hgr : gA < wr.heap.size := by omega
          clear hnmd hn0d hsm hs0 om hB
          by_cases hne : nm = n0
          · subst hne
            have hcm3 : ∀ q, ((wr.drewN q).alloc (.cells #[] 5)).cell? ⟨gA, m, none⟩ = some (.slice aom nm capm) := fun q => (cell_alloc_old (wr.drewN q) _ gA m hgr).trans hcm
            go_wp2
            go_quiet (fail)
            go_wp2_with (first | (at_builtin; refine wp_appendC rfl (.tmp 42) (.tmp 46) rfl wr.heap.size (wr.heap.size + 1) (.slice (some ⟨wr.heap.size, 0, none⟩) 0 0) (fun _ => 0) ?_ ?_ lA hA (.slice aom nm capm) nm (f m) ?_ ?_ (by omega) ?_ ?_; (simp [Act.eval]); exact (own_lit0 wr (fun _ => 0)).weaken (Nat.le_refl _) (by simp); (simp [Act.eval]); exact HOM.out.alloc _; simp; intro v2 w2 ho2 hb2; obtain ⟨ao2, cap2, rfl⟩ := ho2.slice) | (at_builtin; refine wp_appendM rfl (.tmp 41) (.tmp 48) rfl (w.heap.size + 1) u4 m e' ?_ ?_ w2.heap.size 1 (.slice ao2 nm cap2) ?_ ?_ rfl (by omega) ?_ ?_; (simp [Act.eval]); exact (row_kept HBB.out.row fun b hb' => (hb2.block b (HBB.out.row.lt b hb').2).trans (Below.heap_alloc wr _ b (HBB.out.row.lt b hb').2)).alloc _; (simp [Act.eval]); simp; (simp; have := hb2.size; simp at this; omega); intro v4 w4 hr4 hg4 hn4))
            have hb3 : Below wr.heap.size wr w2 := ((Below.refl wr.heap.size wr).alloc (Nat.le_refl _) (.cells #[] 5)).trans ⟨hb2.os, hb2.tape, hb2.output, hb2.size, hb2.block⟩
            have NX := HBB.out.next hb3 (by rw [← HM.out]; exact ho2) hr4 hg4 hn4
            clear hb3 hb2 ho2 hr4 hg4 hn4 HBB HOM hres x0 x1 y0 y1 hbw
            go_wp2
            go_roundw
            case rel => exact ⟨m + 1, by omega, by go_num, fun i hi => by
                          by_cases cc : i = m
                          · rw [cc, ← HM.out, ← H0.out]
                          · exact HEQ.out i (by omega), _, NX⟩
            case measure => simp [intOf]; omega
          · have tn : ((nm : Int) != (n0 : Int)) = true := by simp; omega
            go_wp2
            go_quiet (fail)
            go_wp2
            exact bodyPost_ret (v := intR 1 0) (by simp [results, Try.results23, go_sem, intR, x0, x1]) rfl ⟨1, 0, rfl, .inr (.inl ⟨rfl, rfl, by omega, HALL.out, m, hlt2, by rw [← HM.out, ← H0.out]; exact hne⟩), ((below_drewN hbw _).setCell (Nat.le_refl _) _).setCell (Nat.le_refl _) _⟩
        · have hmn : m = k := by omega
          subst hmn
          by_cases hR0 : m = 0
          · subst hR0
            obtain ⟨ao, cap, hv⟩ : ∃ ao cap, u4 = .slice ao 0 cap := by
              rcases hB.row.2 with ⟨h, h2⟩ | ⟨g, cap, cur, h, _⟩
              · exact ⟨_, _, h⟩
              · exact ⟨_, _, h⟩
            subst hv
            clear hB
            go_wp2
            exact bodyPost_ret (v := intR 0 0) (by simp [results, Try.results23, go_sem, intR, x0, x1]) rfl ⟨0, 0, rfl, .inr (.inr ⟨rfl, by omega, HALL.out, HEQ.out, rfl⟩), (hbw.setCell (Nat.le_refl _) _).setCell (Nat.le_refl _) _⟩
          · obtain ⟨g2, c2, e2, hE⟩ := hB.done
            obtain ⟨N, hN⟩ : ∃ N, N = n 0 := ⟨_, rfl⟩
            have HN : Hid (N = n 0) := hN
            have hE2 := hE.congrN (n' := fun _ => N) (fun i hi => by rw [HEQ.out i hi, ← hN])
            have hN16 : N ≤ 16 := by rw [hN]; exact HALL.out 0 (by omega)
            have RD := l1Step_any _ m N N f (w.heap.size + 1) g2 c2 e2 (Nat.le_refl _) (by omega) (by omega) kf wr hE2
            have t0 : ((m : Int) == 0) = false := by simp; omega
            have hz0 := hE2.cell 0 (by omega)
            obtain ⟨aoz, capz, hsz⟩ := (hE2.each 0 (by omega)).slice
            rw [hsz] at hz0
            have hv := hE2.val
            have hbel1 := hB.bel
            rw [hv] at RD
            clear hN hE hE2 hsz hB
            subst hv
            go_wp2_with fail
            refine RD.mono ?_
            rintro ee w4 ⟨rfl, hE4, hb4⟩
            have B4 : Below w.heap.size w w4 := hbw.trans (hb4.mono (by omega))
            have X4 : Box w4 w.heap.size #[.int .i64 0, .int .i64 0] 39 := hres.below hb4 (by omega)
            obtain ⟨z0, z1, z2, z3⟩ := res_cells X4
            have hle := (gaussM_le (R := m) (M := f) N).1
            obtain ⟨rk, hrk⟩ : ∃ rk, rk = (gaussM m f N).2 := ⟨_, rfl⟩
            have HRK : Hid (rk = (gaussM m f N).2) := hrk
            rw [← hrk] at hle ⊢
            clear hrk hE4 hb4 X4 hz0 RD x0 x1 y0 y1 hres
            go_wp2
            refine bodyPost_ret (v := intR 0 rk) (by simp [results, Try.results23, go_sem, intR, z0, z1]) rfl ⟨0, rk, rfl, .inr (.inr ⟨rfl, by omega, HALL.out, HEQ.out, ?_⟩), (B4.setCell (Nat.le_refl _) _).setCell (Nat.le_refl _) _⟩
            rw [if_neg hR0, HRK.out, HN.out]
end Go.Proofs.Yteelhafnkkfcbah
