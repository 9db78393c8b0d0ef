/- Walks of the program's copyList. -/
import Derived.Test.YtbmfndjglndnlaaGreatZwE
import Derived.Test.YtbmfndjglndnlaaGreatZwA
import Derived.Laws.CopyOwn
import Derived.Maps.AppendAt
namespace Go.Proofs.YtbmfndjglndnlaaGreat
open Go.RowKit F256
set_option linter.unusedVariables false
set_option linter.unusedSimpArgs false
theorem OwnI.full {w : World} {lo hi g n : Nat} {f : Nat → Int} (h : OwnI w lo hi (.slice (some ⟨g, 0, none⟩) n n) n f) : w.heap[g]? = some (.cells (intsOf n f).toArray 2 (0, 0)) := by
  rcases h.1.2 with ⟨h', _⟩ | ⟨g', cap', cur, h', _, hg, _, _, hcs, htake⟩
  · simp at h'
  · simp only [Value.slice.injEq, Option.some.injEq, Addr.mk.injEq, and_true, true_and] at h'
    obtain ⟨rfl, rfl⟩ := h'
    have : cur = (intsOf n f).toArray := by
      rw [← htake, List.take_of_length_le (by simp; omega)]
    rw [← this]
    exact hg
theorem ownI_of_full {w : World} {lo g n : Nat} {f : Nat → Int} (hg : w.heap[g]? = some (.cells (intsOf n f).toArray 2 (0, 0))) (hlo : lo ≤ g) (hm : n ≤ maxLen) : OwnI w lo w.heap.size (.slice (some ⟨g, 0, none⟩) n n) n f :=
  ⟨⟨by rw [intsOf_length]; omega, .inr ⟨g, n, _, rfl, hlo, hg, Nat.le_refl _, hm, by simp [intsOf_length], by simp [List.take_of_length_le, intsOf_length]⟩⟩, fun k hk => by
    simp [Value.ownBlock] at hk
    subst hk
    exact (Array.getElem?_eq_some_iff.1 hg).1⟩
theorem splice_ints (N off m : Nat) (f t h : Nat → Int) (hm : off + m ≤ N) (hh : ∀ i, i < N → h i = if off ≤ i ∧ i < off + m then t (i - off) else f i) : splice (intsOf N f) off (intsOf m t) = intsOf N h := by
  unfold splice
  apply List.ext_getElem?
  intro i
  by_cases hi : i < N
  · rw [intsOf_get N h i hi, hh i hi]
    by_cases h1 : i < off
    · have e1 : ¬ (off ≤ i ∧ i < off + m) := by omega
      rw [if_neg e1, List.getElem?_append_left (by rw [List.length_take, intsOf_length]; omega), List.getElem?_take, if_pos h1, intsOf_get N f i hi]
    · rw [List.getElem?_append_right (by rw [List.length_take, intsOf_length]; omega)]
      have e0 : (List.take off (intsOf N f)).length = off := by rw [List.length_take, intsOf_length]; omega
      rw [e0]
      by_cases h2 : i < off + m
      · rw [if_pos ⟨by omega, h2⟩, List.getElem?_append_left (by rw [intsOf_length]; omega), intsOf_get m t _ (by omega)]
      · have e1 : ¬ (off ≤ i ∧ i < off + m) := by omega
        rw [if_neg e1, List.getElem?_append_right (by rw [intsOf_length]; omega), intsOf_length, List.getElem?_drop, show off + m + (i - off - m) = i by omega, intsOf_get N f i hi]
  · rw [List.getElem?_eq_none (by simp [intsOf_length]; omega), List.getElem?_eq_none (by rw [intsOf_length]; omega)]

theorem copy_srcI {w : World} {hi n cap : Nat} {ao : Option Addr} {f : Nat → Int} (r : RdI w hi (.slice ao n cap) n f) (h : 0 < (intsOf n f).length) : ∃ ad, ao = some ad ∧ ∀ j v, (intsOf n f)[j]? = some v → w.cell? (ad.add j) = some v := by
  rw [intsOf_length] at h
  obtain ⟨ao', cap', he, _, hc⟩ := r
  simp only [Value.slice.injEq, true_and] at he
  obtain ⟨rfl, rfl⟩ := he
  obtain ⟨b, off, rfl, _, hcell⟩ := hc (by omega)
  refine ⟨_, rfl, fun j v hj => ?_⟩
  by_cases hjn : j < n
  · rw [intsOf_get n f j hjn] at hj
    rw [add_none', hcell j hjn]
    exact hj
  · rw [List.getElem?_eq_none (by rw [intsOf_length]; omega)] at hj
    cases hj
theorem intsOf_one (n : Nat) (f : Nat → Int) : ∀ v ∈ intsOf n f, v.oneCell' = true := fun v hv => by
  simp only [intsOf, List.mem_map] at hv
  obtain ⟨i, _, rfl⟩ := hv
  rfl
theorem size_i64 : (Tryz.prog.info? 2).map (·.size) = some 1 := by kernel_rfl

theorem ownI_T {w : World} {lo hi n : Nat} {v : Value} {f : Nat → Int} (h : OwnI w lo hi v n f) (hh : hi ≤ w.heap.size) (kf : ∀ i, -9223372036854775808 ≤ f i ∧ f i ≤ 9223372036854775807) : OwnT layInts w lo hi (n, f) [v] := by
  refine ⟨v.ownBlock.toList, ⟨v, rfl, rfl, h.weaken (Nat.zero_le _) hh, kf⟩, ?_, fun b hb => ?_⟩
  · cases v.ownBlock <;> simp
  · have hb' : v.ownBlock = some b := by simpa using hb
    exact ⟨(h.1.lt b hb').1, h.2 b hb'⟩
/-- a copy of each element by a function that is handed in -/
def ToF {α : Type} (A : Lay α) (sz : α → Nat) (fn g : Nat) : Prop := ∀ (v : Value) (d : α) (hi : Nat) (w : World), A.rd w hi d [v] → hi ≤ w.heap.size → sz d ≤ 1048576 →
  Calls Tryz.prog fn #[v, .func (.func g) #[] #[]] w fun e w' => ∃ v', e = .returned v' ∧ OwnT A w' w.heap.size w'.heap.size d [v'] ∧ Below w.heap.size w w'
set_option maxHeartbeats 1000000 in
theorem copyBytes_is : ToS layBytes lenD 94 := fun v d hi w h hhi hn => by
  obtain ⟨n, f⟩ := d
  obtain ⟨v', e1, r1, kf⟩ := h
  cases e1
  simp only at r1 kf
  skip
  have hn' : n ≤ 1048576 := hn
  clear hn
  have R1 := fun (w1 : World) (hb : Below w.heap.size w w1) => r1.below hb hhi
  obtain ⟨ao, cap, rfl, hm1, hc1⟩ := r1
  clear hc1
  have HS : Hid (splice (cellsOf n fun _ => 0) 0 (cellsOf n f) = cellsOf n f) := splice_cells n 0 n _ f f (by omega) (fun i hi => by simp [hi])
  have L1 : (cellsOf n f).length = Nat.min n n := by rw [cellsOf_length]; exact (Nat.min_self n).symm
  have L2 : 0 + (cellsOf n f).length ≤ (cellsOf n fun _ => 0).length := by simp [cellsOf_length]
  have HL1 : Hid ((cellsOf n f).length = Nat.min n n) := L1
  have HL2 : Hid (0 + (cellsOf n f).length ≤ (cellsOf n fun _ => 0).length) := L2
  clear L1 L2
  go_enter Tryz.func94, Tryz.ntmps94
  go_wp2_with (first | (at_make; refine wp_makeB _ rfl _ _ rfl _ _ n rfl rfl (by simp) (by simp) (by omega) ?_; intro w1 hown1 hb1 hz1) | (refine wpList_copy_splice rfl (.tmp 7) (.tmp 8) 44 44 rfl 5 Tryz.underlying44 size_u8 (some ⟨w.heap.size, 0, none⟩) ao n n n cap rfl rfl w.heap.size 0 (cellsOf n fun _ => 0) 5 hown1.full (cellsOf n f) HL1.out (fun hp => ⟨rfl, copy_src (R1 w1 hb1) hp⟩) HL2.out (cellsOf_one n f) w.heap.size w hb1 (Nat.le_refl _) ?_; intro w2 hF2 hb2))
  go_ret
  have F2 := hF2.out
  rw [HS.out] at F2
  exact ⟨_, rfl, ownB_T (own_of_full F2 (Nat.le_refl _) (by unfold maxLen; omega)) (Nat.le_refl _) kf, hb2⟩
set_option maxHeartbeats 1000000 in
theorem copyInts_is : ToS layInts lenD 82 := fun v d hi w h hhi hn => by
  obtain ⟨n, f⟩ := d
  obtain ⟨v', e1, r1, kf⟩ := h
  cases e1
  simp only at r1 kf
  replace r1 := r1.1
  have hn' : n ≤ 1048576 := hn
  clear hn
  have R1 := fun (w1 : World) (hb : Below w.heap.size w w1) => r1.below hb hhi
  obtain ⟨ao, cap, rfl, hm1, hc1⟩ := r1
  clear hc1
  have HS : Hid (splice (intsOf n fun _ => 0) 0 (intsOf n f) = intsOf n f) := splice_ints n 0 n _ f f (by omega) (fun i hi => by simp [hi])
  have L1 : (intsOf n f).length = Nat.min n n := by rw [intsOf_length]; exact (Nat.min_self n).symm
  have L2 : 0 + (intsOf n f).length ≤ (intsOf n fun _ => 0).length := by simp [intsOf_length]
  have HL1 : Hid ((intsOf n f).length = Nat.min n n) := L1
  have HL2 : Hid (0 + (intsOf n f).length ≤ (intsOf n fun _ => 0).length) := L2
  clear L1 L2
  go_enter Tryz.func82, Tryz.ntmps82
  go_wp2_with (first | (at_make; refine wp_makeI _ rfl _ _ rfl _ _ n rfl rfl (by simp) (by simp) (by omega) ?_; intro w1 hown1 hb1 hz1) | (refine wpList_copy_splice rfl (.tmp 7) (.tmp 8) 25 25 rfl 2 Tryz.underlying25 size_i64 (some ⟨w.heap.size, 0, none⟩) ao n n n cap rfl rfl w.heap.size 0 (intsOf n fun _ => 0) 2 hown1.full (intsOf n f) HL1.out (fun hp => ⟨rfl, copy_srcI (R1 w1 hb1) hp⟩) HL2.out (intsOf_one n f) w.heap.size w hb1 (Nat.le_refl _) ?_; intro w2 hF2 hb2))
  go_ret
  have F2 := hF2.out
  rw [HS.out] at F2
  exact ⟨_, rfl, ownI_T (ownI_of_full F2 (Nat.le_refl _) (by unfold maxLen; omega)) (Nat.le_refl _) kf, hb2⟩
end Go.Proofs.YtbmfndjglndnlaaGreat

namespace Go.Proofs.YtbmfndjglndnlaaGreat
open Go.RowKit F256
set_option linter.unusedVariables false
theorem run_append_none' {P : Program} (w : World) (base : Nat) (t ty e : TypeId) (i : TypeInfo) (size : Nat) (ht : P.underlying t = some (.slice e)) (hi : P.info? e = some i) (v : Value) (n c : Nat) (xs : List Value) (hown : w.ownsRow base e size v n xs) :
    (Builtin.append_ #[t, t] ty #[v, .slice none 0 c]).run P w = .ok v w := by
  rcases hown.2 with ⟨rfl, rfl⟩ | ⟨g, cap, cur, rfl, _, _, hnc, _⟩
  · simp [Builtin.append_, run_underlying ht, sizeOf, typeInfo, hi, Builtin.lenOf, Builtin.firstCells]
  · simp [Builtin.append_, run_underlying ht, sizeOf, typeInfo, hi, Builtin.lenOf, Builtin.firstCells, hnc, storeCells]
theorem lit_row (w : World) (e : TypeId) : (w.alloc (.cells #[] e)).ownsRow w.heap.size e 1 (.slice (some ⟨w.heap.size, 0, none⟩) 0 0) 0 [] := World.ownsRow_lit (base := w.heap.size) (e := e) (size := 1) w #[] 0 (Nat.le_refl _) (Nat.zero_le _) rfl
theorem run_appendR {T e : TypeId} {z : Value} {by_ : Nat} (hu : Tryz.prog.underlying T = some (.slice e)) (hi : (Tryz.prog.info? e).map (fun i => (i.zero, i.size, i.bytes)) = some (some z, 1, by_)) (hz : z.cells.size = 1) (hby : by_ ≤ 100) (ty : TypeId) (W : World) (p : Nat) (hown : W.ownsRow p e 1 (.slice (some ⟨p, 0, none⟩) 0 0) 0 [])
    (ao : Option Addr) (m cap : Nat) (cs : List Value) (hl : cs.length = m) (hsrc : 0 < cs.length → ∃ ad, ao = some ad ∧ ∀ j v, cs[j]? = some v → W.cell? (ad.add j) = some v) (h1 : ∀ v ∈ cs, v.oneCell' = true) (hm : m ≤ 10000000) :
    ∃ v' w', (Builtin.append_ #[T, T] ty #[.slice (some ⟨p, 0, none⟩) 0 0, .slice ao m cap]).run Tryz.prog W = .ok v' w' ∧ w'.ownsRow p e 1 v' m cs ∧ Below p W w' := by
  obtain ⟨i0, hi0, hz0, hz1, hz2⟩ := info_parts hi
  have hlo : p ≤ W.heap.size := Nat.le_of_lt (hown.lt p rfl).2
  have big : ∀ ad, ao = some ad → (∀ j v, cs[j]? = some v → W.cell? (ad.add j) = some v) → ∃ v' w', (Builtin.append_ #[T, T] ty #[.slice (some ⟨p, 0, none⟩) 0 0, .slice ao m cap]).run Tryz.prog W = .ok v' w' ∧ w'.ownsRow p e 1 v' m cs ∧ Below p W w' := fun ad ha hc => by
    subst ha
    have hb2 : (0 + m) * by_ ≤ 140737488355328 := by
      have : (0 + m) * by_ ≤ 10000000 * 100 := Nat.mul_le_mul (by omega) hby
      omega
    obtain ⟨v', w', hr, r1, r2, _⟩ := run_append_own_at (P := Tryz.prog) W p T ty e i0 z 1 by_ hu hi0 hz0 hz1 hz2 hz (by decide) _ 0 [] hown ad m cap cs (by omega) hc h1 (by unfold maxLen; omega) hb2 hlo
    refine ⟨v', w', hr, ?_, (Below.refl _ _).grown r2 hlo (fun k hk => (hown.lt k hk).1)⟩
    rw [Nat.zero_add, List.nil_append] at r1
    exact r1
  by_cases h0 : 0 < cs.length
  · obtain ⟨ad, ha, hc⟩ := hsrc h0
    exact big ad ha hc
  · have hcs : cs = [] := List.eq_nil_of_length_eq_zero (by omega)
    subst hcs
    cases ao with
    | some ad => exact big ad rfl (fun j v hj => by simp at hj)
    | none =>
      have hm0 : m = 0 := by simpa using hl.symm
      subst hm0
      exact ⟨_, W, run_append_none' W p T ty e i0 1 hu hi0 _ 0 cap _ hown, hown, Below.refl _ _⟩
theorem one_i : (Value.int .i64 0).cells.size = 1 := rfl
theorem one_b : (Value.int .u8 0).cells.size = 1 := rfl
/-- append([]int64{}, x...) -/
theorem run_appendRI (ty : TypeId) (W : World) (p : Nat) (hown : W.ownsRow p 2 1 (.slice (some ⟨p, 0, none⟩) 0 0) 0 []) {hi m cap : Nat} {ao : Option Addr} {f : Nat → Int} (r : layInts.rd W hi (m, f) [.slice ao m cap]) (hm : m ≤ 10000000) :
    ∃ v' w', (Builtin.append_ #[25, 25] ty #[.slice (some ⟨p, 0, none⟩) 0 0, .slice ao m cap]).run Tryz.prog W = .ok v' w' ∧ OwnT layInts w' p w'.heap.size (m, f) [v'] ∧ Below p W w' := by
  obtain ⟨v, e, ⟨r1, _⟩, kf⟩ := r
  cases e
  obtain ⟨v', w', hr, h2, h3⟩ := run_appendR Tryz.underlying25 info_i64 one_i (by decide) ty W p hown ao m cap (intsOf m f) (intsOf_length m f) (fun hp => copy_srcI r1 hp) (intsOf_one m f) hm
  exact ⟨v', w', hr, ownI_T ⟨h2, fun k hk => (h2.lt k hk).2⟩ (Nat.le_refl _) kf, h3⟩
/-- append([]byte{}, x...) -/
theorem run_appendRB (ty : TypeId) (W : World) (p : Nat) (hown : W.ownsRow p 5 1 (.slice (some ⟨p, 0, none⟩) 0 0) 0 []) {hi m cap : Nat} {ao : Option Addr} {f : Nat → Nat} (r : layBytes.rd W hi (m, f) [.slice ao m cap]) (hm : m ≤ 10000000) :
    ∃ v' w', (Builtin.append_ #[44, 44] ty #[.slice (some ⟨p, 0, none⟩) 0 0, .slice ao m cap]).run Tryz.prog W = .ok v' w' ∧ OwnT layBytes w' p w'.heap.size (m, f) [v'] ∧ Below p W w' := by
  obtain ⟨v, e, r1, kf⟩ := r
  cases e
  obtain ⟨v', w', hr, h2, h3⟩ := run_appendR Tryz.underlying44 info_u8 one_b (by decide) ty W p hown ao m cap (cellsOf m f) (cellsOf_length m f) (fun hp => copy_src r1 hp) (cellsOf_one m f) hm
  exact ⟨v', w', hr, ownB_T ⟨h2, fun k hk => (h2.lt k hk).2⟩ (Nat.le_refl _) kf, h3⟩
theorem wp_run2 {ops : Array Oper} {rest : List Oper} {o : Oper} {a : Act} {W w' : World} {Q : Exit → Act → World → Prop} {T : TypeId} {v' x1 x2 : Value} (hg : o.guard = none) (s y : Operand) (hop : o.op = Op.call { callee := Callee.builtin Builtin.append, args := #[s, y], argTypes := #[T, T] })
    (h1 : a.eval s = x1) (h2 : a.eval y = x2) (hrun : (Builtin.append_ #[T, T] o.type #[x1, x2]).run Tryz.prog W = .ok v' w') (hK : wpList Tryz.prog ops Q rest (a.put o.dst v') w') : wpList Tryz.prog ops Q (o :: rest) a W := by
  refine wpList_plain hg fun K hK' => ?_
  unfold Oper.wp
  simp [execOp, hop, resolve, invoke, builtin, h1, h2, hrun, Result.andThen]
  exact hK' _ _ hK
theorem step_run2 {ops : Array Oper} {o : Oper} {a : Act} {W w' : World} {K : Act → World → Prop} {Q : Exit → Act → World → Prop} {F : Prop} {T : TypeId} {v' x1 x2 : Value} (hg : o.guard = none) (s y : Operand) (hop : o.op = Op.call { callee := Callee.builtin Builtin.append, args := #[s, y], argTypes := #[T, T] })
    (h1 : a.eval s = x1) (h2 : a.eval y = x2) (hrun : (Builtin.append_ #[T, T] o.type #[x1, x2]).run Tryz.prog W = .ok v' w') (hK : K (a.put o.dst v') w') : if Region.wanted o (yielded ops a.tmps) = true then Oper.wp Tryz.prog o a W K Q else F := by
  have hw : Region.wanted o (yielded ops a.tmps) = true := by simp [Region.wanted, hg]
  rw [if_pos hw]
  unfold Oper.wp
  simp [execOp, hop, resolve, invoke, builtin, h1, h2, hrun, Result.andThen]
  exact hK
end Go.Proofs.YtbmfndjglndnlaaGreat

namespace Go.Proofs.YtbmfndjglndnlaaGreat
open Go.RowKit F256
set_option linter.unusedVariables false
set_option linter.unusedSimpArgs false
theorem el_Rec : ElInfo layRec 92 119 128 [.int .i64 0, .int .i64 0, .string ByteArray.empty, .int .i64 0, .int .i64 0, .int .i64 0, .slice none 0 0, .slice none 0 0, .slice none 0 0] := ⟨by decide, rfl, Tryz.underlying92, by kernel_rfl, by decide⟩
set_option maxHeartbeats 8000000 in
set_option maxRecDepth 20000 in
theorem copyRec_is : ToV layRec szRecD 118 := fun cs d hi w r hhi hn => by
  obtain ⟨ao6, cap6, ao7, cap7, ao8, cap8, rfl, h6, h7, h8, k0, k1, k2, k3, k4, k5⟩ := Rec_rd r
  clear r
  unfold szRecD at hn
  have R6 : Hid (layInts.rd w hi d.rows [.slice ao6 d.rows.1 cap6]) := h6
  have R7 : Hid (layBytes.rd w hi d.data [.slice ao7 d.data.1 cap7]) := h7
  have R8 : Hid (layBytes.rd w hi d.delta [.slice ao8 d.delta.1 cap8]) := h8
  clear h6 h7 h8
  have Q0 : Hid (-9223372036854775808 ≤ d.kind ∧ d.kind ≤ 9223372036854775807) := k0
  have Q1 : Hid (-9223372036854775808 ≤ d.seq ∧ d.seq ≤ 9223372036854775807) := k1
  have Q2 : Hid (d.name.size ≤ maxLen) := k2
  have Q3 : Hid (-9223372036854775808 ≤ d.length ∧ d.length ≤ 9223372036854775807) := k3
  have Q4 : Hid (-9223372036854775808 ≤ d.group ∧ d.group ≤ 9223372036854775807) := k4
  have Q5 : Hid (-9223372036854775808 ≤ d.row ∧ d.row ≤ 9223372036854775807) := k5
  clear k0 k1 k2 k3 k4 k5
  have T0 := two_newb w #[.int .i64 d.kind, .int .i64 d.seq, .string d.name, .int .i64 d.length, .int .i64 d.group, .int .i64 d.row, .slice ao6 d.rows.1 cap6, .slice ao7 d.data.1 cap7, .slice ao8 d.delta.1 cap8] #[.int .i64 0, .int .i64 0, .string ByteArray.empty, .int .i64 0, .int .i64 0, .int .i64 0, .slice none 0 0, .slice none 0 0, .slice none 0 0] 119 119
  go_enter Tryz.func118, Tryz.ntmps118
  go_wp2_with fail
  refine (copyInts_is _ d.rows hi _ (layInts.rd_below R6.out T0.bel hhi) (Nat.le_trans hhi T0.bel.size) (by omega)).mono ?_
  rintro e w1 ⟨v0, rfl, o0, b0⟩
  obtain ⟨bo6, bcap6, hv⟩ := ints_formT o0
  obtain rfl := one_eq hv
  clear hv
  have T0c := T0.call b0
  have z0 := T0.b2.lt
  have y0 := b0.size
  have c0_6 : w1.cell? ⟨w.heap.size, 6, none⟩ = some (.slice ao6 d.rows.1 cap6) := T0c.b1.cell 6
  have c0f_6 : w1.frozen? ⟨w.heap.size, 6, none⟩ = false := T0c.b1.frozen 6
  have T1x : Two w (w1.setCell ⟨w.heap.size, 6, none⟩ (.slice bo6 d.rows.1 bcap6)) #[.int .i64 d.kind, .int .i64 d.seq, .string d.name, .int .i64 d.length, .int .i64 d.group, .int .i64 d.row, .slice bo6 d.rows.1 bcap6, .slice ao7 d.data.1 cap7, .slice ao8 d.delta.1 cap8] #[.int .i64 0, .int .i64 0, .string ByteArray.empty, .int .i64 0, .int .i64 0, .int .i64 0, .slice none 0 0, .slice none 0 0, .slice none 0 0] 119 119 := ⟨T0c.b1.stL [.slice bo6 d.rows.1 bcap6] 6, T0c.b2.seto _ _ (by omega), T0c.bel.setCell (Nat.le_refl _) _⟩
  have O6_0 := (o0.stN w.heap.size 6 [.slice bo6 d.rows.1 bcap6] (by omega))
  have e1 : (w1.setCell ⟨w.heap.size, 6, none⟩ (.slice bo6 d.rows.1 bcap6)).heap.size = w1.heap.size := by simp
  clear o0 b0 
  go_upto_region 2 with fail
  obtain ⟨W1, hW1⟩ : ∃ x, x = w1.setCell ⟨w.heap.size, 6, none⟩ (.slice bo6 d.rows.1 bcap6) := ⟨_, rfl⟩
  have O6 : Hid (OwnT layInts W1 (w.heap.size + 1 + 1) (w1.heap.size) d.rows [.slice bo6 d.rows.1 bcap6]) := by rw [hW1]; exact OwnT.weaken O6_0 (by simp) (Nat.le_refl _)
  rw [← hW1] at T1x e1 ⊢
  clear hW1 O6_0 T0c c0_6 c0f_6
  have a1_7 : W1.cell? ⟨w.heap.size, 7, none⟩ = some (.slice ao7 d.data.1 cap7) := T1x.b1.cell 7
  go_wp2_with fail
  refine (copyBytes_is _ d.data hi _ (layBytes.rd_below R7.out T1x.bel hhi) (Nat.le_trans hhi T1x.bel.size) (by omega)).mono ?_
  rintro e w2 ⟨v1, rfl, o1, b1⟩
  obtain ⟨bo7, bcap7, hv⟩ := bytes_formT o1
  obtain rfl := one_eq hv
  clear hv
  have T1c := T1x.call b1
  have z1 := T1x.b2.lt
  have y1 := b1.size
  have c1_7 : w2.cell? ⟨w.heap.size, 7, none⟩ = some (.slice ao7 d.data.1 cap7) := T1c.b1.cell 7
  have c1f_7 : w2.frozen? ⟨w.heap.size, 7, none⟩ = false := T1c.b1.frozen 7
  have T2x : Two w (w2.setCell ⟨w.heap.size, 7, none⟩ (.slice bo7 d.data.1 bcap7)) #[.int .i64 d.kind, .int .i64 d.seq, .string d.name, .int .i64 d.length, .int .i64 d.group, .int .i64 d.row, .slice bo6 d.rows.1 bcap6, .slice bo7 d.data.1 bcap7, .slice ao8 d.delta.1 cap8] #[.int .i64 0, .int .i64 0, .string ByteArray.empty, .int .i64 0, .int .i64 0, .int .i64 0, .slice none 0 0, .slice none 0 0, .slice none 0 0] 119 119 := ⟨T1c.b1.stL [.slice bo7 d.data.1 bcap7] 7, T1c.b2.seto _ _ (by omega), T1c.bel.setCell (Nat.le_refl _) _⟩
  have O6_1 := (O6.out.call b1).stN w.heap.size 7 [.slice bo7 d.data.1 bcap7] (by omega)
  have O7_1 := (o1.stN w.heap.size 7 [.slice bo7 d.data.1 bcap7] (by omega))
  have e2 : (w2.setCell ⟨w.heap.size, 7, none⟩ (.slice bo7 d.data.1 bcap7)).heap.size = w2.heap.size := by simp
  clear o1 b1 O6 T1x a1_7
  go_upto_region 3 with fail
  obtain ⟨W2, hW2⟩ : ∃ x, x = w2.setCell ⟨w.heap.size, 7, none⟩ (.slice bo7 d.data.1 bcap7) := ⟨_, rfl⟩
  have O6 : Hid (OwnT layInts W2 (w.heap.size + 1 + 1) (w1.heap.size) d.rows [.slice bo6 d.rows.1 bcap6]) := by rw [hW2]; exact O6_1
  have O7 : Hid (OwnT layBytes W2 (W1.heap.size) (w2.heap.size) d.data [.slice bo7 d.data.1 bcap7]) := by rw [hW2]; exact O7_1
  rw [← hW2] at T2x e2 ⊢
  clear hW2 O6_1 O7_1 T1c c1_7 c1f_7
  have a2_8 : W2.cell? ⟨w.heap.size, 8, none⟩ = some (.slice ao8 d.delta.1 cap8) := T2x.b1.cell 8
  go_wp2_with fail
  refine (copyBytes_is _ d.delta hi _ (layBytes.rd_below R8.out T2x.bel hhi) (Nat.le_trans hhi T2x.bel.size) (by omega)).mono ?_
  rintro e w3 ⟨v2, rfl, o2, b2⟩
  obtain ⟨bo8, bcap8, hv⟩ := bytes_formT o2
  obtain rfl := one_eq hv
  clear hv
  have T2c := T2x.call b2
  have z2 := T2x.b2.lt
  have y2 := b2.size
  have c2_8 : w3.cell? ⟨w.heap.size, 8, none⟩ = some (.slice ao8 d.delta.1 cap8) := T2c.b1.cell 8
  have c2f_8 : w3.frozen? ⟨w.heap.size, 8, none⟩ = false := T2c.b1.frozen 8
  have T3x : Two w (w3.setCell ⟨w.heap.size, 8, none⟩ (.slice bo8 d.delta.1 bcap8)) #[.int .i64 d.kind, .int .i64 d.seq, .string d.name, .int .i64 d.length, .int .i64 d.group, .int .i64 d.row, .slice bo6 d.rows.1 bcap6, .slice bo7 d.data.1 bcap7, .slice bo8 d.delta.1 bcap8] #[.int .i64 0, .int .i64 0, .string ByteArray.empty, .int .i64 0, .int .i64 0, .int .i64 0, .slice none 0 0, .slice none 0 0, .slice none 0 0] 119 119 := ⟨T2c.b1.stL [.slice bo8 d.delta.1 bcap8] 8, T2c.b2.seto _ _ (by omega), T2c.bel.setCell (Nat.le_refl _) _⟩
  have O6_2 := (O6.out.call b2).stN w.heap.size 8 [.slice bo8 d.delta.1 bcap8] (by omega)
  have O7_2 := (O7.out.call b2).stN w.heap.size 8 [.slice bo8 d.delta.1 bcap8] (by omega)
  have O8_2 := (o2.stN w.heap.size 8 [.slice bo8 d.delta.1 bcap8] (by omega))
  have e3 : (w3.setCell ⟨w.heap.size, 8, none⟩ (.slice bo8 d.delta.1 bcap8)).heap.size = w3.heap.size := by simp
  clear o2 b2 O6 O7 T2x a2_8
  go_upto_region 4 with fail
  obtain ⟨W3, hW3⟩ : ∃ x, x = w3.setCell ⟨w.heap.size, 8, none⟩ (.slice bo8 d.delta.1 bcap8) := ⟨_, rfl⟩
  have O6 : Hid (OwnT layInts W3 (w.heap.size + 1 + 1) (w1.heap.size) d.rows [.slice bo6 d.rows.1 bcap6]) := by rw [hW3]; exact O6_2
  have O7 : Hid (OwnT layBytes W3 (W1.heap.size) (w2.heap.size) d.data [.slice bo7 d.data.1 bcap7]) := by rw [hW3]; exact O7_2
  have O8 : Hid (OwnT layBytes W3 (W2.heap.size) (w3.heap.size) d.delta [.slice bo8 d.delta.1 bcap8]) := by rw [hW3]; exact O8_2
  rw [← hW3] at T3x e3 ⊢
  clear hW3 O6_2 O7_2 O8_2 T2c c2_8 c2f_8
  have y_0 : W3.cell? ⟨w.heap.size, 0, none⟩ = some (.int .i64 d.kind) := T3x.b1.cell 0
  have y_1 : W3.cell? ⟨w.heap.size, 1, none⟩ = some (.int .i64 d.seq) := T3x.b1.cell 1
  have y_2 : W3.cell? ⟨w.heap.size, 2, none⟩ = some (.string d.name) := T3x.b1.cell 2
  have y_3 : W3.cell? ⟨w.heap.size, 3, none⟩ = some (.int .i64 d.length) := T3x.b1.cell 3
  have y_4 : W3.cell? ⟨w.heap.size, 4, none⟩ = some (.int .i64 d.group) := T3x.b1.cell 4
  have y_5 : W3.cell? ⟨w.heap.size, 5, none⟩ = some (.int .i64 d.row) := T3x.b1.cell 5
  have y_6 : W3.cell? ⟨w.heap.size, 6, none⟩ = some (.slice bo6 d.rows.1 bcap6) := T3x.b1.cell 6
  have y_7 : W3.cell? ⟨w.heap.size, 7, none⟩ = some (.slice bo7 d.data.1 bcap7) := T3x.b1.cell 7
  have y_8 : W3.cell? ⟨w.heap.size, 8, none⟩ = some (.slice bo8 d.delta.1 bcap8) := T3x.b1.cell 8
  have r_0 : W3.cell? ⟨w.heap.size + 1, 0, none⟩ = some (.int .i64 0) := T3x.b2.cell 0
  have rf_0 : W3.frozen? ⟨w.heap.size + 1, 0, none⟩ = false := T3x.b2.frozen 0
  have r_1 : W3.cell? ⟨w.heap.size + 1, 1, none⟩ = some (.int .i64 0) := T3x.b2.cell 1
  have rf_1 : W3.frozen? ⟨w.heap.size + 1, 1, none⟩ = false := T3x.b2.frozen 1
  have r_2 : W3.cell? ⟨w.heap.size + 1, 2, none⟩ = some (.string ByteArray.empty) := T3x.b2.cell 2
  have rf_2 : W3.frozen? ⟨w.heap.size + 1, 2, none⟩ = false := T3x.b2.frozen 2
  have r_3 : W3.cell? ⟨w.heap.size + 1, 3, none⟩ = some (.int .i64 0) := T3x.b2.cell 3
  have rf_3 : W3.frozen? ⟨w.heap.size + 1, 3, none⟩ = false := T3x.b2.frozen 3
  have r_4 : W3.cell? ⟨w.heap.size + 1, 4, none⟩ = some (.int .i64 0) := T3x.b2.cell 4
  have rf_4 : W3.frozen? ⟨w.heap.size + 1, 4, none⟩ = false := T3x.b2.frozen 4
  have r_5 : W3.cell? ⟨w.heap.size + 1, 5, none⟩ = some (.int .i64 0) := T3x.b2.cell 5
  have rf_5 : W3.frozen? ⟨w.heap.size + 1, 5, none⟩ = false := T3x.b2.frozen 5
  have r_6 : W3.cell? ⟨w.heap.size + 1, 6, none⟩ = some (.slice none 0 0) := T3x.b2.cell 6
  have rf_6 : W3.frozen? ⟨w.heap.size + 1, 6, none⟩ = false := T3x.b2.frozen 6
  have r_7 : W3.cell? ⟨w.heap.size + 1, 7, none⟩ = some (.slice none 0 0) := T3x.b2.cell 7
  have rf_7 : W3.frozen? ⟨w.heap.size + 1, 7, none⟩ = false := T3x.b2.frozen 7
  have r_8 : W3.cell? ⟨w.heap.size + 1, 8, none⟩ = some (.slice none 0 0) := T3x.b2.cell 8
  have rf_8 : W3.frozen? ⟨w.heap.size + 1, 8, none⟩ = false := T3x.b2.frozen 8
  have HB : Hid (Below w.heap.size w W3) := T3x.bel
  have zz := T3x.b2.lt
  clear T3x
  go_wp2
  refine bodyPost_ret (v := .agg #[.int .i64 d.kind, .int .i64 d.seq, .string d.name, .int .i64 d.length, .int .i64 d.group, .int .i64 d.row, .slice bo6 d.rows.1 bcap6, .slice bo7 d.data.1 bcap7, .slice bo8 d.delta.1 bcap8]) (by simp [results, Tryz.results118, go_sem, r_0, y_0, r_1, y_1, r_2, y_2, r_3, y_3, r_4, y_4, r_5, y_5, r_6, y_6, r_7, y_7, r_8, y_8]) rfl ?_
  have F : OwnT layRec W3 (w.heap.size + 1 + 1) w3.heap.size d ([.int .i64 d.kind] ++ ([.int .i64 d.seq] ++ ([.string d.name] ++ ([.int .i64 d.length] ++ ([.int .i64 d.group] ++ ([.int .i64 d.row] ++ ([.slice bo6 d.rows.1 bcap6] ++ ([.slice bo7 d.data.1 bcap7] ++ [.slice bo8 d.delta.1 bcap8])))))))) := OwnT.conv (OwnT.pre (A := layI) (a := d.kind) (c := [.int .i64 d.kind]) ⟨rfl, Q0.out, rfl⟩ (OwnT.pre (A := layI) (a := d.seq) (c := [.int .i64 d.seq]) ⟨rfl, Q1.out, rfl⟩ (OwnT.pre (A := layS) (a := d.name) (c := [.string d.name]) ⟨rfl, Q2.out, rfl⟩ (OwnT.pre (A := layI) (a := d.length) (c := [.int .i64 d.length]) ⟨rfl, Q3.out, rfl⟩ (OwnT.pre (A := layI) (a := d.group) (c := [.int .i64 d.group]) ⟨rfl, Q4.out, rfl⟩ (OwnT.pre (A := layI) (a := d.row) (c := [.int .i64 d.row]) ⟨rfl, Q5.out, rfl⟩ (OwnT.two O6.out (OwnT.two O7.out O8.out (by omega) (by omega) (by omega)) (by omega) (by omega) (by omega))))))))
  refine ⟨[.int .i64 d.kind, .int .i64 d.seq, .string d.name, .int .i64 d.length, .int .i64 d.group, .int .i64 d.row, .slice bo6 d.rows.1 bcap6, .slice bo7 d.data.1 bcap7, .slice bo8 d.delta.1 bcap8], rfl, ?_, ?_⟩
  · exact OwnT.finb (F.weaken (Nat.le_refl _) (by omega)) (b := w.heap.size + 1) (by omega) (by omega) 0 [.int .i64 d.kind, .int .i64 d.seq, .string d.name, .int .i64 d.length, .int .i64 d.group, .int .i64 d.row, .slice bo6 d.rows.1 bcap6, .slice bo7 d.data.1 bcap7, .slice bo8 d.delta.1 bcap8] _ rfl
  · exact HB.out.trans (stN_below (by omega) [.int .i64 d.kind, .int .i64 d.seq, .string d.name, .int .i64 d.length, .int .i64 d.group, .int .i64 d.row, .slice bo6 d.rows.1 bcap6, .slice bo7 d.data.1 bcap7, .slice bo8 d.delta.1 bcap8] 0)
set_option maxHeartbeats 8000000 in
set_option maxRecDepth 20000 in
theorem copyRecS_is : ToF (layRec.slice 119) (szSl szRecD) 117 118 := fun v d hi w h hhi hn => by
  obtain ⟨n, x⟩ := d
  obtain ⟨ao, cap, hv, hm, hc⟩ := h
  cases hv
  have hn1 := szSl_n hn
  have hn2 : ∀ i, i < n → szRecD (x i) ≤ 1048576 := fun i hi => szSl_at hn hi
  simp only at hn1 hm hc
  clear hn
  go_enter Tryz.func117, Tryz.ntmps117
  go_wp2_with (at_make; refine wp_makeT layRec [.int .i64 0, .int .i64 0, .string ByteArray.empty, .int .i64 0, .int .i64 0, .int .i64 0, .slice none 0 0, .slice none 0 0, .slice none 0 0] _ 119 128 (el_Rec).hs rfl Tryz.underlying92 (el_Rec).hi x (fun _ => []) _ rfl _ _ rfl _ _ n rfl rfl rfl rfl (by omega) (by omega) ?_; intro w1 sp1 hb1)
  go_loopw [12] (fun i wr => ∃ k : Nat, k ≤ n ∧ i = .int .i64 k ∧ ∃ ce Ls, SlP layRec 119 wr w.heap.size w.heap.size n n k x ce Ls ∧ Below w.heap.size w wr) (fun i _ => n - (intOf i).toNat)
  case atStart => exact ⟨0, Nat.zero_le _, rfl, _, _, sp1, hb1⟩
  case round =>
    clear sp1 hb1
    obtain ⟨k, hk, rfl, ce, Ls, sp, hb⟩ := hrel
    by_cases hlt : k < n
    · obtain ⟨b, off, rfl, hblt, hel⟩ := hc (by omega)
      obtain ⟨ck, hrk, hcell⟩ := elem_rd (t := 0) hel hb hhi hblt hlt
      obtain ⟨ao6, cap6, ao7, cap7, ao8, cap8, rfl, -⟩ := Rec_rd hrk
      have c0 : wr.cell? ⟨b, off + k * 9, none⟩ = some (.int .i64 (x k).kind) := hcell 0 (by decide)
      have c1 : wr.cell? ⟨b, off + k * 9 + 1, none⟩ = some (.int .i64 (x k).seq) := hcell 1 (by decide)
      have c2 : wr.cell? ⟨b, off + k * 9 + 2, none⟩ = some (.string (x k).name) := hcell 2 (by decide)
      have c3 : wr.cell? ⟨b, off + k * 9 + 3, none⟩ = some (.int .i64 (x k).length) := hcell 3 (by decide)
      have c4 : wr.cell? ⟨b, off + k * 9 + 4, none⟩ = some (.int .i64 (x k).group) := hcell 4 (by decide)
      have c5 : wr.cell? ⟨b, off + k * 9 + 5, none⟩ = some (.int .i64 (x k).row) := hcell 5 (by decide)
      have c6 : wr.cell? ⟨b, off + k * 9 + 6, none⟩ = some (.slice ao6 (x k).rows.1 cap6) := hcell 6 (by decide)
      have c7 : wr.cell? ⟨b, off + k * 9 + 7, none⟩ = some (.slice ao7 (x k).data.1 cap7) := hcell 7 (by decide)
      have c8 : wr.cell? ⟨b, off + k * 9 + 8, none⟩ = some (.slice ao8 (x k).delta.1 cap8) := hcell 8 (by decide)
      clear hc hel hcell
      go_wp2_with fail
      refine (copyRec_is _ (x k) hi wr hrk (Nat.le_trans hhi hb.size) (hn2 k hlt)).mono ?_
      rintro e w2 ⟨cs', rfl, o2, hb2⟩
      obtain ⟨bao6, bcap6, bao7, bcap7, bao8, bcap8, rfl⟩ := Rec_cells o2
      obtain ⟨z0, s0⟩ := sp.some hb2 hlt (show 0 < layRec.sz by decide)
      have s0 : w2.cell? ⟨w.heap.size, k * 9, none⟩ = some z0 := s0
      have sf0 := (sp.below hb2).frozen (k * 9)
      obtain ⟨z1, s1⟩ := sp.some hb2 hlt (show 1 < layRec.sz by decide)
      have s1 : w2.cell? ⟨w.heap.size, k * 9 + 1, none⟩ = some z1 := s1
      have sf1 := (sp.below hb2).frozen (k * 9 + 1)
      obtain ⟨z2, s2⟩ := sp.some hb2 hlt (show 2 < layRec.sz by decide)
      have s2 : w2.cell? ⟨w.heap.size, k * 9 + 2, none⟩ = some z2 := s2
      have sf2 := (sp.below hb2).frozen (k * 9 + 2)
      obtain ⟨z3, s3⟩ := sp.some hb2 hlt (show 3 < layRec.sz by decide)
      have s3 : w2.cell? ⟨w.heap.size, k * 9 + 3, none⟩ = some z3 := s3
      have sf3 := (sp.below hb2).frozen (k * 9 + 3)
      obtain ⟨z4, s4⟩ := sp.some hb2 hlt (show 4 < layRec.sz by decide)
      have s4 : w2.cell? ⟨w.heap.size, k * 9 + 4, none⟩ = some z4 := s4
      have sf4 := (sp.below hb2).frozen (k * 9 + 4)
      obtain ⟨z5, s5⟩ := sp.some hb2 hlt (show 5 < layRec.sz by decide)
      have s5 : w2.cell? ⟨w.heap.size, k * 9 + 5, none⟩ = some z5 := s5
      have sf5 := (sp.below hb2).frozen (k * 9 + 5)
      obtain ⟨z6, s6⟩ := sp.some hb2 hlt (show 6 < layRec.sz by decide)
      have s6 : w2.cell? ⟨w.heap.size, k * 9 + 6, none⟩ = some z6 := s6
      have sf6 := (sp.below hb2).frozen (k * 9 + 6)
      obtain ⟨z7, s7⟩ := sp.some hb2 hlt (show 7 < layRec.sz by decide)
      have s7 : w2.cell? ⟨w.heap.size, k * 9 + 7, none⟩ = some z7 := s7
      have sf7 := (sp.below hb2).frozen (k * 9 + 7)
      obtain ⟨z8, s8⟩ := sp.some hb2 hlt (show 8 < layRec.sz by decide)
      have s8 : w2.cell? ⟨w.heap.size, k * 9 + 8, none⟩ = some z8 := s8
      have sf8 := (sp.below hb2).frozen (k * 9 + 8)
      have N := sp.next hb2 hlt o2 hb.size
      have N2 : Below w.heap.size w (stN w2 w.heap.size (k * layRec.sz) [.int .i64 (x k).kind, .int .i64 (x k).seq, .string (x k).name, .int .i64 (x k).length, .int .i64 (x k).group, .int .i64 (x k).row, .slice bao6 (x k).rows.1 bcap6, .slice bao7 (x k).data.1 bcap7, .slice bao8 (x k).delta.1 bcap8]) := (hb.trans (hb2.mono hb.size)).trans (stN_below (Nat.le_refl _) _ _)
      clear o2 hb2 sp hb
      go_wp2_with fail
      go_roundw
      case rel =>
        obtain ⟨ce', Ls', N⟩ := N
        exact ⟨k + 1, by omega, by go_num, ce', Ls', N, N2⟩
      case measure => simp [intOf]; omega
    · obtain rfl : k = n := by omega
      go_wp2
      go_ret
      exact ⟨_, rfl, sp.done (Nat.le_refl _), hb⟩
set_option maxHeartbeats 8000000 in
set_option maxRecDepth 20000 in
theorem copyTape_is : ToV layTape szTapeD 84 := fun cs d hi w r hhi hn => by
  obtain ⟨ao1, cap1, rfl, h1⟩ := Tape_rd r
  clear r
  unfold szTapeD at hn
  have R1 : Hid ((layRec.slice 119).rd w hi d.recs [.slice ao1 d.recs.1 cap1]) := h1
  clear h1
  have T0 := two_newb w #[.bool d.wiped, .slice ao1 d.recs.1 cap1] #[.bool false, .slice none 0 0] 94 94
  go_enter Tryz.func84, Tryz.ntmps84
  go_wp2_with fail
  refine (copyRecS_is _ d.recs hi _ ((layRec.slice 119).rd_below R1.out T0.bel hhi) (Nat.le_trans hhi T0.bel.size) (by omega)).mono ?_
  rintro e w1 ⟨v0, rfl, o0, b0⟩
  obtain ⟨bo1, bcap1, hv⟩ := sl_formT o0
  obtain rfl := one_eq hv
  clear hv
  have T0c := T0.call b0
  have z0 := T0.b2.lt
  have y0 := b0.size
  have c0_1 : w1.cell? ⟨w.heap.size, 1, none⟩ = some (.slice ao1 d.recs.1 cap1) := T0c.b1.cell 1
  have c0f_1 : w1.frozen? ⟨w.heap.size, 1, none⟩ = false := T0c.b1.frozen 1
  have T1x : Two w (w1.setCell ⟨w.heap.size, 1, none⟩ (.slice bo1 d.recs.1 bcap1)) #[.bool d.wiped, .slice bo1 d.recs.1 bcap1] #[.bool false, .slice none 0 0] 94 94 := ⟨T0c.b1.stL [.slice bo1 d.recs.1 bcap1] 1, T0c.b2.seto _ _ (by omega), T0c.bel.setCell (Nat.le_refl _) _⟩
  have O1_0 := (o0.stN w.heap.size 1 [.slice bo1 d.recs.1 bcap1] (by omega))
  have e1 : (w1.setCell ⟨w.heap.size, 1, none⟩ (.slice bo1 d.recs.1 bcap1)).heap.size = w1.heap.size := by simp
  clear o0 b0 
  go_upto_region 2 with fail
  obtain ⟨W1, hW1⟩ : ∃ x, x = w1.setCell ⟨w.heap.size, 1, none⟩ (.slice bo1 d.recs.1 bcap1) := ⟨_, rfl⟩
  have O1 : Hid (OwnT (layRec.slice 119) W1 (w.heap.size + 1 + 1) (w1.heap.size) d.recs [.slice bo1 d.recs.1 bcap1]) := by rw [hW1]; exact OwnT.weaken O1_0 (by simp) (Nat.le_refl _)
  rw [← hW1] at T1x e1 ⊢
  clear hW1 O1_0 T0c c0_1 c0f_1
  have y_0 : W1.cell? ⟨w.heap.size, 0, none⟩ = some (.bool d.wiped) := T1x.b1.cell 0
  have y_1 : W1.cell? ⟨w.heap.size, 1, none⟩ = some (.slice bo1 d.recs.1 bcap1) := T1x.b1.cell 1
  have r_0 : W1.cell? ⟨w.heap.size + 1, 0, none⟩ = some (.bool false) := T1x.b2.cell 0
  have rf_0 : W1.frozen? ⟨w.heap.size + 1, 0, none⟩ = false := T1x.b2.frozen 0
  have r_1 : W1.cell? ⟨w.heap.size + 1, 1, none⟩ = some (.slice none 0 0) := T1x.b2.cell 1
  have rf_1 : W1.frozen? ⟨w.heap.size + 1, 1, none⟩ = false := T1x.b2.frozen 1
  have HB : Hid (Below w.heap.size w W1) := T1x.bel
  have zz := T1x.b2.lt
  clear T1x
  go_wp2
  refine bodyPost_ret (v := .agg #[.bool d.wiped, .slice bo1 d.recs.1 bcap1]) (by simp [results, Tryz.results84, go_sem, r_0, y_0, r_1, y_1]) rfl ?_
  have F : OwnT layTape W1 (w.heap.size + 1 + 1) w1.heap.size d ([.bool d.wiped] ++ [.slice bo1 d.recs.1 bcap1]) := OwnT.conv (OwnT.pre (A := layB) (a := d.wiped) (c := [.bool d.wiped]) ⟨rfl, trivial, rfl⟩ O1.out)
  refine ⟨[.bool d.wiped, .slice bo1 d.recs.1 bcap1], rfl, ?_, ?_⟩
  · exact OwnT.finb (F.weaken (Nat.le_refl _) (by omega)) (b := w.heap.size + 1) (by omega) (by omega) 0 [.bool d.wiped, .slice bo1 d.recs.1 bcap1] _ rfl
  · exact HB.out.trans (stN_below (by omega) [.bool d.wiped, .slice bo1 d.recs.1 bcap1] 0)
set_option maxHeartbeats 8000000 in
set_option maxRecDepth 20000 in
theorem copyTapeS_is : ToF (layTape.slice 94) (szSl szTapeD) 83 84 := fun v d hi w h hhi hn => by
  obtain ⟨n, x⟩ := d
  obtain ⟨ao, cap, hv, hm, hc⟩ := h
  cases hv
  have hn1 := szSl_n hn
  have hn2 : ∀ i, i < n → szTapeD (x i) ≤ 1048576 := fun i hi => szSl_at hn hi
  simp only at hn1 hm hc
  clear hn
  go_enter Tryz.func83, Tryz.ntmps83
  go_wp2_with (at_make; refine wp_makeT layTape [.bool false, .slice none 0 0] _ 94 32 (el_Tape).hs rfl Tryz.underlying32 (el_Tape).hi x (fun _ => []) _ rfl _ _ rfl _ _ n rfl rfl rfl rfl (by omega) (by omega) ?_; intro w1 sp1 hb1)
  go_loopw [12] (fun i wr => ∃ k : Nat, k ≤ n ∧ i = .int .i64 k ∧ ∃ ce Ls, SlP layTape 94 wr w.heap.size w.heap.size n n k x ce Ls ∧ Below w.heap.size w wr) (fun i _ => n - (intOf i).toNat)
  case atStart => exact ⟨0, Nat.zero_le _, rfl, _, _, sp1, hb1⟩
  case round =>
    clear sp1 hb1
    obtain ⟨k, hk, rfl, ce, Ls, sp, hb⟩ := hrel
    by_cases hlt : k < n
    · obtain ⟨b, off, rfl, hblt, hel⟩ := hc (by omega)
      obtain ⟨ck, hrk, hcell⟩ := elem_rd (t := 0) hel hb hhi hblt hlt
      obtain ⟨ao1, cap1, rfl, -⟩ := Tape_rd hrk
      have c0 : wr.cell? ⟨b, off + k * 2, none⟩ = some (.bool (x k).wiped) := hcell 0 (by decide)
      have c1 : wr.cell? ⟨b, off + k * 2 + 1, none⟩ = some (.slice ao1 (x k).recs.1 cap1) := hcell 1 (by decide)
      clear hc hel hcell
      go_wp2_with fail
      refine (copyTape_is _ (x k) hi wr hrk (Nat.le_trans hhi hb.size) (hn2 k hlt)).mono ?_
      rintro e w2 ⟨cs', rfl, o2, hb2⟩
      obtain ⟨bao1, bcap1, rfl⟩ := Tape_cells o2
      obtain ⟨z0, s0⟩ := sp.some hb2 hlt (show 0 < layTape.sz by decide)
      have s0 : w2.cell? ⟨w.heap.size, k * 2, none⟩ = some z0 := s0
      have sf0 := (sp.below hb2).frozen (k * 2)
      obtain ⟨z1, s1⟩ := sp.some hb2 hlt (show 1 < layTape.sz by decide)
      have s1 : w2.cell? ⟨w.heap.size, k * 2 + 1, none⟩ = some z1 := s1
      have sf1 := (sp.below hb2).frozen (k * 2 + 1)
      have N := sp.next hb2 hlt o2 hb.size
      have N2 : Below w.heap.size w (stN w2 w.heap.size (k * layTape.sz) [.bool (x k).wiped, .slice bao1 (x k).recs.1 bcap1]) := (hb.trans (hb2.mono hb.size)).trans (stN_below (Nat.le_refl _) _ _)
      clear o2 hb2 sp hb
      go_wp2_with fail
      go_roundw
      case rel =>
        obtain ⟨ce', Ls', N⟩ := N
        exact ⟨k + 1, by omega, by go_num, ce', Ls', N, N2⟩
      case measure => simp [intOf]; omega
    · obtain rfl : k = n := by omega
      go_wp2
      go_ret
      exact ⟨_, rfl, sp.done (Nat.le_refl _), hb⟩
end Go.Proofs.YtbmfndjglndnlaaGreat

namespace Go.Proofs.YtbmfndjglndnlaaGreat
open Go.RowKit F256
set_option linter.unusedVariables false
set_option linter.unusedSimpArgs false
set_option maxHeartbeats 8000000 in
set_option maxRecDepth 20000 in
theorem copyBlock_is : ToV layBlock szBlockD 62 := fun cs d hi w r hhi hn => by
  obtain ⟨ao1, cap1, rfl, h1, k0⟩ := Block_rd r
  clear r
  unfold szBlockD at hn
  have R1 : Hid (layBytes.rd w hi d.bytes [.slice ao1 d.bytes.1 cap1]) := h1
  clear h1
  have Q0 : Hid (-9223372036854775808 ≤ d.stamp ∧ d.stamp ≤ 9223372036854775807) := k0
  clear k0
  have T0 := two_newb w #[.int .i64 d.stamp, .slice ao1 d.bytes.1 cap1] #[.int .i64 0, .slice none 0 0] 46 46
  go_enter Tryz.func62, Tryz.ntmps62
  go_wp2_with fail
  refine (copyBytes_is _ d.bytes hi _ (layBytes.rd_below R1.out T0.bel hhi) (Nat.le_trans hhi T0.bel.size) (by omega)).mono ?_
  rintro e w1 ⟨v0, rfl, o0, b0⟩
  obtain ⟨bo1, bcap1, hv⟩ := bytes_formT o0
  obtain rfl := one_eq hv
  clear hv
  have T0c := T0.call b0
  have z0 := T0.b2.lt
  have y0 := b0.size
  have c0_1 : w1.cell? ⟨w.heap.size, 1, none⟩ = some (.slice ao1 d.bytes.1 cap1) := T0c.b1.cell 1
  have c0f_1 : w1.frozen? ⟨w.heap.size, 1, none⟩ = false := T0c.b1.frozen 1
  have T1x : Two w (w1.setCell ⟨w.heap.size, 1, none⟩ (.slice bo1 d.bytes.1 bcap1)) #[.int .i64 d.stamp, .slice bo1 d.bytes.1 bcap1] #[.int .i64 0, .slice none 0 0] 46 46 := ⟨T0c.b1.stL [.slice bo1 d.bytes.1 bcap1] 1, T0c.b2.seto _ _ (by omega), T0c.bel.setCell (Nat.le_refl _) _⟩
  have O1_0 := (o0.stN w.heap.size 1 [.slice bo1 d.bytes.1 bcap1] (by omega))
  have e1 : (w1.setCell ⟨w.heap.size, 1, none⟩ (.slice bo1 d.bytes.1 bcap1)).heap.size = w1.heap.size := by simp
  clear o0 b0 
  go_upto_region 2 with fail
  obtain ⟨W1, hW1⟩ : ∃ x, x = w1.setCell ⟨w.heap.size, 1, none⟩ (.slice bo1 d.bytes.1 bcap1) := ⟨_, rfl⟩
  have O1 : Hid (OwnT layBytes W1 (w.heap.size + 1 + 1) (w1.heap.size) d.bytes [.slice bo1 d.bytes.1 bcap1]) := by rw [hW1]; exact OwnT.weaken O1_0 (by simp) (Nat.le_refl _)
  rw [← hW1] at T1x e1 ⊢
  clear hW1 O1_0 T0c c0_1 c0f_1
  have y_0 : W1.cell? ⟨w.heap.size, 0, none⟩ = some (.int .i64 d.stamp) := T1x.b1.cell 0
  have y_1 : W1.cell? ⟨w.heap.size, 1, none⟩ = some (.slice bo1 d.bytes.1 bcap1) := T1x.b1.cell 1
  have r_0 : W1.cell? ⟨w.heap.size + 1, 0, none⟩ = some (.int .i64 0) := T1x.b2.cell 0
  have rf_0 : W1.frozen? ⟨w.heap.size + 1, 0, none⟩ = false := T1x.b2.frozen 0
  have r_1 : W1.cell? ⟨w.heap.size + 1, 1, none⟩ = some (.slice none 0 0) := T1x.b2.cell 1
  have rf_1 : W1.frozen? ⟨w.heap.size + 1, 1, none⟩ = false := T1x.b2.frozen 1
  have HB : Hid (Below w.heap.size w W1) := T1x.bel
  have zz := T1x.b2.lt
  clear T1x
  go_wp2
  refine bodyPost_ret (v := .agg #[.int .i64 d.stamp, .slice bo1 d.bytes.1 bcap1]) (by simp [results, Tryz.results62, go_sem, r_0, y_0, r_1, y_1]) rfl ?_
  have F : OwnT layBlock W1 (w.heap.size + 1 + 1) w1.heap.size d ([.int .i64 d.stamp] ++ [.slice bo1 d.bytes.1 bcap1]) := OwnT.conv (OwnT.pre (A := layI) (a := d.stamp) (c := [.int .i64 d.stamp]) ⟨rfl, Q0.out, rfl⟩ O1.out)
  refine ⟨[.int .i64 d.stamp, .slice bo1 d.bytes.1 bcap1], rfl, ?_, ?_⟩
  · exact OwnT.finb (F.weaken (Nat.le_refl _) (by omega)) (b := w.heap.size + 1) (by omega) (by omega) 0 [.int .i64 d.stamp, .slice bo1 d.bytes.1 bcap1] _ rfl
  · exact HB.out.trans (stN_below (by omega) [.int .i64 d.stamp, .slice bo1 d.bytes.1 bcap1] 0)
set_option maxHeartbeats 8000000 in
set_option maxRecDepth 20000 in
theorem copyBlockS_is : ToF (layBlock.slice 46) (szSl szBlockD) 142 62 := fun v d hi w h hhi hn => by
  obtain ⟨n, x⟩ := d
  obtain ⟨ao, cap, hv, hm, hc⟩ := h
  cases hv
  have hn1 := szSl_n hn
  have hn2 : ∀ i, i < n → szBlockD (x i) ≤ 1048576 := fun i hi => szSl_at hn hi
  simp only at hn1 hm hc
  clear hn
  go_enter Tryz.func142, Tryz.ntmps142
  go_wp2_with (at_make; refine wp_makeT layBlock [.int .i64 0, .slice none 0 0] _ 46 32 (el_Block).hs rfl Tryz.underlying82 (el_Block).hi x (fun _ => []) _ rfl _ _ rfl _ _ n rfl rfl rfl rfl (by omega) (by omega) ?_; intro w1 sp1 hb1)
  go_loopw [12] (fun i wr => ∃ k : Nat, k ≤ n ∧ i = .int .i64 k ∧ ∃ ce Ls, SlP layBlock 46 wr w.heap.size w.heap.size n n k x ce Ls ∧ Below w.heap.size w wr) (fun i _ => n - (intOf i).toNat)
  case atStart => exact ⟨0, Nat.zero_le _, rfl, _, _, sp1, hb1⟩
  case round =>
    clear sp1 hb1
    obtain ⟨k, hk, rfl, ce, Ls, sp, hb⟩ := hrel
    by_cases hlt : k < n
    · obtain ⟨b, off, rfl, hblt, hel⟩ := hc (by omega)
      obtain ⟨ck, hrk, hcell⟩ := elem_rd (t := 0) hel hb hhi hblt hlt
      obtain ⟨ao1, cap1, rfl, -⟩ := Block_rd hrk
      have c0 : wr.cell? ⟨b, off + k * 2, none⟩ = some (.int .i64 (x k).stamp) := hcell 0 (by decide)
      have c1 : wr.cell? ⟨b, off + k * 2 + 1, none⟩ = some (.slice ao1 (x k).bytes.1 cap1) := hcell 1 (by decide)
      clear hc hel hcell
      go_wp2_with fail
      refine (copyBlock_is _ (x k) hi wr hrk (Nat.le_trans hhi hb.size) (hn2 k hlt)).mono ?_
      rintro e w2 ⟨cs', rfl, o2, hb2⟩
      obtain ⟨bao1, bcap1, rfl⟩ := Block_cells o2
      obtain ⟨z0, s0⟩ := sp.some hb2 hlt (show 0 < layBlock.sz by decide)
      have s0 : w2.cell? ⟨w.heap.size, k * 2, none⟩ = some z0 := s0
      have sf0 := (sp.below hb2).frozen (k * 2)
      obtain ⟨z1, s1⟩ := sp.some hb2 hlt (show 1 < layBlock.sz by decide)
      have s1 : w2.cell? ⟨w.heap.size, k * 2 + 1, none⟩ = some z1 := s1
      have sf1 := (sp.below hb2).frozen (k * 2 + 1)
      have N := sp.next hb2 hlt o2 hb.size
      have N2 : Below w.heap.size w (stN w2 w.heap.size (k * layBlock.sz) [.int .i64 (x k).stamp, .slice bao1 (x k).bytes.1 bcap1]) := (hb.trans (hb2.mono hb.size)).trans (stN_below (Nat.le_refl _) _ _)
      clear o2 hb2 sp hb
      go_wp2_with fail
      go_roundw
      case rel =>
        obtain ⟨ce', Ls', N⟩ := N
        exact ⟨k + 1, by omega, by go_num, ce', Ls', N, N2⟩
      case measure => simp [intOf]; omega
    · obtain rfl : k = n := by omega
      go_wp2
      go_ret
      exact ⟨_, rfl, sp.done (Nat.le_refl _), hb⟩
set_option maxHeartbeats 8000000 in
set_option maxRecDepth 20000 in
theorem copyDrive_is : ToV layDrive szDriveD 116 := fun cs d hi w r hhi hn => by
  obtain ⟨ao1, cap1, rfl, h1⟩ := Drive_rd r
  clear r
  unfold szDriveD at hn
  have R1 : Hid ((layBlock.slice 46).rd w hi d.blocks [.slice ao1 d.blocks.1 cap1]) := h1
  clear h1
  have T0 := two_newb w #[.bool d.wiped, .slice ao1 d.blocks.1 cap1] #[.bool false, .slice none 0 0] 84 84
  go_enter Tryz.func116, Tryz.ntmps116
  go_wp2_with fail
  refine (copyBlockS_is _ d.blocks hi _ ((layBlock.slice 46).rd_below R1.out T0.bel hhi) (Nat.le_trans hhi T0.bel.size) (by omega)).mono ?_
  rintro e w1 ⟨v0, rfl, o0, b0⟩
  obtain ⟨bo1, bcap1, hv⟩ := sl_formT o0
  obtain rfl := one_eq hv
  clear hv
  have T0c := T0.call b0
  have z0 := T0.b2.lt
  have y0 := b0.size
  have c0_1 : w1.cell? ⟨w.heap.size, 1, none⟩ = some (.slice ao1 d.blocks.1 cap1) := T0c.b1.cell 1
  have c0f_1 : w1.frozen? ⟨w.heap.size, 1, none⟩ = false := T0c.b1.frozen 1
  have T1x : Two w (w1.setCell ⟨w.heap.size, 1, none⟩ (.slice bo1 d.blocks.1 bcap1)) #[.bool d.wiped, .slice bo1 d.blocks.1 bcap1] #[.bool false, .slice none 0 0] 84 84 := ⟨T0c.b1.stL [.slice bo1 d.blocks.1 bcap1] 1, T0c.b2.seto _ _ (by omega), T0c.bel.setCell (Nat.le_refl _) _⟩
  have O1_0 := (o0.stN w.heap.size 1 [.slice bo1 d.blocks.1 bcap1] (by omega))
  have e1 : (w1.setCell ⟨w.heap.size, 1, none⟩ (.slice bo1 d.blocks.1 bcap1)).heap.size = w1.heap.size := by simp
  clear o0 b0 
  go_upto_region 2 with fail
  obtain ⟨W1, hW1⟩ : ∃ x, x = w1.setCell ⟨w.heap.size, 1, none⟩ (.slice bo1 d.blocks.1 bcap1) := ⟨_, rfl⟩
  have O1 : Hid (OwnT (layBlock.slice 46) W1 (w.heap.size + 1 + 1) (w1.heap.size) d.blocks [.slice bo1 d.blocks.1 bcap1]) := by rw [hW1]; exact OwnT.weaken O1_0 (by simp) (Nat.le_refl _)
  rw [← hW1] at T1x e1 ⊢
  clear hW1 O1_0 T0c c0_1 c0f_1
  have y_0 : W1.cell? ⟨w.heap.size, 0, none⟩ = some (.bool d.wiped) := T1x.b1.cell 0
  have y_1 : W1.cell? ⟨w.heap.size, 1, none⟩ = some (.slice bo1 d.blocks.1 bcap1) := T1x.b1.cell 1
  have r_0 : W1.cell? ⟨w.heap.size + 1, 0, none⟩ = some (.bool false) := T1x.b2.cell 0
  have rf_0 : W1.frozen? ⟨w.heap.size + 1, 0, none⟩ = false := T1x.b2.frozen 0
  have r_1 : W1.cell? ⟨w.heap.size + 1, 1, none⟩ = some (.slice none 0 0) := T1x.b2.cell 1
  have rf_1 : W1.frozen? ⟨w.heap.size + 1, 1, none⟩ = false := T1x.b2.frozen 1
  have HB : Hid (Below w.heap.size w W1) := T1x.bel
  have zz := T1x.b2.lt
  clear T1x
  go_wp2
  refine bodyPost_ret (v := .agg #[.bool d.wiped, .slice bo1 d.blocks.1 bcap1]) (by simp [results, Tryz.results116, go_sem, r_0, y_0, r_1, y_1]) rfl ?_
  have F : OwnT layDrive W1 (w.heap.size + 1 + 1) w1.heap.size d ([.bool d.wiped] ++ [.slice bo1 d.blocks.1 bcap1]) := OwnT.conv (OwnT.pre (A := layB) (a := d.wiped) (c := [.bool d.wiped]) ⟨rfl, trivial, rfl⟩ O1.out)
  refine ⟨[.bool d.wiped, .slice bo1 d.blocks.1 bcap1], rfl, ?_, ?_⟩
  · exact OwnT.finb (F.weaken (Nat.le_refl _) (by omega)) (b := w.heap.size + 1) (by omega) (by omega) 0 [.bool d.wiped, .slice bo1 d.blocks.1 bcap1] _ rfl
  · exact HB.out.trans (stN_below (by omega) [.bool d.wiped, .slice bo1 d.blocks.1 bcap1] 0)
set_option maxHeartbeats 8000000 in
set_option maxRecDepth 20000 in
theorem copyDriveS_is : ToF (layDrive.slice 84) (szSl szDriveD) 115 116 := fun v d hi w h hhi hn => by
  obtain ⟨n, x⟩ := d
  obtain ⟨ao, cap, hv, hm, hc⟩ := h
  cases hv
  have hn1 := szSl_n hn
  have hn2 : ∀ i, i < n → szDriveD (x i) ≤ 1048576 := fun i hi => szSl_at hn hi
  simp only at hn1 hm hc
  clear hn
  go_enter Tryz.func115, Tryz.ntmps115
  go_wp2_with (at_make; refine wp_makeT layDrive [.bool false, .slice none 0 0] _ 84 32 (el_Drive).hs rfl Tryz.underlying85 (el_Drive).hi x (fun _ => []) _ rfl _ _ rfl _ _ n rfl rfl rfl rfl (by omega) (by omega) ?_; intro w1 sp1 hb1)
  go_loopw [12] (fun i wr => ∃ k : Nat, k ≤ n ∧ i = .int .i64 k ∧ ∃ ce Ls, SlP layDrive 84 wr w.heap.size w.heap.size n n k x ce Ls ∧ Below w.heap.size w wr) (fun i _ => n - (intOf i).toNat)
  case atStart => exact ⟨0, Nat.zero_le _, rfl, _, _, sp1, hb1⟩
  case round =>
    clear sp1 hb1
    obtain ⟨k, hk, rfl, ce, Ls, sp, hb⟩ := hrel
    by_cases hlt : k < n
    · obtain ⟨b, off, rfl, hblt, hel⟩ := hc (by omega)
      obtain ⟨ck, hrk, hcell⟩ := elem_rd (t := 0) hel hb hhi hblt hlt
      obtain ⟨ao1, cap1, rfl, -⟩ := Drive_rd hrk
      have c0 : wr.cell? ⟨b, off + k * 2, none⟩ = some (.bool (x k).wiped) := hcell 0 (by decide)
      have c1 : wr.cell? ⟨b, off + k * 2 + 1, none⟩ = some (.slice ao1 (x k).blocks.1 cap1) := hcell 1 (by decide)
      clear hc hel hcell
      go_wp2_with fail
      refine (copyDrive_is _ (x k) hi wr hrk (Nat.le_trans hhi hb.size) (hn2 k hlt)).mono ?_
      rintro e w2 ⟨cs', rfl, o2, hb2⟩
      obtain ⟨bao1, bcap1, rfl⟩ := Drive_cells o2
      obtain ⟨z0, s0⟩ := sp.some hb2 hlt (show 0 < layDrive.sz by decide)
      have s0 : w2.cell? ⟨w.heap.size, k * 2, none⟩ = some z0 := s0
      have sf0 := (sp.below hb2).frozen (k * 2)
      obtain ⟨z1, s1⟩ := sp.some hb2 hlt (show 1 < layDrive.sz by decide)
      have s1 : w2.cell? ⟨w.heap.size, k * 2 + 1, none⟩ = some z1 := s1
      have sf1 := (sp.below hb2).frozen (k * 2 + 1)
      have N := sp.next hb2 hlt o2 hb.size
      have N2 : Below w.heap.size w (stN w2 w.heap.size (k * layDrive.sz) [.bool (x k).wiped, .slice bao1 (x k).blocks.1 bcap1]) := (hb.trans (hb2.mono hb.size)).trans (stN_below (Nat.le_refl _) _ _)
      clear o2 hb2 sp hb
      go_wp2_with fail
      go_roundw
      case rel =>
        obtain ⟨ce', Ls', N⟩ := N
        exact ⟨k + 1, by omega, by go_num, ce', Ls', N, N2⟩
      case measure => simp [intOf]; omega
    · obtain rfl : k = n := by omega
      go_wp2
      go_ret
      exact ⟨_, rfl, sp.done (Nat.le_refl _), hb⟩
set_option maxHeartbeats 4000000 in
theorem copyGroup_is : ToS (layDrive.slice 84) (szSl szDriveD) 81 := fun v d hi w h hhi hn => by
  have C := copyDriveS_is v d hi w h hhi hn
  obtain ⟨ao, cap, hv, hm, hc⟩ := h
  cases hv
  clear hm hc
  go_enter Tryz.func81, Tryz.ntmps81
  go_wp2_with fail
  refine C.mono ?_
  rintro e w1 ⟨v1, rfl, o1, b1⟩
  have HO : Hid (OwnT (layDrive.slice 84) w1 w.heap.size w1.heap.size d [v1]) := o1
  have HB : Hid (Below w.heap.size w w1) := b1
  clear o1 b1 C
  go_wp2
  go_ret
  exact ⟨v1, rfl, HO.out, HB.out⟩
set_option maxHeartbeats 4000000 in
theorem copyDriveSS_is : ToF ((layDrive.slice 84).slice 85) (szSl (szSl szDriveD)) 80 81 := fun v d hi w h hhi hn => by
  obtain ⟨n, x⟩ := d
  obtain ⟨ao, cap, hv, hm, hc⟩ := h
  cases hv
  have hn1 := szSl_n hn
  have hn2 : ∀ i, i < n → szSl szDriveD (x i) ≤ 1048576 := fun i hi => szSl_at hn hi
  simp only at hn1 hm hc
  clear hn
  go_enter Tryz.func80, Tryz.ntmps80
  go_wp2_with (at_make; refine wp_makeT (layDrive.slice 84) [.slice none 0 0] _ 85 24 el_DriveS.hs rfl Tryz.underlying31 el_DriveS.hi x (fun _ => []) _ rfl _ _ rfl _ _ n rfl rfl rfl rfl (by omega) (by omega) ?_; intro w1 sp1 hb1)
  go_loopw [12] (fun i wr => ∃ k : Nat, k ≤ n ∧ i = .int .i64 k ∧ ∃ ce Ls, SlP (layDrive.slice 84) 85 wr w.heap.size w.heap.size n n k x ce Ls ∧ Below w.heap.size w wr) (fun i _ => n - (intOf i).toNat)
  case atStart => exact ⟨0, Nat.zero_le _, rfl, _, _, sp1, hb1⟩
  case round =>
    clear sp1 hb1
    obtain ⟨k, hk, rfl, ce, Ls, sp, hb⟩ := hrel
    by_cases hlt : k < n
    · obtain ⟨b, off, rfl, hblt, hel⟩ := hc (by omega)
      obtain ⟨ck, hrk, hcell⟩ := elem_rd (t := 0) hel hb hhi hblt hlt
      obtain ⟨ao1, cap1, rfl⟩ := sl_form hrk
      have c0 : wr.cell? ⟨b, off + k, none⟩ = some (.slice ao1 (x k).1 cap1) := by
        have := hcell 0 (by decide)
        have e : off + (k * (layDrive.slice 84).sz + 0) = off + k := by show off + (k * 1 + 0) = off + k; omega
        rw [e] at this
        exact this
      clear hc hel hcell
      go_wp2_with fail
      refine (copyGroup_is _ (x k) hi wr hrk (Nat.le_trans hhi hb.size) (hn2 k hlt)).mono ?_
      rintro e w2 ⟨v2, rfl, o2, hb2⟩
      obtain ⟨bao1, bcap1, hv2⟩ := sl_formT o2
      obtain rfl := one_eq hv2
      obtain ⟨z0, s0⟩ := sp.some hb2 hlt (show 0 < (layDrive.slice 84).sz by decide)
      have e0 : k * (layDrive.slice 84).sz + 0 = k := by show k * 1 + 0 = k; omega
      rw [e0] at s0
      have sf0 := (sp.below hb2).frozen k
      have N := sp.next hb2 hlt o2 hb.size
      have e1 : k * (layDrive.slice 84).sz = k := by show k * 1 = k; omega
      rw [e1] at N
      have N2 : Below w.heap.size w (stN w2 w.heap.size k [.slice bao1 (x k).1 bcap1]) := (hb.trans (hb2.mono hb.size)).trans (stN_below (Nat.le_refl _) _ _)
      clear o2 hb2 sp hb hv2
      go_wp2_with fail
      go_roundw
      case rel =>
        obtain ⟨ce', Ls', N⟩ := N
        exact ⟨k + 1, by omega, by go_num, ce', Ls', N, N2⟩
      case measure => simp [intOf]; omega
    · obtain rfl : k = n := by omega
      go_wp2
      go_ret
      exact ⟨_, rfl, sp.done (Nat.le_refl _), hb⟩
end Go.Proofs.YtbmfndjglndnlaaGreat

namespace Go.Proofs.YtbmfndjglndnlaaGreat
open Go.RowKit F256
set_option linter.unusedVariables false
set_option linter.unusedSimpArgs false
set_option maxHeartbeats 8000000 in
set_option maxRecDepth 20000 in
theorem copyWorld_is : ToV layWorld szWorldD 46 := fun cs d hi w r hhi hn => by
  obtain ⟨ao1, cap1, ao2, cap2, ao3, cap3, rfl, h1, h2, h3, k0, k4, k5⟩ := World_rd r
  clear r
  unfold szWorldD at hn
  have R1 : Hid (((layDrive.slice 84).slice 85).rd w hi d.groups [.slice ao1 d.groups.1 cap1]) := h1
  have R2 : Hid (layInts.rd w hi d.on [.slice ao2 d.on.1 cap2]) := h2
  have R3 : Hid ((layTape.slice 94).rd w hi d.tapes [.slice ao3 d.tapes.1 cap3]) := h3
  clear h1 h2 h3
  have Q0 : Hid (∀ i, -9223372036854775808 ≤ d.shape i ∧ d.shape i ≤ 9223372036854775807) := k0
  have Q4 : Hid (-9223372036854775808 ≤ d.writes ∧ d.writes ≤ 9223372036854775807) := k4
  have Q5 : Hid (-9223372036854775808 ≤ d.stop ∧ d.stop ≤ 9223372036854775807) := k5
  clear k0 k4 k5
  have T0 := two_newb w #[.int .i64 (d.shape 0), .int .i64 (d.shape 1), .int .i64 (d.shape 2), .int .i64 (d.shape 3), .int .i64 (d.shape 4), .int .i64 (d.shape 5), .int .i64 (d.shape 6), .int .i64 (d.shape 7), .int .i64 (d.shape 8), .slice ao1 d.groups.1 cap1, .slice ao2 d.on.1 cap2, .slice ao3 d.tapes.1 cap3, .int .i64 d.writes, .int .i64 d.stop, .bool d.down] #[.int .i64 0, .int .i64 0, .int .i64 0, .int .i64 0, .int .i64 0, .int .i64 0, .int .i64 0, .int .i64 0, .int .i64 0, .slice none 0 0, .slice none 0 0, .slice none 0 0, .int .i64 0, .int .i64 0, .bool false] 34 34
  go_enter Tryz.func46, Tryz.ntmps46
  go_wp2_with fail
  refine (copyDriveSS_is _ d.groups hi _ (((layDrive.slice 84).slice 85).rd_below R1.out T0.bel hhi) (Nat.le_trans hhi T0.bel.size) (by omega)).mono ?_
  rintro e w1 ⟨v0, rfl, o0, b0⟩
  obtain ⟨bo1, bcap1, hv⟩ := sl_formT o0
  obtain rfl := one_eq hv
  clear hv
  have T0c := T0.call b0
  have z0 := T0.b2.lt
  have y0 := b0.size
  have c0_9 : w1.cell? ⟨w.heap.size, 9, none⟩ = some (.slice ao1 d.groups.1 cap1) := T0c.b1.cell 9
  have c0f_9 : w1.frozen? ⟨w.heap.size, 9, none⟩ = false := T0c.b1.frozen 9
  have T1x : Two w (w1.setCell ⟨w.heap.size, 9, none⟩ (.slice bo1 d.groups.1 bcap1)) #[.int .i64 (d.shape 0), .int .i64 (d.shape 1), .int .i64 (d.shape 2), .int .i64 (d.shape 3), .int .i64 (d.shape 4), .int .i64 (d.shape 5), .int .i64 (d.shape 6), .int .i64 (d.shape 7), .int .i64 (d.shape 8), .slice bo1 d.groups.1 bcap1, .slice ao2 d.on.1 cap2, .slice ao3 d.tapes.1 cap3, .int .i64 d.writes, .int .i64 d.stop, .bool d.down] #[.int .i64 0, .int .i64 0, .int .i64 0, .int .i64 0, .int .i64 0, .int .i64 0, .int .i64 0, .int .i64 0, .int .i64 0, .slice none 0 0, .slice none 0 0, .slice none 0 0, .int .i64 0, .int .i64 0, .bool false] 34 34 := ⟨T0c.b1.stL [.slice bo1 d.groups.1 bcap1] 9, T0c.b2.seto _ _ (by omega), T0c.bel.setCell (Nat.le_refl _) _⟩
  have O1_0 := (o0.stN w.heap.size 9 [.slice bo1 d.groups.1 bcap1] (by omega))
  have e1 : (w1.setCell ⟨w.heap.size, 9, none⟩ (.slice bo1 d.groups.1 bcap1)).heap.size = w1.heap.size := by simp
  clear o0 b0 
  go_upto_region 2 with fail
  obtain ⟨W1, hW1⟩ : ∃ x, x = w1.setCell ⟨w.heap.size, 9, none⟩ (.slice bo1 d.groups.1 bcap1) := ⟨_, rfl⟩
  have O1 : Hid (OwnT ((layDrive.slice 84).slice 85) W1 (w.heap.size + 1 + 1) (w1.heap.size) d.groups [.slice bo1 d.groups.1 bcap1]) := by rw [hW1]; exact OwnT.weaken O1_0 (by simp) (Nat.le_refl _)
  rw [← hW1] at T1x e1 ⊢
  clear hW1 O1_0 T0c c0_9 c0f_9
  have a1_10 : W1.cell? ⟨w.heap.size, 10, none⟩ = some (.slice ao2 d.on.1 cap2) := T1x.b1.cell 10
  go_wp2_with fail
  refine (copyInts_is _ d.on hi _ (layInts.rd_below R2.out T1x.bel hhi) (Nat.le_trans hhi T1x.bel.size) (by omega)).mono ?_
  rintro e w2 ⟨v1, rfl, o1, b1⟩
  obtain ⟨bo2, bcap2, hv⟩ := ints_formT o1
  obtain rfl := one_eq hv
  clear hv
  have T1c := T1x.call b1
  have z1 := T1x.b2.lt
  have y1 := b1.size
  have c1_10 : w2.cell? ⟨w.heap.size, 10, none⟩ = some (.slice ao2 d.on.1 cap2) := T1c.b1.cell 10
  have c1f_10 : w2.frozen? ⟨w.heap.size, 10, none⟩ = false := T1c.b1.frozen 10
  have T2x : Two w (w2.setCell ⟨w.heap.size, 10, none⟩ (.slice bo2 d.on.1 bcap2)) #[.int .i64 (d.shape 0), .int .i64 (d.shape 1), .int .i64 (d.shape 2), .int .i64 (d.shape 3), .int .i64 (d.shape 4), .int .i64 (d.shape 5), .int .i64 (d.shape 6), .int .i64 (d.shape 7), .int .i64 (d.shape 8), .slice bo1 d.groups.1 bcap1, .slice bo2 d.on.1 bcap2, .slice ao3 d.tapes.1 cap3, .int .i64 d.writes, .int .i64 d.stop, .bool d.down] #[.int .i64 0, .int .i64 0, .int .i64 0, .int .i64 0, .int .i64 0, .int .i64 0, .int .i64 0, .int .i64 0, .int .i64 0, .slice none 0 0, .slice none 0 0, .slice none 0 0, .int .i64 0, .int .i64 0, .bool false] 34 34 := ⟨T1c.b1.stL [.slice bo2 d.on.1 bcap2] 10, T1c.b2.seto _ _ (by omega), T1c.bel.setCell (Nat.le_refl _) _⟩
  have O1_1 := (O1.out.call b1).stN w.heap.size 10 [.slice bo2 d.on.1 bcap2] (by omega)
  have O2_1 := (o1.stN w.heap.size 10 [.slice bo2 d.on.1 bcap2] (by omega))
  have e2 : (w2.setCell ⟨w.heap.size, 10, none⟩ (.slice bo2 d.on.1 bcap2)).heap.size = w2.heap.size := by simp
  clear o1 b1 O1 T1x a1_10
  go_upto_region 3 with fail
  obtain ⟨W2, hW2⟩ : ∃ x, x = w2.setCell ⟨w.heap.size, 10, none⟩ (.slice bo2 d.on.1 bcap2) := ⟨_, rfl⟩
  have O1 : Hid (OwnT ((layDrive.slice 84).slice 85) W2 (w.heap.size + 1 + 1) (w1.heap.size) d.groups [.slice bo1 d.groups.1 bcap1]) := by rw [hW2]; exact O1_1
  have O2 : Hid (OwnT layInts W2 (W1.heap.size) (w2.heap.size) d.on [.slice bo2 d.on.1 bcap2]) := by rw [hW2]; exact O2_1
  rw [← hW2] at T2x e2 ⊢
  clear hW2 O1_1 O2_1 T1c c1_10 c1f_10
  have a2_11 : W2.cell? ⟨w.heap.size, 11, none⟩ = some (.slice ao3 d.tapes.1 cap3) := T2x.b1.cell 11
  go_wp2_with fail
  refine (copyTapeS_is _ d.tapes hi _ ((layTape.slice 94).rd_below R3.out T2x.bel hhi) (Nat.le_trans hhi T2x.bel.size) (by omega)).mono ?_
  rintro e w3 ⟨v2, rfl, o2, b2⟩
  obtain ⟨bo3, bcap3, hv⟩ := sl_formT o2
  obtain rfl := one_eq hv
  clear hv
  have T2c := T2x.call b2
  have z2 := T2x.b2.lt
  have y2 := b2.size
  have c2_11 : w3.cell? ⟨w.heap.size, 11, none⟩ = some (.slice ao3 d.tapes.1 cap3) := T2c.b1.cell 11
  have c2f_11 : w3.frozen? ⟨w.heap.size, 11, none⟩ = false := T2c.b1.frozen 11
  have T3x : Two w (w3.setCell ⟨w.heap.size, 11, none⟩ (.slice bo3 d.tapes.1 bcap3)) #[.int .i64 (d.shape 0), .int .i64 (d.shape 1), .int .i64 (d.shape 2), .int .i64 (d.shape 3), .int .i64 (d.shape 4), .int .i64 (d.shape 5), .int .i64 (d.shape 6), .int .i64 (d.shape 7), .int .i64 (d.shape 8), .slice bo1 d.groups.1 bcap1, .slice bo2 d.on.1 bcap2, .slice bo3 d.tapes.1 bcap3, .int .i64 d.writes, .int .i64 d.stop, .bool d.down] #[.int .i64 0, .int .i64 0, .int .i64 0, .int .i64 0, .int .i64 0, .int .i64 0, .int .i64 0, .int .i64 0, .int .i64 0, .slice none 0 0, .slice none 0 0, .slice none 0 0, .int .i64 0, .int .i64 0, .bool false] 34 34 := ⟨T2c.b1.stL [.slice bo3 d.tapes.1 bcap3] 11, T2c.b2.seto _ _ (by omega), T2c.bel.setCell (Nat.le_refl _) _⟩
  have O1_2 := (O1.out.call b2).stN w.heap.size 11 [.slice bo3 d.tapes.1 bcap3] (by omega)
  have O2_2 := (O2.out.call b2).stN w.heap.size 11 [.slice bo3 d.tapes.1 bcap3] (by omega)
  have O3_2 := (o2.stN w.heap.size 11 [.slice bo3 d.tapes.1 bcap3] (by omega))
  have e3 : (w3.setCell ⟨w.heap.size, 11, none⟩ (.slice bo3 d.tapes.1 bcap3)).heap.size = w3.heap.size := by simp
  clear o2 b2 O1 O2 T2x a2_11
  go_upto_region 4 with fail
  obtain ⟨W3, hW3⟩ : ∃ x, x = w3.setCell ⟨w.heap.size, 11, none⟩ (.slice bo3 d.tapes.1 bcap3) := ⟨_, rfl⟩
  have O1 : Hid (OwnT ((layDrive.slice 84).slice 85) W3 (w.heap.size + 1 + 1) (w1.heap.size) d.groups [.slice bo1 d.groups.1 bcap1]) := by rw [hW3]; exact O1_2
  have O2 : Hid (OwnT layInts W3 (W1.heap.size) (w2.heap.size) d.on [.slice bo2 d.on.1 bcap2]) := by rw [hW3]; exact O2_2
  have O3 : Hid (OwnT (layTape.slice 94) W3 (W2.heap.size) (w3.heap.size) d.tapes [.slice bo3 d.tapes.1 bcap3]) := by rw [hW3]; exact O3_2
  rw [← hW3] at T3x e3 ⊢
  clear hW3 O1_2 O2_2 O3_2 T2c c2_11 c2f_11
  have y_0 : W3.cell? ⟨w.heap.size, 0, none⟩ = some (.int .i64 (d.shape 0)) := T3x.b1.cell 0
  have y_1 : W3.cell? ⟨w.heap.size, 1, none⟩ = some (.int .i64 (d.shape 1)) := T3x.b1.cell 1
  have y_2 : W3.cell? ⟨w.heap.size, 2, none⟩ = some (.int .i64 (d.shape 2)) := T3x.b1.cell 2
  have y_3 : W3.cell? ⟨w.heap.size, 3, none⟩ = some (.int .i64 (d.shape 3)) := T3x.b1.cell 3
  have y_4 : W3.cell? ⟨w.heap.size, 4, none⟩ = some (.int .i64 (d.shape 4)) := T3x.b1.cell 4
  have y_5 : W3.cell? ⟨w.heap.size, 5, none⟩ = some (.int .i64 (d.shape 5)) := T3x.b1.cell 5
  have y_6 : W3.cell? ⟨w.heap.size, 6, none⟩ = some (.int .i64 (d.shape 6)) := T3x.b1.cell 6
  have y_7 : W3.cell? ⟨w.heap.size, 7, none⟩ = some (.int .i64 (d.shape 7)) := T3x.b1.cell 7
  have y_8 : W3.cell? ⟨w.heap.size, 8, none⟩ = some (.int .i64 (d.shape 8)) := T3x.b1.cell 8
  have y_9 : W3.cell? ⟨w.heap.size, 9, none⟩ = some (.slice bo1 d.groups.1 bcap1) := T3x.b1.cell 9
  have y_10 : W3.cell? ⟨w.heap.size, 10, none⟩ = some (.slice bo2 d.on.1 bcap2) := T3x.b1.cell 10
  have y_11 : W3.cell? ⟨w.heap.size, 11, none⟩ = some (.slice bo3 d.tapes.1 bcap3) := T3x.b1.cell 11
  have y_12 : W3.cell? ⟨w.heap.size, 12, none⟩ = some (.int .i64 d.writes) := T3x.b1.cell 12
  have y_13 : W3.cell? ⟨w.heap.size, 13, none⟩ = some (.int .i64 d.stop) := T3x.b1.cell 13
  have y_14 : W3.cell? ⟨w.heap.size, 14, none⟩ = some (.bool d.down) := T3x.b1.cell 14
  have r_0 : W3.cell? ⟨w.heap.size + 1, 0, none⟩ = some (.int .i64 0) := T3x.b2.cell 0
  have rf_0 : W3.frozen? ⟨w.heap.size + 1, 0, none⟩ = false := T3x.b2.frozen 0
  have r_1 : W3.cell? ⟨w.heap.size + 1, 1, none⟩ = some (.int .i64 0) := T3x.b2.cell 1
  have rf_1 : W3.frozen? ⟨w.heap.size + 1, 1, none⟩ = false := T3x.b2.frozen 1
  have r_2 : W3.cell? ⟨w.heap.size + 1, 2, none⟩ = some (.int .i64 0) := T3x.b2.cell 2
  have rf_2 : W3.frozen? ⟨w.heap.size + 1, 2, none⟩ = false := T3x.b2.frozen 2
  have r_3 : W3.cell? ⟨w.heap.size + 1, 3, none⟩ = some (.int .i64 0) := T3x.b2.cell 3
  have rf_3 : W3.frozen? ⟨w.heap.size + 1, 3, none⟩ = false := T3x.b2.frozen 3
  have r_4 : W3.cell? ⟨w.heap.size + 1, 4, none⟩ = some (.int .i64 0) := T3x.b2.cell 4
  have rf_4 : W3.frozen? ⟨w.heap.size + 1, 4, none⟩ = false := T3x.b2.frozen 4
  have r_5 : W3.cell? ⟨w.heap.size + 1, 5, none⟩ = some (.int .i64 0) := T3x.b2.cell 5
  have rf_5 : W3.frozen? ⟨w.heap.size + 1, 5, none⟩ = false := T3x.b2.frozen 5
  have r_6 : W3.cell? ⟨w.heap.size + 1, 6, none⟩ = some (.int .i64 0) := T3x.b2.cell 6
  have rf_6 : W3.frozen? ⟨w.heap.size + 1, 6, none⟩ = false := T3x.b2.frozen 6
  have r_7 : W3.cell? ⟨w.heap.size + 1, 7, none⟩ = some (.int .i64 0) := T3x.b2.cell 7
  have rf_7 : W3.frozen? ⟨w.heap.size + 1, 7, none⟩ = false := T3x.b2.frozen 7
  have r_8 : W3.cell? ⟨w.heap.size + 1, 8, none⟩ = some (.int .i64 0) := T3x.b2.cell 8
  have rf_8 : W3.frozen? ⟨w.heap.size + 1, 8, none⟩ = false := T3x.b2.frozen 8
  have r_9 : W3.cell? ⟨w.heap.size + 1, 9, none⟩ = some (.slice none 0 0) := T3x.b2.cell 9
  have rf_9 : W3.frozen? ⟨w.heap.size + 1, 9, none⟩ = false := T3x.b2.frozen 9
  have r_10 : W3.cell? ⟨w.heap.size + 1, 10, none⟩ = some (.slice none 0 0) := T3x.b2.cell 10
  have rf_10 : W3.frozen? ⟨w.heap.size + 1, 10, none⟩ = false := T3x.b2.frozen 10
  have r_11 : W3.cell? ⟨w.heap.size + 1, 11, none⟩ = some (.slice none 0 0) := T3x.b2.cell 11
  have rf_11 : W3.frozen? ⟨w.heap.size + 1, 11, none⟩ = false := T3x.b2.frozen 11
  have r_12 : W3.cell? ⟨w.heap.size + 1, 12, none⟩ = some (.int .i64 0) := T3x.b2.cell 12
  have rf_12 : W3.frozen? ⟨w.heap.size + 1, 12, none⟩ = false := T3x.b2.frozen 12
  have r_13 : W3.cell? ⟨w.heap.size + 1, 13, none⟩ = some (.int .i64 0) := T3x.b2.cell 13
  have rf_13 : W3.frozen? ⟨w.heap.size + 1, 13, none⟩ = false := T3x.b2.frozen 13
  have r_14 : W3.cell? ⟨w.heap.size + 1, 14, none⟩ = some (.bool false) := T3x.b2.cell 14
  have rf_14 : W3.frozen? ⟨w.heap.size + 1, 14, none⟩ = false := T3x.b2.frozen 14
  have HB : Hid (Below w.heap.size w W3) := T3x.bel
  have zz := T3x.b2.lt
  clear T3x
  go_wp2
  refine bodyPost_ret (v := .agg #[.int .i64 (d.shape 0), .int .i64 (d.shape 1), .int .i64 (d.shape 2), .int .i64 (d.shape 3), .int .i64 (d.shape 4), .int .i64 (d.shape 5), .int .i64 (d.shape 6), .int .i64 (d.shape 7), .int .i64 (d.shape 8), .slice bo1 d.groups.1 bcap1, .slice bo2 d.on.1 bcap2, .slice bo3 d.tapes.1 bcap3, .int .i64 d.writes, .int .i64 d.stop, .bool d.down]) (by simp [results, Tryz.results46, go_sem, r_0, y_0, r_1, y_1, r_2, y_2, r_3, y_3, r_4, y_4, r_5, y_5, r_6, y_6, r_7, y_7, r_8, y_8, r_9, y_9, r_10, y_10, r_11, y_11, r_12, y_12, r_13, y_13, r_14, y_14]) rfl ?_
  have F : OwnT layWorld W3 (w.heap.size + 1 + 1) w3.heap.size d ([.int .i64 (d.shape 0), .int .i64 (d.shape 1), .int .i64 (d.shape 2), .int .i64 (d.shape 3), .int .i64 (d.shape 4), .int .i64 (d.shape 5), .int .i64 (d.shape 6), .int .i64 (d.shape 7), .int .i64 (d.shape 8)] ++ ([.slice bo1 d.groups.1 bcap1] ++ ([.slice bo2 d.on.1 bcap2] ++ ([.slice bo3 d.tapes.1 bcap3] ++ ([.int .i64 d.writes] ++ ([.int .i64 d.stop] ++ [.bool d.down])))))) := OwnT.conv (OwnT.pre (A := (layNums 9)) (a := d.shape) (c := [.int .i64 (d.shape 0), .int .i64 (d.shape 1), .int .i64 (d.shape 2), .int .i64 (d.shape 3), .int .i64 (d.shape 4), .int .i64 (d.shape 5), .int .i64 (d.shape 6), .int .i64 (d.shape 7), .int .i64 (d.shape 8)]) ⟨rfl, Q0.out, rfl⟩ (OwnT.two O1.out (OwnT.two O2.out (OwnT.two O3.out (OwnT.pre (A := layI) (a := d.writes) (c := [.int .i64 d.writes]) ⟨rfl, Q4.out, rfl⟩ (OwnT.pre (A := layI) (a := d.stop) (c := [.int .i64 d.stop]) ⟨rfl, Q5.out, rfl⟩ (OwnT.nil (A := layB) (a := d.down) (c := [.bool d.down]) ⟨rfl, trivial, rfl⟩ _ _))) (Nat.le_refl _) (by omega) (by omega)) (by omega) (by omega) (by omega)) (by omega) (by omega) (by omega)))
  refine ⟨[.int .i64 (d.shape 0), .int .i64 (d.shape 1), .int .i64 (d.shape 2), .int .i64 (d.shape 3), .int .i64 (d.shape 4), .int .i64 (d.shape 5), .int .i64 (d.shape 6), .int .i64 (d.shape 7), .int .i64 (d.shape 8), .slice bo1 d.groups.1 bcap1, .slice bo2 d.on.1 bcap2, .slice bo3 d.tapes.1 bcap3, .int .i64 d.writes, .int .i64 d.stop, .bool d.down], rfl, ?_, ?_⟩
  · exact OwnT.finb (F.weaken (Nat.le_refl _) (by omega)) (b := w.heap.size + 1) (by omega) (by omega) 0 [.int .i64 (d.shape 0), .int .i64 (d.shape 1), .int .i64 (d.shape 2), .int .i64 (d.shape 3), .int .i64 (d.shape 4), .int .i64 (d.shape 5), .int .i64 (d.shape 6), .int .i64 (d.shape 7), .int .i64 (d.shape 8), .slice bo1 d.groups.1 bcap1, .slice bo2 d.on.1 bcap2, .slice bo3 d.tapes.1 bcap3, .int .i64 d.writes, .int .i64 d.stop, .bool d.down] _ rfl
  · exact HB.out.trans (stN_below (by omega) [.int .i64 (d.shape 0), .int .i64 (d.shape 1), .int .i64 (d.shape 2), .int .i64 (d.shape 3), .int .i64 (d.shape 4), .int .i64 (d.shape 5), .int .i64 (d.shape 6), .int .i64 (d.shape 7), .int .i64 (d.shape 8), .slice bo1 d.groups.1 bcap1, .slice bo2 d.on.1 bcap2, .slice bo3 d.tapes.1 bcap3, .int .i64 d.writes, .int .i64 d.stop, .bool d.down] 0)
end Go.Proofs.YtbmfndjglndnlaaGreat
