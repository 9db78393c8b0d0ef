/- Walks of slices.Index (the place itself) and of slices.Delete of one number. -/
import Derived.Test.YtbmfndjglndnlaaGreatZwN
import Derived.Lib.SliceRun
import Derived.Deep.RegionLaw
import Derived.Deep.DeepCutAuto
import Derived.Test.YtbmfndjglndnlaaGreatZwK
import Derived.Test.YtbmfndjglndnlaaGreatZwJ
import Derived.Test.YtbmfndjglndnlaaGreatRows
import Derived.Test.YtbmfndjglndnlaaGreatOpensW
import Derived.Test.YtbmfndjglndnlaaGreatZwB
import Derived.Test.YtbmfndjglndnlaaGreatZwC
import Derived.Test.YtbmfndjglndnlaaGreatZwE
namespace Go.Proofs.YtbmfndjglndnlaaGreat
open Go.RowKit F256
set_option linter.unusedVariables false
set_option linter.unusedSimpArgs false
/-- a list without its number i -/
def offF (f : Nat → Int) (i : Nat) : Nat → Int := fun t => if t < i then f t else f (t + 1)
set_option maxHeartbeats 1000000 in
theorem index_first (v : Value) (n : Nat) (g : Nat → Int) (hi : Nat) (x : Int) (i : Nat) (hin : i < n) (hix : g i = x) (hbef : ∀ t, t < i → g t ≠ x) (w : World) (r : RdI w hi v n g) :
    Calls Tryz.prog 56 #[v, .int .i64 x] w fun e w' => e = .returned (.int .i64 (i : Int)) ∧ w' = w := by
  obtain ⟨ao, cap, rfl, hm, hc⟩ := r
  unfold maxLen at hm
  have HBEF : Hid (∀ t, t < i → g t ≠ x) := hbef
  have HIX : Hid (g i = x) := hix
  obtain ⟨b, off, rfl, hblt, hcell⟩ := hc (by omega)
  have HC : Hid (∀ k, k < n → w.cell? ⟨b, off + k, none⟩ = some (.int .i64 (g k))) := hcell
  clear hbef hix hc hcell
  go_enter Tryz.func56, Tryz.ntmps56
  go_wp2
  go_loop [8] (fun z => ∃ k : Nat, k ≤ i ∧ z = .int .i64 k) (fun z => n - (intOf z).toNat)
  case atStart => exact ⟨0, Nat.zero_le _, rfl⟩
  case round =>
    obtain ⟨k, hk, rfl⟩ := hrel
    have hlt : k < n := by omega
    have hck : w.cell? ⟨b, off + k, none⟩ = some (.int .i64 (g k)) := HC.out k hlt
    obtain ⟨y, hy⟩ : ∃ y, y = g k := ⟨_, rfl⟩
    have HY : Hid (y = g k) := hy
    rw [← hy] at hck
    clear hy
    by_cases heq : k = i
    · subst heq
      have te : (x == y) = true := by rw [HY.out, HIX.out]; simp
      go_wp2
      go_ret
      exact ⟨rfl, rfl⟩
    · have te : (x == y) = false := by
        have := HBEF.out k (by omega)
        rw [HY.out]
        simp [Ne.symm this]
      go_wp2
      go_round
      case rel => exact ⟨k + 1, by omega, by go_num⟩
      case measure => simp [intOf]; omega
theorem zero_i64 (w : World) : (zeroValue 2).run Tryz.prog w = .ok (.int .i64 0) w := by kernel_rfl
section
variable (g n cap : Nat)
theorem run_sl3 (i : Nat) (hi : i < n) (hn : n ≤ cap) : ∃ v, ∀ w, (Instr.slice 25 (.slice (some ⟨g, 0, none⟩) n cap) (some (.int .i64 (i : Int))) (some (.int .i64 ((i : Int) + 1))) (some (.int .i64 (n : Int)))).run Tryz.prog w = .ok v w := by
  have e1 : (i : Int) ≤ (i : Int) + 1 := by omega
  have e2 : (i : Int) + 1 ≤ (n : Int) := by omega
  have e3 : (n : Int) ≤ (cap : Int) := by omega
  have e4 : (0 : Int) ≤ (i : Int) + 1 := by omega
  have e5 : ((i : Int) + 1).toNat = i + 1 := by omega
  have e6 : ¬ n = i := by omega
  have e7 : ¬ cap = i := by omega
  exact ⟨.slice (some ⟨g, i, none⟩) 1 (n - i), fun w => by simp [Instr.slice, run_underlying Tryz.underlying25, Instr.sliceBounds, Instr.sliceBound, asIntOf, go_sem, e1, e2, e3, e4, e5, e6, e7, hn, hi]; try omega⟩
theorem run_slTo (i : Nat) (hi : i ≤ cap) (w : World) : (Instr.slice 25 (.slice (some ⟨g, 0, none⟩) n cap) none (some (.int .i64 (i : Int))) none).run Tryz.prog w = .ok (.slice (some ⟨g, 0, none⟩) i cap) w := by
  have e1 : (i : Int) ≤ (cap : Int) := by omega
  simp [Instr.slice, run_underlying Tryz.underlying25, Instr.sliceBounds, Instr.sliceBound, asIntOf, go_sem, e1, hi]
theorem run_slFrom (i : Nat) (hi : i < n) (hn : n ≤ cap) : ∃ ao, (cap ≠ i + 1 → ao = ⟨g, i + 1, none⟩) ∧ ∀ w, (Instr.slice 25 (.slice (some ⟨g, 0, none⟩) n cap) (some (.int .i64 ((i : Int) + 1))) none none).run Tryz.prog w = .ok (.slice (some ao) (n - (i + 1)) (cap - (i + 1))) w := by
  have e1 : (i : Int) + 1 ≤ (n : Int) := by omega
  have e4 : (0 : Int) ≤ (i : Int) + 1 := by omega
  have e5 : ((i : Int) + 1).toNat = i + 1 := by omega
  have e6 : i + 1 ≤ n := by omega
  by_cases h : cap = i + 1
  · refine ⟨⟨g, 0, none⟩, fun k => absurd h k, fun w => ?_⟩
    simp [Instr.slice, run_underlying Tryz.underlying25, Instr.sliceBounds, Instr.sliceBound, asIntOf, go_sem, e1, e4, e5, e6, h]
  · refine ⟨⟨g, i + 1, none⟩, fun _ => rfl, fun w => ?_⟩
    simp [Instr.slice, run_underlying Tryz.underlying25, Instr.sliceBounds, Instr.sliceBound, asIntOf, go_sem, e1, e4, e5, e6, h]
theorem run_slEnd (m : Nat) (hm : m < cap) (w : World) : (Instr.slice 25 (.slice (some ⟨g, 0, none⟩) m cap) (some (.int .i64 (m : Int))) (some (.int .i64 ((m : Int) + 1))) none).run Tryz.prog w = .ok (.slice (some ⟨g, m, none⟩) 1 (cap - m)) w := by
  have e1 : (m : Int) ≤ (m : Int) + 1 := by omega
  have e3 : (m : Int) + 1 ≤ (cap : Int) := by omega
  have e4 : (0 : Int) ≤ (m : Int) + 1 := by omega
  have e5 : ((m : Int) + 1).toNat = m + 1 := by omega
  have e7 : ¬ cap = m := by omega
  have e8 : m + 1 ≤ cap := by omega
  simp [Instr.slice, run_underlying Tryz.underlying25, Instr.sliceBounds, Instr.sliceBound, asIntOf, go_sem, e1, e3, e4, e5, e7, e8]
end
end Go.Proofs.YtbmfndjglndnlaaGreat

namespace Go.Proofs.YtbmfndjglndnlaaGreat
open Go.RowKit F256
set_option linter.unusedVariables false
set_option linter.unusedSimpArgs false
theorem offF_in {f : Nat → Int} (h : ∀ i, -9223372036854775808 ≤ f i ∧ f i ≤ 9223372036854775807) (i t : Nat) : -9223372036854775808 ≤ offF f i t ∧ offF f i t ≤ 9223372036854775807 := by
  unfold offF
  split
  · exact h t
  · exact h (t + 1)
theorem off_row (n i : Nat) (f : Nat → Int) (hi : i < n) (rest : List Value) : ((intsOf n f ++ rest).take i ++ intsOf (n - (i + 1)) (fun t => f (i + 1 + t))).take (n - 1) = intsOf (n - 1) (offF f i) := by
  apply List.ext_getElem?
  intro t
  have hl := intsOf_length n f
  rw [List.getElem?_take]
  by_cases ht : t < n - 1
  · rw [if_pos ht, intsOf_get _ _ _ ht]
    by_cases c : t < i
    · rw [List.getElem?_append_left (by simp [hl]; omega), List.getElem?_take, if_pos c, List.getElem?_append_left (by omega), intsOf_get _ _ _ (by omega)]
      unfold offF
      rw [if_pos c]
    · have e : ((intsOf n f ++ rest).take i).length = i := by simp [hl]; omega
      rw [List.getElem?_append_right (by omega), e, intsOf_get _ _ _ (by omega)]
      unfold offF
      rw [if_neg c]
      congr 3
      omega
  · rw [if_neg ht, List.getElem?_eq_none (by rw [intsOf_length]; omega)]
set_option maxHeartbeats 8000000 in
set_option maxRecDepth 20000 in
theorem delete_one {w : World} {n cap g : Nat} {f : Nat → Int} {K : List Nat} (h : layInts.own w (n, f) [.slice (some ⟨g, 0, none⟩) n cap] K) (i : Nat) (hi : i < n) (hn : n ≤ 1048576) :
    Calls Tryz.prog 57 #[.slice (some ⟨g, 0, none⟩) n cap, .int .i64 (i : Int), .int .i64 ((i : Int) + 1)] w fun e w' => e = .returned (.slice (some ⟨g, 0, none⟩) (n - 1) cap) ∧ Turn layInts w K w' (n - 1, offF f i) [.slice (some ⟨g, 0, none⟩) (n - 1) cap] K := by
  obtain ⟨_, e, rfl, hown, hf⟩ := h
  cases e
  have hown' := hown
  obtain ⟨⟨hlen, hrow⟩, hlt⟩ := hown
  rcases hrow with ⟨hnn, _⟩ | ⟨g', cap', cur, he, hbg, hgg, hnc, hcm, hcs, htake⟩
  · cases hnn
  cases he
  simp only [Nat.mul_one] at hcs htake
  have hg1 : g < w.heap.size := (Array.getElem?_eq_some_iff.1 hgg).1
  obtain ⟨v3, hv3⟩ := run_sl3 g n cap i hi hnc
  obtain ⟨ao, hao, hv4⟩ := run_slFrom g n cap i hi hnc
  have hv2 := fun w' => run_slTo g n cap i (by omega) w'
  have hcell : ∀ t, t < n → w.cell? ⟨g, t, none⟩ = some (.int .i64 (f t)) := fun t ht => by
    have := hown'.1.cellAt t (by omega)
    rw [this]
    exact intsOf_get n f t ht
  obtain ⟨i0, hi0, hz0, hz1, hz2⟩ := info_parts info_i64
  have hsz : i0.size = 1 := hz1
  -- append(s[:i], s[i+1:]...)
  have hcur : cur.toList = intsOf n f ++ cur.toList.drop n := by
    rw [← htake]; exact (List.take_append_drop n cur.toList).symm
  have hrun := fun ty => run_append_room (P := Tryz.prog) w.drew 25 ty 2 i0 Tryz.underlying25 hi0 g i cap cur hgg ao (n - (i + 1)) (cap - (i + 1)) (intsOf (n - (i + 1)) (fun t => f (i + 1 + t)))
    (by rw [intsOf_length, hsz, Nat.mul_one])
    (fun j u hj => by
      have hj' : j < n - (i + 1) := by
        have := (List.getElem?_eq_some_iff.1 hj).1
        rwa [intsOf_length] at this
      rw [intsOf_get _ _ _ hj'] at hj
      rw [hao (by omega), Addr.add_lit]
      have := hcell (i + 1 + j) (by omega)
      rw [← hj]
      exact this)
    (intsOf_one _ _) (by omega) (by rw [hsz, intsOf_length]; omega)
  obtain ⟨row, hrw⟩ : ∃ row, row = (cur.toList.take (i * i0.size) ++ intsOf (n - (i + 1)) (fun t => f (i + 1 + t)) ++ cur.toList.drop (i * i0.size + (intsOf (n - (i + 1)) (fun t => f (i + 1 + t))).length)).toArray := ⟨_, rfl⟩
  rw [← hrw] at hrun
  have hrl : row.size = cur.size := by
    rw [hrw, hsz, intsOf_length]
    simp only [List.size_toArray, List.length_append, List.length_take, List.length_drop, intsOf_length, Array.length_toList, Nat.mul_one]
    omega
  have hrt : row.toList.take (n - 1) = intsOf (n - 1) (offF f i) := by
    rw [hrw, hsz, Nat.mul_one]
    simp only [List.toList_toArray]
    have e1 : (cur.toList.take i ++ intsOf (n - (i + 1)) (fun t => f (i + 1 + t))).length = n - 1 := by
      rw [List.length_append, intsOf_length, List.length_take, Array.length_toList]
      omega
    rw [List.take_append_of_le_length (by omega), ← off_row n i f hi (cur.toList.drop n), ← hcur]
  have em : i + (n - (i + 1)) = n - 1 := by omega
  rw [em] at hrun
  have hen : ((n - 1 : Nat) : Int) + 1 = (n : Int) := by omega
  have hv5 := fun w' => run_slEnd g cap (n - 1) (by omega) w'
  rw [hen] at hv5
  obtain ⟨W2, hW2⟩ : ∃ x, x = w.drew.setRow g row := ⟨_, rfl⟩
  rw [← hW2] at hrun
  have B2 : W2.heap[g]? = some (.cells row 2 (0, 0)) := by rw [hW2]; exact setRow_heap w.drew g cur row 2 (0, 0) hgg
  have C2 : ChgL [g] w W2 := by
    have h1 := chgL_setRow (w := w.drew) g row
    rw [← hW2] at h1
    exact ⟨h1.os, h1.tape, h1.output, h1.size, h1.block⟩
  have hlast : W2.cell? ⟨g, n - 1, none⟩ = row[n - 1]? := cell_of_row W2 g (n - 1) row 2 _ B2
  have hls : (W2.cell? ⟨g, n - 1, none⟩).isSome = true := by
    rw [hlast, Array.getElem?_eq_getElem (by omega)]
    rfl
  have hlf : W2.frozen? ⟨g, n - 1, none⟩ = false := frozen_of_row W2 g (n - 1) row 2 B2
  have hcl : ∀ ty, (Builtin.clear_ #[25] ty #[.slice (some ⟨g, n - 1, none⟩) 1 (cap - (n - 1))]).run Tryz.prog W2 = .ok (.tuple #[]) (W2.setCells g (n - 1) (List.replicate 1 (.int .i64 0))) :=
    fun ty => Lib.run_clear_slice W2 25 2 ty (.int .i64 0) Tryz.underlying25 zero_i64 rfl rfl g (n - 1) 1 (cap - (n - 1)) (by decide)
      (fun j hj => by obtain rfl : j = 0 := by omega
                      exact hls) (fun j hj => by obtain rfl : j = 0 := by omega
                                                 exact hlf)
  have HF : Hid (∀ i, -9223372036854775808 ≤ f i ∧ f i ≤ 9223372036854775807) := hf
  have HRT : Hid (row.toList.take (n - 1) = intsOf (n - 1) (offF f i)) := hrt
  have HRL : Hid (row.size = cur.size) := hrl
  have HCS : Hid (cur.size = cap) := hcs
  have HB2 : Hid (W2.heap[g]? = some (.cells row 2 (0, 0))) := B2
  have HC2 : Hid (ChgL [g] w W2) := C2
  have HCM : Hid (cap ≤ maxLen) := hcm
  have ne : ((i : Int) == (i : Int) + 1) = false := by
    have : (i : Int) ≠ (i : Int) + 1 := by omega
    simpa using this
  clear hf hrt hrl hcs B2 C2 hcm hlen hlt hown' hgg htake hcell hcur hrw hW2 hlast hls hlf hsz hz0 hz1 hz2 hi0 em hen
  go_enter Tryz.func57, Tryz.ntmps57
  go_upto_region 5 with fail
  go_region_law (refine step_run2 rfl (.tmp 22) (.tmp 25) rfl ?_ ?_ (hrun _) ?_; (simp [Act.eval, Act.put]); (simp [Act.eval, Act.put]))
  all_goals
    go_wp2_with (simp only [hcl])
    go_ret
    refine ⟨rfl, ?_⟩
    have B3 : Box (W2.setCell ⟨g, n - 1, none⟩ (.int .i64 0)) g (row.setIfInBounds (n - 1) (.int .i64 0)) 2 := Box.setc HB2.out (n - 1) _
    have r1 : (row.setIfInBounds (n - 1) (.int .i64 0)).toList.take (n - 1) = intsOf (n - 1) (offF f i) := by
      rw [← HRT.out]
      apply List.ext_getElem?
      intro t
      rw [List.getElem?_take, List.getElem?_take]
      by_cases c : t < n - 1
      · rw [if_pos c, if_pos c, Array.toList_setIfInBounds, List.getElem?_set_ne (by omega)]
      · rw [if_neg c, if_neg c]
    have hg3 : g < (W2.setCell ⟨g, n - 1, none⟩ (.int .i64 0)).heap.size := B3.lt
    have C3 : ChgL [g] w (W2.setCell ⟨g, n - 1, none⟩ (.int .i64 0)) := HC2.out.st g (n - 1) _ (by simp)
    have hnc' : n ≤ cap := hnc
    have hrow : (W2.setCell ⟨g, n - 1, none⟩ (.int .i64 0)).ownsRow 0 2 1 (.slice (some ⟨g, 0, none⟩) (n - 1) cap) (n - 1) (intsOf (n - 1) (offF f i)) :=
      ⟨by rw [intsOf_length, Nat.mul_one], .inr ⟨g, cap, _, rfl, Nat.zero_le _, B3, by omega, HCM.out, by rw [Array.size_setIfInBounds, HRL.out, HCS.out, Nat.mul_one], by rw [Nat.mul_one]; exact r1⟩⟩
    exact ⟨⟨_, rfl, rfl, ⟨hrow, fun k hk => by
      have : k = g := by simpa [Value.ownBlock] using hk.symm
      rw [this]; exact hg3⟩, offF_in HF.out i⟩, by simp [Value.ownBlock], fun b hb => .inl hb, C3⟩
end Go.Proofs.YtbmfndjglndnlaaGreat

namespace Go.Proofs.YtbmfndjglndnlaaGreat
open Go.RowKit F256
set_option linter.unusedVariables false
set_option linter.unusedSimpArgs false
def offW (d : WorldD) (i : Nat) : WorldD := { d with on := (d.on.1 - 1, offF d.on.2 i) }
def OffAns (d : WorldD) (g : Int) (r : WorldResultD) : Prop := (∃ x, x ≠ 0 ∧ AskAns d x ∧ r = ⟨x, zeroW⟩) ∨ (AskAns d 0 ∧ ((¬ InP g 0 (d.shape 0 + d.shape 1 - 1) ∧ r = ⟨3, zeroW⟩) ∨ (InP g 0 (d.shape 0 + d.shape 1 - 1) ∧ ((¬ HasP d.on.1 d.on.2 g ∧ r = ⟨8, zeroW⟩) ∨ (∃ i, i < d.on.1 ∧ d.on.2 i = g ∧ r = ⟨0, offW d i⟩)))))
theorem on_alone {d : WorldD} (h : OkWorld d) {i : Nat} (hi : i < d.on.1) : ∀ t, t < d.on.1 → t ≠ i → d.on.2 t ≠ d.on.2 i := fun t ht hne he => by
  have ha := h.form.2.1.1
  rcases Nat.lt_or_ge t i with c | c
  · exact (ha i hi).2 t c he
  · exact (ha t ht).2 i (by omega) he.symm
theorem OffAns.one {d : WorldD} {g : Int} {r q : WorldResultD} (h : OffAns d g r) (k : OffAns d g q) : r = q := by
  rcases h with ⟨x, h1, h2, rfl⟩ | ⟨h1, h⟩ <;> rcases k with ⟨y, k1, k2, rfl⟩ | ⟨k1, k⟩
  · rw [h2.one k2]
  · exact absurd (h2.one k1) h1
  · exact absurd (k2.one h1) k1
  · rcases h with ⟨h2, rfl⟩ | ⟨h2, h⟩ <;> rcases k with ⟨k2, rfl⟩ | ⟨k2, k⟩
    · rfl
    · exact absurd k2 h2
    · exact absurd h2 k2
    · rcases h with ⟨h3, rfl⟩ | ⟨i, h3, h4, rfl⟩ <;> rcases k with ⟨k3, rfl⟩ | ⟨j, k3, k4, rfl⟩
      · rfl
      · exact absurd ⟨j, k3, k4⟩ h3
      · exact absurd ⟨i, h3, h4⟩ k3
      · have : j = i := Decidable.byContradiction fun hne => on_alone (ask_ok h1) h3 j k3 hne (by rw [k4, h4])
        rw [this]
/-- numbers that were there are as they were -/
theorem ints_of {w : World} {lo hi n : Nat} {v : Value} {f : Nat → Int} (h : OwnI w lo hi v n f) (hh : hi ≤ w.heap.size) (hf : ∀ i, -9223372036854775808 ≤ f i ∧ f i ≤ 9223372036854775807) : OwnT layInts w lo hi (n, f) [v] := by
  refine ⟨v.ownBlock.toList, ⟨v, rfl, rfl, ⟨?_, fun k hk => (h.1.lt k hk).2⟩, hf⟩, ?_, fun b hb => ?_⟩
  · refine ⟨h.1.1, ?_⟩
    rcases h.1.2 with hn | ⟨g, cap, cur, rfl, hbg, rest⟩
    · exact .inl hn
    · exact .inr ⟨g, cap, cur, rfl, Nat.zero_le _, rest⟩
  · cases v.ownBlock <;> simp
  · have hb' : v.ownBlock = some b := by simpa using hb
    exact ⟨(h.1.lt b hb').1, h.2 b hb'⟩
theorem WOpen.onNew {w w' : World} {lo hi : Nat} {d : WorldD} {v1 v2 v3 : Value} {K1 K2 K3 K : List Nat} (h : WOpen w lo hi d v1 v2 v3 K1 K2 K3) (hhi : hi ≤ w.heap.size) (hlo : lo ≤ w.heap.size) {o' : Nat × (Nat → Int)} {v' : Value} (ho : OwnT layInts w' w.heap.size w'.heap.size o' [v']) (hc : ChgL K w w') (hK : ∀ b, b ∈ K → b ∉ K1 ∧ b ∉ K3) : ∃ K', WOpen w' lo w'.heap.size { d with on := o' } v1 v' v3 K1 K' K3 := by
  obtain ⟨K', h1, h2, h3⟩ := ho
  have hN : ∀ b, b ∈ K1 ++ (K2 ++ K3) → b < w.heap.size := fun b hb => by have := (h.inn b hb).2; omega
  have hz := hc.size
  refine ⟨K', Lay.own_chgL _ h.g hc (fun b hb hbK => (hK b hbK).1 hb), h1, Lay.own_chgL _ h.t hc (fun b hb hbK => (hK b hbK).2 hb), nodup_mid h.nd hN h2 (fun b hb => .inr (h3 b hb)), fun b hb => ?_, h.k0, h.k4, h.k5⟩
  rcases List.mem_append.1 hb with hb | hb
  · have := h.inn b (List.mem_append_left _ hb); omega
  · rcases List.mem_append.1 hb with hb | hb
    · have := h3 b hb; omega
    · have := h.inn b (List.mem_append_right _ (List.mem_append_right _ hb)); omega
set_option maxHeartbeats 8000000 in
set_option maxRecDepth 20000 in
theorem l5Off_any (b n c2 : Nat) (p2 : Option Addr) (f : Nat → Int) (hi i : Nat) (x : Int) (hin : i < n) (hix : f i = x) (hal : ∀ t, t < n → t ≠ i → f t ≠ x) (hn : n ≤ 1048576) (hf : ∀ i, -9223372036854775808 ≤ f i ∧ f i ≤ 9223372036854775807) (w : World) (cs : Array Value) (hB : Box w b cs 34) (h10 : cs[10]? = some (.slice p2 n c2)) (hr : RdI w hi (.slice p2 n c2) n f) (hhi : hi ≤ w.heap.size) :
    Calls Tryz.prog 55 #[.pointer (some ⟨b, 0, none⟩), .int .i64 x] w fun e w' => e = .returned (.tuple #[]) ∧ ∃ v', OwnT layInts w' w.heap.size w'.heap.size (n - 1, offF f i) [v'] ∧ Box w' b (cs.setIfInBounds 10 v') 34 ∧ ChgL [b] w w' := by
  obtain ⟨ao, cap, he, hm, hc⟩ := hr
  cases he
  obtain ⟨gb, off, rfl, hblt, hcell⟩ := hc (by omega)
  have HC : Hid (∀ k, k < n → w.cell? ⟨gb, off + k, none⟩ = some (.int .i64 (f k))) := hcell
  have HAL : Hid (∀ t, t < n → t ≠ i → f t ≠ x) := hal
  have HIX : Hid (f i = x) := hix
  have HF : Hid (∀ i, -9223372036854775808 ≤ f i ∧ f i ≤ 9223372036854775807) := hf
  have HBX : Hid (Box w b cs 34) := hB
  have H10 : Hid (cs[10]? = some (.slice (some ⟨gb, off, none⟩) n c2)) := h10
  have hb : b < w.heap.size := hB.lt
  clear hc hcell hal hix hf hB h10 hm
  go_enter Tryz.func55, Tryz.ntmps55
  go_wp2
  go_loopw [4, 5] (fun v z wr => ∃ k : Nat, k ≤ n ∧ z = .int .i64 k ∧ OwnI wr w.heap.size wr.heap.size v (if k ≤ i then k else k - 1) (offF f i) ∧ Below w.heap.size w wr) (fun _ z _ => n - (intOf z).toNat)
  case atStart =>
    refine ⟨0, Nat.zero_le _, rfl, ?_, (Below.refl _ _).alloc (Nat.le_refl _) _⟩
    rw [if_pos (Nat.zero_le _)]
    exact ownI_lit0 w (offF f i)
  case round =>
    obtain ⟨k, hk, rfl, ho, hbl⟩ := hrel
    obtain ⟨wx, rfl⟩ : ∃ y, y = wr := ⟨_, rfl⟩
    have x10 : wx.cell? ⟨b, 10, none⟩ = some (.slice (some ⟨gb, off, none⟩) n c2) := ((HBX.out.below hbl hb).cell 10).trans H10.out
    by_cases hlt : k < n
    · have ck : wx.cell? ⟨gb, off + k, none⟩ = some (.int .i64 (f k)) := (hbl.cell (p := ⟨gb, off + k, none⟩) (by show gb < w.heap.size; omega)).trans (HC.out k hlt)
      obtain ⟨y, hy⟩ : ∃ y, y = f k := ⟨_, rfl⟩
      have HY : Hid (y = f k) := hy
      rw [← hy] at ck
      clear hy
      have i1 : (0 : Int) ≤ (k : Int) := by omega
      have i2 : (k : Int) < (n : Int) := by omega
      have HO : Hid (OwnI wx w.heap.size wx.heap.size _ (if k ≤ i then k else k - 1) (offF f i)) := ho
      have HBL : Hid (Below w.heap.size w wx) := hbl
      have zx := hbl.size
      by_cases heq : k = i
      · have te : (y != x) = false := by rw [HY.out, heq, HIX.out]; simp
        have HEQ : Hid (k = i) := heq
        clear ho hbl heq
        go_wp2
        go_roundw
        case rel =>
          refine ⟨k + 1, by omega, by go_num, ?_, HBL.out⟩
          have e : (if k + 1 ≤ i then k + 1 else k + 1 - 1) = (if k ≤ i then k else k - 1) := by
            have := HEQ.out
            rw [if_neg (by omega), if_pos (by omega)]; omega
          rw [e]
          exact HO.out
        case measure => simp [intOf]; omega
      · have te : (y != x) = true := by
          have := HAL.out k hlt heq
          rw [HY.out]
          simpa using this
        obtain ⟨m, hm⟩ : ∃ m, m = (if k ≤ i then k else k - 1) := ⟨_, rfl⟩
        have hmk : m ≤ k := by rw [hm]; split <;> omega
        have hfm : y = offF f i m := by
          rw [HY.out, hm]
          unfold offF
          by_cases c : k ≤ i
          · rw [if_pos c, if_pos (by omega)]
          · rw [if_neg c, if_neg (by omega)]
            congr 1
            omega
        have hm1 : (if k + 1 ≤ i then k + 1 else k + 1 - 1) = m + 1 := by
          rw [hm]
          by_cases c : k ≤ i
          · rw [if_pos c, if_pos (by omega)]
          · rw [if_neg c, if_neg (by omega)]; omega
        have HM1 : Hid ((if k + 1 ≤ i then k + 1 else k + 1 - 1) = m + 1) := hm1
        rw [← hm] at ho
        have HFM : Hid (y = offF f i m) := hfm
        have oB := ho.alloc (.cells #[.int .i64 y] 2)
        have cB : (wx.alloc (.cells #[.int .i64 y] 2)).cell? ⟨wx.heap.size, 0, none⟩ = some (.int .i64 (offF f i m)) := by rw [← hfm]; exact cells_new wx [.int .i64 y] 2 0
        have HCB : Hid ((wx.alloc (.cells #[.int .i64 y] 2)).cell? ⟨wx.heap.size, 0, none⟩ = some (.int .i64 (offF f i m))) := cB
        have bB : Below w.heap.size w (wx.alloc (.cells #[.int .i64 y] 2)) := hbl.alloc zx _
        have HOB := oB
        clear hm hm1 hfm ho hbl cB heq
        go_wp2_with (at_builtin; refine wp_appendI rfl (.tmp 25) (.tmp 33) rfl w.heap.size wx.heap.size _ m (offF f i) ?_ HOB wx.heap.size 1 ?_ HCB.out (by omega) (by simp; omega) ?_; (simp [Act.eval]); (simp [Act.eval]); intro v4 w4 o4 b4)
        go_roundw
        case rel => exact ⟨k + 1, by omega, by go_num, by rw [HM1.out]; exact o4, bB.trans b4⟩
        case measure => simp [intOf]; omega
    · obtain rfl : k = n := by omega
      have hcnt : (if k ≤ i then k else k - 1) = k - 1 := by rw [if_neg (by omega)]
      rw [hcnt] at ho
      obtain ⟨ao', cap', rfl⟩ := ho.slice
      have HO : Hid (OwnI wx w.heap.size wx.heap.size (.slice ao' (k - 1) cap') (k - 1) (offF f i)) := ho
      have X5 := HBX.out.below hbl hb
      have f10 : wx.frozen? ⟨b, 10, none⟩ = false := X5.frozen 10
      have HX5 : Hid (Box wx b cs 34) := X5
      have HBL : Hid (Below w.heap.size w wx) := hbl
      clear ho hbl X5
      go_wp2
      refine bodyPost_end (v := .tuple #[]) (by simp [results, Tryz.results55]) rfl ?_
      refine ⟨rfl, _, (ints_of HO.out (Nat.le_refl _) (offF_in HF.out i)).chgk ((ChgL.refl [b] _).st b 10 _ (by simp)) (fun b' hb' => by simp at hb'; omega) |>.weaken (Nat.le_refl _) (by simp), HX5.out.setc 10 _, ?_⟩
      exact (ChgL.of_below HBL.out).trans ((ChgL.refl [b] _).st b 10 _ (by simp))
end Go.Proofs.YtbmfndjglndnlaaGreat

namespace Go.Proofs.YtbmfndjglndnlaaGreat
open Go.RowKit F256
set_option linter.unusedVariables false
set_option linter.unusedSimpArgs false
set_option maxHeartbeats 32000000 in
set_option maxRecDepth 20000 in
theorem specOff_any (d : WorldD) (g : Int) (cs : List Value) (hi : Nat) (w : World) (h : layWorld.rd w hi d cs) (hhi : hi ≤ w.heap.size) (hsz : szWorldD d ≤ 1048576) (hg : -9223372036854775808 ≤ g ∧ g ≤ 9223372036854775807) :
    Calls Tryz.prog 18 #[.agg cs.toArray, .int .i64 g] w (ResPost (OffAns d g) w) := by
  have h' := h
  obtain ⟨ao1, cap1, ao2, cap2, ao3, cap3, rfl, g1, g2, g3, k0, k4, k5⟩ := World_rd h'
  have HRD : Hid (layWorld.rd w hi d [.int .i64 (d.shape 0), .int .i64 (d.shape 1), .int .i64 (d.shape 2), .int .i64 (d.shape 3), .int .i64 (d.shape 4), .int .i64 (d.shape 5), .int .i64 (d.shape 6), .int .i64 (d.shape 7), .int .i64 (d.shape 8), .slice ao1 d.groups.1 cap1, .slice ao2 d.on.1 cap2, .slice ao3 d.tapes.1 cap3, .int .i64 d.writes, .int .i64 d.stop, .bool d.down]) := h
  have HSZ : Hid (szWorldD d ≤ 1048576) := hsz
  have HG2 : Hid (RdI w hi (.slice ao2 d.on.1 cap2) d.on.1 d.on.2) := by
    obtain ⟨_, e2, ⟨h2, _⟩, _⟩ := g2
    cases e2
    exact h2
  have Hg : Hid (-9223372036854775808 ≤ g ∧ g ≤ 9223372036854775807) := hg
  clear h h' hsz g1 g2 g3 k0 k4 k5 hg
  have T0 := two_newb w #[.int .i64 (d.shape 0), .int .i64 (d.shape 1), .int .i64 (d.shape 2), .int .i64 (d.shape 3), .int .i64 (d.shape 4), .int .i64 (d.shape 5), .int .i64 (d.shape 6), .int .i64 (d.shape 7), .int .i64 (d.shape 8), .slice ao1 d.groups.1 cap1, .slice ao2 d.on.1 cap2, .slice ao3 d.tapes.1 cap3, .int .i64 d.writes, .int .i64 d.stop, .bool d.down] #[.int .i64 0, .int .i64 0, .int .i64 0, .int .i64 0, .int .i64 0, .int .i64 0, .int .i64 0, .int .i64 0, .int .i64 0, .int .i64 0, .slice none 0 0, .slice none 0 0, .slice none 0 0, .int .i64 0, .int .i64 0, .bool false] 34 36
  go_enter Tryz.func18, Tryz.ntmps18
  go_wp2_with (refine wp_loadBox 34 (.tmp 2) rfl rfl (w.heap.size) rfl (cs := [.int .i64 (d.shape 0), .int .i64 (d.shape 1), .int .i64 (d.shape 2), .int .i64 (d.shape 3), .int .i64 (d.shape 4), .int .i64 (d.shape 5), .int .i64 (d.shape 6), .int .i64 (d.shape 7), .int .i64 (d.shape 8), .slice ao1 d.groups.1 cap1, .slice ao2 d.on.1 cap2, .slice ao3 d.tapes.1 cap3, .int .i64 d.writes, .int .i64 d.stop, .bool d.down]) (T0.b1) Tryz.underlying34 size_W rfl ?_)
  refine (l5Asked_any d _ hi _ (layWorld.rd_below HRD.out T0.bel hhi) (Nat.le_trans hhi T0.bel.size) HSZ.out).mono ?_
  rintro e w1 ⟨x, rfl, hx, b1⟩
  have HT1 : Hid (Two w w1 #[.int .i64 (d.shape 0), .int .i64 (d.shape 1), .int .i64 (d.shape 2), .int .i64 (d.shape 3), .int .i64 (d.shape 4), .int .i64 (d.shape 5), .int .i64 (d.shape 6), .int .i64 (d.shape 7), .int .i64 (d.shape 8), .slice ao1 d.groups.1 cap1, .slice ao2 d.on.1 cap2, .slice ao3 d.tapes.1 cap3, .int .i64 d.writes, .int .i64 d.stop, .bool d.down] #[.int .i64 0, .int .i64 0, .int .i64 0, .int .i64 0, .int .i64 0, .int .i64 0, .int .i64 0, .int .i64 0, .int .i64 0, .int .i64 0, .slice none 0 0, .slice none 0 0, .slice none 0 0, .int .i64 0, .int .i64 0, .bool false] 34 36) := T0.call b1
  have HX : Hid (AskAns d x) := hx
  have z1 : w.heap.size + 1 < w1.heap.size := HT1.out.b2.lt
  clear b1 T0 hx
  by_cases hx0 : x = 0
  case neg =>
    have hne : (x != 0) = true := by simp [hx0]
    go_wp2_with (refine wp_storeBox 36 _ _ rfl rfl (w.heap.size + 1) rfl (cs := [.int .i64 x, .int .i64 0, .int .i64 0, .int .i64 0, .int .i64 0, .int .i64 0, .int .i64 0, .int .i64 0, .int .i64 0, .int .i64 0, .slice none 0 0, .slice none 0 0, .slice none 0 0, .int .i64 0, .int .i64 0, .bool false]) (old := [.int .i64 0, .int .i64 0, .int .i64 0, .int .i64 0, .int .i64 0, .int .i64 0, .int .i64 0, .int .i64 0, .int .i64 0, .int .i64 0, .slice none 0 0, .slice none 0 0, .slice none 0 0, .int .i64 0, .int .i64 0, .bool false]) rfl (HT1.out.b2) size_WR rfl rfl (code_one _ (ask_small HX.out) w) ?_; intro w9 X9 C9 z9)
    refine ret_box Tryz.results18 rfl X9 Tryz.underlying36 size_WR rfl rfl ?_
    exact post_code (ask_small HX.out) HT1.out.bel C9 (.inl ⟨x, hx0, HX.out, rfl⟩)
  subst hx0
  have HOK : Hid (OkWorld d) := ask_ok HX.out
  have hb := okB HOK.out.shape
  have x_0 : w1.cell? ⟨w.heap.size, 0, none⟩ = some (.int .i64 (d.shape 0)) := HT1.out.b1.cell 0
  have x_1 : w1.cell? ⟨w.heap.size, 1, none⟩ = some (.int .i64 (d.shape 1)) := HT1.out.b1.cell 1
  have x_2 : w1.cell? ⟨w.heap.size, 2, none⟩ = some (.int .i64 (d.shape 2)) := HT1.out.b1.cell 2
  have x_3 : w1.cell? ⟨w.heap.size, 3, none⟩ = some (.int .i64 (d.shape 3)) := HT1.out.b1.cell 3
  have x_4 : w1.cell? ⟨w.heap.size, 4, none⟩ = some (.int .i64 (d.shape 4)) := HT1.out.b1.cell 4
  have x_5 : w1.cell? ⟨w.heap.size, 5, none⟩ = some (.int .i64 (d.shape 5)) := HT1.out.b1.cell 5
  have x_6 : w1.cell? ⟨w.heap.size, 6, none⟩ = some (.int .i64 (d.shape 6)) := HT1.out.b1.cell 6
  have x_7 : w1.cell? ⟨w.heap.size, 7, none⟩ = some (.int .i64 (d.shape 7)) := HT1.out.b1.cell 7
  have x_8 : w1.cell? ⟨w.heap.size, 8, none⟩ = some (.int .i64 (d.shape 8)) := HT1.out.b1.cell 8
  have CA := fun w' => l5All_any d.shape HOK.out.shape w'
  unfold shapeV at CA
  have zz : IntKind.i64.wrap (d.shape 0 + d.shape 1 - 1) = d.shape 0 + d.shape 1 - 1 := by rw [IntKind.wrap_i64]; omega
  clear hb
  go_wp2_with fail
  refine (CA _).mono ?_
  rintro e wA ⟨rfl, bA⟩
  have HTA : Hid (Two w wA #[.int .i64 (d.shape 0), .int .i64 (d.shape 1), .int .i64 (d.shape 2), .int .i64 (d.shape 3), .int .i64 (d.shape 4), .int .i64 (d.shape 5), .int .i64 (d.shape 6), .int .i64 (d.shape 7), .int .i64 (d.shape 8), .slice ao1 d.groups.1 cap1, .slice ao2 d.on.1 cap2, .slice ao3 d.tapes.1 cap3, .int .i64 d.writes, .int .i64 d.stop, .bool d.down] #[.int .i64 0, .int .i64 0, .int .i64 0, .int .i64 0, .int .i64 0, .int .i64 0, .int .i64 0, .int .i64 0, .int .i64 0, .int .i64 0, .slice none 0 0, .slice none 0 0, .slice none 0 0, .int .i64 0, .int .i64 0, .bool false] 34 36) := HT1.out.call bA
  have zA : w1.heap.size ≤ wA.heap.size := bA.size
  clear bA CA x_0 x_1 x_2 x_3 x_4 x_5 x_6 x_7 x_8
  obtain ⟨b, hb⟩ := exB (InP g 0 (d.shape 0 + d.shape 1 - 1))
  have Hb : Hid (b = true ↔ InP g 0 (d.shape 0 + d.shape 1 - 1)) := hb
  have CI := fun w' => l1In_b hb w'
  clear hb
  go_wp2_with fail
  refine (CI _).mono ?_
  rintro e wA' ⟨rfl, e1⟩
  obtain rfl := e1.symm
  clear CI
  cases b with
  | false =>
    go_wp2_with (refine wp_storeBox 36 _ _ rfl rfl (w.heap.size + 1) rfl (cs := [.int .i64 3, .int .i64 0, .int .i64 0, .int .i64 0, .int .i64 0, .int .i64 0, .int .i64 0, .int .i64 0, .int .i64 0, .int .i64 0, .slice none 0 0, .slice none 0 0, .slice none 0 0, .int .i64 0, .int .i64 0, .bool false]) (old := [.int .i64 0, .int .i64 0, .int .i64 0, .int .i64 0, .int .i64 0, .int .i64 0, .int .i64 0, .int .i64 0, .int .i64 0, .int .i64 0, .slice none 0 0, .slice none 0 0, .slice none 0 0, .int .i64 0, .int .i64 0, .bool false]) rfl (HTA.out.b2) size_WR rfl rfl (code_one _ (by decide) w) ?_; intro w9 X9 C9 z9)
    refine ret_box Tryz.results18 rfl X9 Tryz.underlying36 size_WR rfl rfl ?_
    exact post_code (by decide) HTA.out.bel C9 (.inr ⟨HX.out, .inl ⟨fun h => (by have := Hb.out.2 h; cases this), rfl⟩⟩)
  | true =>
  have hin : Hid (InP g 0 (d.shape 0 + d.shape 1 - 1)) := Hb.out.1 (by simp)
  have x10 : wA.cell? ⟨w.heap.size, 10, none⟩ = some (.slice ao2 d.on.1 cap2) := HTA.out.b1.cell 10
  have CH := l1Has_any _ _ _ hi g wA (HG2.out.below HTA.out.bel hhi)
  go_wp2_with fail
  refine CH.mono ?_
  rintro e w4 ⟨t, rfl, ht, b4⟩
  have HT4 : Hid (Two w w4 #[.int .i64 (d.shape 0), .int .i64 (d.shape 1), .int .i64 (d.shape 2), .int .i64 (d.shape 3), .int .i64 (d.shape 4), .int .i64 (d.shape 5), .int .i64 (d.shape 6), .int .i64 (d.shape 7), .int .i64 (d.shape 8), .slice ao1 d.groups.1 cap1, .slice ao2 d.on.1 cap2, .slice ao3 d.tapes.1 cap3, .int .i64 d.writes, .int .i64 d.stop, .bool d.down] #[.int .i64 0, .int .i64 0, .int .i64 0, .int .i64 0, .int .i64 0, .int .i64 0, .int .i64 0, .int .i64 0, .int .i64 0, .int .i64 0, .slice none 0 0, .slice none 0 0, .slice none 0 0, .int .i64 0, .int .i64 0, .bool false] 34 36) := HTA.out.call b4
  have z4 : wA.heap.size ≤ w4.heap.size := b4.size
  have HH : Hid (t = true ↔ HasP d.on.1 d.on.2 g) := ht
  clear CH b4 x10 ht
  cases t with
  | false =>
    go_wp2_with (refine wp_storeBox 36 _ _ rfl rfl (w.heap.size + 1) rfl (cs := [.int .i64 8, .int .i64 0, .int .i64 0, .int .i64 0, .int .i64 0, .int .i64 0, .int .i64 0, .int .i64 0, .int .i64 0, .int .i64 0, .slice none 0 0, .slice none 0 0, .slice none 0 0, .int .i64 0, .int .i64 0, .bool false]) (old := [.int .i64 0, .int .i64 0, .int .i64 0, .int .i64 0, .int .i64 0, .int .i64 0, .int .i64 0, .int .i64 0, .int .i64 0, .int .i64 0, .slice none 0 0, .slice none 0 0, .slice none 0 0, .int .i64 0, .int .i64 0, .bool false]) rfl (HT4.out.b2) size_WR rfl rfl (code_one _ (by decide) w) ?_; intro w9 X9 C9 z9)
    refine ret_box Tryz.results18 rfl X9 Tryz.underlying36 size_WR rfl rfl ?_
    exact post_code (by decide) HT4.out.bel C9 (.inr ⟨HX.out, .inr ⟨hin.out, .inl ⟨fun h => (by have := HH.out.2 h; cases this), rfl⟩⟩⟩)
  | true =>
  go_wp2_with (refine wp_loadBox 34 (.tmp 2) rfl rfl (w.heap.size) rfl (cs := [.int .i64 (d.shape 0), .int .i64 (d.shape 1), .int .i64 (d.shape 2), .int .i64 (d.shape 3), .int .i64 (d.shape 4), .int .i64 (d.shape 5), .int .i64 (d.shape 6), .int .i64 (d.shape 7), .int .i64 (d.shape 8), .slice ao1 d.groups.1 cap1, .slice ao2 d.on.1 cap2, .slice ao3 d.tapes.1 cap3, .int .i64 d.writes, .int .i64 d.stop, .bool d.down]) (HT4.out.b1) Tryz.underlying34 size_W rfl ?_)
  refine (l5Copy_is _ d hi _ (layWorld.rd_below HRD.out HT4.out.bel hhi) (Nat.le_trans hhi HT4.out.bel.size) HSZ.out).mono ?_
  rintro e w2 ⟨c2, rfl, o2, b2⟩
  obtain ⟨p1, c1, p2, c2, p3, c3, K1, K2, K3, rfl, WO2⟩ := world_open o2
  have z2 : w4.heap.size ≤ w2.heap.size := b2.size
  go_upto_region 9 with (refine wp_allocStore 34 6 (.tmp 28) [.int .i64 (d.shape 0), .int .i64 (d.shape 1), .int .i64 (d.shape 2), .int .i64 (d.shape 3), .int .i64 (d.shape 4), .int .i64 (d.shape 5), .int .i64 (d.shape 6), .int .i64 (d.shape 7), .int .i64 (d.shape 8), .slice p1 d.groups.1 c1, .slice p2 d.on.1 c2, .slice p3 d.tapes.1 c3, .int .i64 d.writes, .int .i64 d.stop, .bool d.down] _ 15 rfl rfl rfl rfl rfl rfl rfl rfl info_W rfl rfl o2.one ?_)
  have bA : Below w2.heap.size w2 (w2.alloc (.cells #[.int .i64 (d.shape 0), .int .i64 (d.shape 1), .int .i64 (d.shape 2), .int .i64 (d.shape 3), .int .i64 (d.shape 4), .int .i64 (d.shape 5), .int .i64 (d.shape 6), .int .i64 (d.shape 7), .int .i64 (d.shape 8), .slice p1 d.groups.1 c1, .slice p2 d.on.1 c2, .slice p3 d.tapes.1 c3, .int .i64 d.writes, .int .i64 d.stop, .bool d.down] 34)) := (Below.refl _ _).alloc (Nat.le_refl _) _
  have X3 : Box (w2.alloc (.cells #[.int .i64 (d.shape 0), .int .i64 (d.shape 1), .int .i64 (d.shape 2), .int .i64 (d.shape 3), .int .i64 (d.shape 4), .int .i64 (d.shape 5), .int .i64 (d.shape 6), .int .i64 (d.shape 7), .int .i64 (d.shape 8), .slice p1 d.groups.1 c1, .slice p2 d.on.1 c2, .slice p3 d.tapes.1 c3, .int .i64 d.writes, .int .i64 d.stop, .bool d.down] 34)) w2.heap.size #[.int .i64 (d.shape 0), .int .i64 (d.shape 1), .int .i64 (d.shape 2), .int .i64 (d.shape 3), .int .i64 (d.shape 4), .int .i64 (d.shape 5), .int .i64 (d.shape 6), .int .i64 (d.shape 7), .int .i64 (d.shape 8), .slice p1 d.groups.1 c1, .slice p2 d.on.1 c2, .slice p3 d.tapes.1 c3, .int .i64 d.writes, .int .i64 d.stop, .bool d.down] 34 := box_new _ _ _
  obtain ⟨W3, hW3⟩ : ∃ x, x = w2.alloc (.cells #[.int .i64 (d.shape 0), .int .i64 (d.shape 1), .int .i64 (d.shape 2), .int .i64 (d.shape 3), .int .i64 (d.shape 4), .int .i64 (d.shape 5), .int .i64 (d.shape 6), .int .i64 (d.shape 7), .int .i64 (d.shape 8), .slice p1 d.groups.1 c1, .slice p2 d.on.1 c2, .slice p3 d.tapes.1 c3, .int .i64 d.writes, .int .i64 d.stop, .bool d.down] 34) := ⟨_, rfl⟩
  rw [← hW3] at bA X3 ⊢
  have T3 := (HT4.out.call b2).call bA
  have WO := WO2.below bA (Nat.le_refl _)
  have z3 : w2.heap.size < W3.heap.size := X3.lt
  clear bA hW3 o2 b2 WO2
  obtain ⟨i, hi1, hi2⟩ := HH.out.1 (by simp)
  have HI : Hid (i < d.on.1 ∧ d.on.2 i = g) := ⟨hi1, hi2⟩
  have CO := l5Off_any w2.heap.size d.on.1 c2 p2 d.on.2 w2.heap.size i g hi1 hi2 (fun t ht hne => by rw [← hi2]; exact on_alone HOK.out hi1 t ht hne) (on_few HSZ.out) (by obtain ⟨_, _, _, _, hh⟩ := WO.o; exact hh) W3 #[.int .i64 (d.shape 0), .int .i64 (d.shape 1), .int .i64 (d.shape 2), .int .i64 (d.shape 3), .int .i64 (d.shape 4), .int .i64 (d.shape 5), .int .i64 (d.shape 6), .int .i64 (d.shape 7), .int .i64 (d.shape 8), .slice p1 d.groups.1 c1, .slice p2 d.on.1 c2, .slice p3 d.tapes.1 c3, .int .i64 d.writes, .int .i64 d.stop, .bool d.down] X3 rfl (by
    obtain ⟨_, e2, ⟨h2, _⟩, _⟩ := Lay.own_rd layInts WO.o (hi := w2.heap.size) (fun b hb => (WO.inn b (List.mem_append_right _ (List.mem_append_left _ hb))).2)
    cases e2
    exact h2) (by omega)
  clear hi1 hi2
  go_wp2_with fail
  refine CO.mono ?_
  rintro e w6 ⟨rfl, v', o6, X6, C6⟩
  obtain ⟨p', c', hv⟩ := ints_formT o6
  obtain rfl := one_eq hv
  clear hv CO
  have X7 : Box w6 w2.heap.size #[.int .i64 (d.shape 0), .int .i64 (d.shape 1), .int .i64 (d.shape 2), .int .i64 (d.shape 3), .int .i64 (d.shape 4), .int .i64 (d.shape 5), .int .i64 (d.shape 6), .int .i64 (d.shape 7), .int .i64 (d.shape 8), .slice p1 d.groups.1 c1, (.slice p' (d.on.1 - 1) c'), .slice p3 d.tapes.1 c3, .int .i64 d.writes, .int .i64 d.stop, .bool d.down] 34 := X6
  have T7 := T3.chgK C6 (fun b hb => by simp at hb; omega)
  have z6 := C6.size
  obtain ⟨K', WO7⟩ := WO.onNew (by omega) (by omega) o6 C6 (fun b hb => by
    simp only [List.mem_singleton] at hb
    subst hb
    exact ⟨fun hm => by have := WO.inn _ (List.mem_append_left _ hm); omega, fun hm => by have := WO.inn _ (List.mem_append_right _ (List.mem_append_right _ hm)); omega⟩)
  have O7 : OwnT layWorld w6 w4.heap.size w6.heap.size (offW d i) [.int .i64 (d.shape 0), .int .i64 (d.shape 1), .int .i64 (d.shape 2), .int .i64 (d.shape 3), .int .i64 (d.shape 4), .int .i64 (d.shape 5), .int .i64 (d.shape 6), .int .i64 (d.shape 7), .int .i64 (d.shape 8), .slice p1 d.groups.1 c1, (.slice p' (d.on.1 - 1) c'), .slice p3 d.tapes.1 c3, .int .i64 d.writes, .int .i64 d.stop, .bool d.down] := WO7.own
  clear WO7 WO X6 X3 T3 C6 o6
  go_wp2_with (first | (refine wp_loadBox 34 (.tmp 6) rfl rfl (w2.heap.size) rfl (cs := [.int .i64 (d.shape 0), .int .i64 (d.shape 1), .int .i64 (d.shape 2), .int .i64 (d.shape 3), .int .i64 (d.shape 4), .int .i64 (d.shape 5), .int .i64 (d.shape 6), .int .i64 (d.shape 7), .int .i64 (d.shape 8), .slice p1 d.groups.1 c1, (.slice p' (d.on.1 - 1) c'), .slice p3 d.tapes.1 c3, .int .i64 d.writes, .int .i64 d.stop, .bool d.down]) (X7) Tryz.underlying34 size_W rfl ?_) | (refine wp_storeBox 36 _ _ rfl rfl (w.heap.size + 1) rfl (cs := [.int .i64 0, .int .i64 (d.shape 0), .int .i64 (d.shape 1), .int .i64 (d.shape 2), .int .i64 (d.shape 3), .int .i64 (d.shape 4), .int .i64 (d.shape 5), .int .i64 (d.shape 6), .int .i64 (d.shape 7), .int .i64 (d.shape 8), .slice p1 d.groups.1 c1, (.slice p' (d.on.1 - 1) c'), .slice p3 d.tapes.1 c3, .int .i64 d.writes, .int .i64 d.stop, .bool d.down]) (old := [.int .i64 0, .int .i64 0, .int .i64 0, .int .i64 0, .int .i64 0, .int .i64 0, .int .i64 0, .int .i64 0, .int .i64 0, .int .i64 0, .slice none 0 0, .slice none 0 0, .slice none 0 0, .int .i64 0, .int .i64 0, .bool false]) rfl (T7.b2) size_WR rfl rfl ((own_resOf 0 (by decide) O7).one) ?_; intro w9 X9 C9 z9))
  refine ret_box Tryz.results18 rfl X9 Tryz.underlying36 size_WR rfl rfl ?_
  exact post_world (by decide) T7.bel C9 O7 (by omega) (by omega) (.inr ⟨HX.out, .inr ⟨hin.out, .inr ⟨i, HI.out.1, HI.out.2, rfl⟩⟩⟩)
end Go.Proofs.YtbmfndjglndnlaaGreat

namespace Go.Proofs.YtbmfndjglndnlaaGreat
open Go.RowKit F256
set_option linter.unusedVariables false
set_option linter.unusedSimpArgs false
set_option maxHeartbeats 32000000 in
set_option maxRecDepth 20000 in
theorem implOff_any (d : WorldD) (g : Int) (cs : List Value) (hi : Nat) (w : World) (h : layWorld.rd w hi d cs) (hhi : hi ≤ w.heap.size) (hsz : szWorldD d ≤ 1048576) (hg : -9223372036854775808 ≤ g ∧ g ≤ 9223372036854775807) :
    Calls Tryz.prog 19 #[.agg cs.toArray, .int .i64 g] w (ResPost (OffAns d g) w) := by
  have h' := h
  obtain ⟨ao1, cap1, ao2, cap2, ao3, cap3, rfl, g1, g2, g3, k0, k4, k5⟩ := World_rd h'
  have HRD : Hid (layWorld.rd w hi d [.int .i64 (d.shape 0), .int .i64 (d.shape 1), .int .i64 (d.shape 2), .int .i64 (d.shape 3), .int .i64 (d.shape 4), .int .i64 (d.shape 5), .int .i64 (d.shape 6), .int .i64 (d.shape 7), .int .i64 (d.shape 8), .slice ao1 d.groups.1 cap1, .slice ao2 d.on.1 cap2, .slice ao3 d.tapes.1 cap3, .int .i64 d.writes, .int .i64 d.stop, .bool d.down]) := h
  have HSZ : Hid (szWorldD d ≤ 1048576) := hsz
  have Hg : Hid (-9223372036854775808 ≤ g ∧ g ≤ 9223372036854775807) := hg
  clear h h' hsz g1 g2 g3 k0 k4 k5 hg
  have T0 := two_newb w #[.int .i64 (d.shape 0), .int .i64 (d.shape 1), .int .i64 (d.shape 2), .int .i64 (d.shape 3), .int .i64 (d.shape 4), .int .i64 (d.shape 5), .int .i64 (d.shape 6), .int .i64 (d.shape 7), .int .i64 (d.shape 8), .slice ao1 d.groups.1 cap1, .slice ao2 d.on.1 cap2, .slice ao3 d.tapes.1 cap3, .int .i64 d.writes, .int .i64 d.stop, .bool d.down] #[.int .i64 0, .int .i64 0, .int .i64 0, .int .i64 0, .int .i64 0, .int .i64 0, .int .i64 0, .int .i64 0, .int .i64 0, .int .i64 0, .slice none 0 0, .slice none 0 0, .slice none 0 0, .int .i64 0, .int .i64 0, .bool false] 34 36
  go_enter Tryz.func19, Tryz.ntmps19
  go_wp2_with (refine wp_loadBox 34 (.tmp 2) rfl rfl (w.heap.size) rfl (cs := [.int .i64 (d.shape 0), .int .i64 (d.shape 1), .int .i64 (d.shape 2), .int .i64 (d.shape 3), .int .i64 (d.shape 4), .int .i64 (d.shape 5), .int .i64 (d.shape 6), .int .i64 (d.shape 7), .int .i64 (d.shape 8), .slice ao1 d.groups.1 cap1, .slice ao2 d.on.1 cap2, .slice ao3 d.tapes.1 cap3, .int .i64 d.writes, .int .i64 d.stop, .bool d.down]) (T0.b1) Tryz.underlying34 size_W rfl ?_)
  refine (powered_any d _ hi _ (layWorld.rd_below HRD.out T0.bel hhi) (Nat.le_trans hhi T0.bel.size) HSZ.out).mono ?_
  rintro e w1 ⟨x, rfl, hx, b1⟩
  have HT1 : Hid (Two w w1 #[.int .i64 (d.shape 0), .int .i64 (d.shape 1), .int .i64 (d.shape 2), .int .i64 (d.shape 3), .int .i64 (d.shape 4), .int .i64 (d.shape 5), .int .i64 (d.shape 6), .int .i64 (d.shape 7), .int .i64 (d.shape 8), .slice ao1 d.groups.1 cap1, .slice ao2 d.on.1 cap2, .slice ao3 d.tapes.1 cap3, .int .i64 d.writes, .int .i64 d.stop, .bool d.down] #[.int .i64 0, .int .i64 0, .int .i64 0, .int .i64 0, .int .i64 0, .int .i64 0, .int .i64 0, .int .i64 0, .int .i64 0, .int .i64 0, .slice none 0 0, .slice none 0 0, .slice none 0 0, .int .i64 0, .int .i64 0, .bool false] 34 36) := T0.call b1
  have HX : Hid (AskAns d x) := hx
  have z1 : w.heap.size + 1 < w1.heap.size := HT1.out.b2.lt
  clear b1 T0 hx
  by_cases hx0 : x = 0
  case neg =>
    have hne : (x != 0) = true := by simp [hx0]
    go_wp2_with (refine wp_storeBox 36 _ _ rfl rfl (w.heap.size + 1) rfl (cs := [.int .i64 x, .int .i64 0, .int .i64 0, .int .i64 0, .int .i64 0, .int .i64 0, .int .i64 0, .int .i64 0, .int .i64 0, .int .i64 0, .slice none 0 0, .slice none 0 0, .slice none 0 0, .int .i64 0, .int .i64 0, .bool false]) (old := [.int .i64 0, .int .i64 0, .int .i64 0, .int .i64 0, .int .i64 0, .int .i64 0, .int .i64 0, .int .i64 0, .int .i64 0, .int .i64 0, .slice none 0 0, .slice none 0 0, .slice none 0 0, .int .i64 0, .int .i64 0, .bool false]) rfl (HT1.out.b2) size_WR rfl rfl (code_one _ (ask_small HX.out) w) ?_; intro w9 X9 C9 z9)
    refine ret_box Tryz.results19 rfl X9 Tryz.underlying36 size_WR rfl rfl ?_
    exact post_code (ask_small HX.out) HT1.out.bel C9 (.inl ⟨x, hx0, HX.out, rfl⟩)
  subst hx0
  have HOK : Hid (OkWorld d) := ask_ok HX.out
  have x_0 : w1.cell? ⟨w.heap.size, 0, none⟩ = some (.int .i64 (d.shape 0)) := HT1.out.b1.cell 0
  have x_1 : w1.cell? ⟨w.heap.size, 1, none⟩ = some (.int .i64 (d.shape 1)) := HT1.out.b1.cell 1
  have x_2 : w1.cell? ⟨w.heap.size, 2, none⟩ = some (.int .i64 (d.shape 2)) := HT1.out.b1.cell 2
  have x_3 : w1.cell? ⟨w.heap.size, 3, none⟩ = some (.int .i64 (d.shape 3)) := HT1.out.b1.cell 3
  have x_4 : w1.cell? ⟨w.heap.size, 4, none⟩ = some (.int .i64 (d.shape 4)) := HT1.out.b1.cell 4
  have x_5 : w1.cell? ⟨w.heap.size, 5, none⟩ = some (.int .i64 (d.shape 5)) := HT1.out.b1.cell 5
  have x_6 : w1.cell? ⟨w.heap.size, 6, none⟩ = some (.int .i64 (d.shape 6)) := HT1.out.b1.cell 6
  have x_7 : w1.cell? ⟨w.heap.size, 7, none⟩ = some (.int .i64 (d.shape 7)) := HT1.out.b1.cell 7
  have x_8 : w1.cell? ⟨w.heap.size, 8, none⟩ = some (.int .i64 (d.shape 8)) := HT1.out.b1.cell 8
  obtain ⟨b, hb⟩ := exB (InP g 0 (d.shape 0 + d.shape 1 - 1))
  have Hb : Hid (b = true ↔ InP g 0 (d.shape 0 + d.shape 1 - 1)) := hb
  have CA := fun w' => isGroup_b HOK.out.shape hb w'
  unfold shapeV at CA
  clear hb
  go_wp2_with fail
  refine (CA _).mono ?_
  rintro e wA ⟨rfl, bA⟩
  have HTA : Hid (Two w wA #[.int .i64 (d.shape 0), .int .i64 (d.shape 1), .int .i64 (d.shape 2), .int .i64 (d.shape 3), .int .i64 (d.shape 4), .int .i64 (d.shape 5), .int .i64 (d.shape 6), .int .i64 (d.shape 7), .int .i64 (d.shape 8), .slice ao1 d.groups.1 cap1, .slice ao2 d.on.1 cap2, .slice ao3 d.tapes.1 cap3, .int .i64 d.writes, .int .i64 d.stop, .bool d.down] #[.int .i64 0, .int .i64 0, .int .i64 0, .int .i64 0, .int .i64 0, .int .i64 0, .int .i64 0, .int .i64 0, .int .i64 0, .int .i64 0, .slice none 0 0, .slice none 0 0, .slice none 0 0, .int .i64 0, .int .i64 0, .bool false] 34 36) := HT1.out.call bA
  have zA : w1.heap.size ≤ wA.heap.size := bA.size
  clear bA CA x_0 x_1 x_2 x_3 x_4 x_5 x_6 x_7 x_8
  cases b with
  | false =>
    go_wp2_with (refine wp_storeBox 36 _ _ rfl rfl (w.heap.size + 1) rfl (cs := [.int .i64 3, .int .i64 0, .int .i64 0, .int .i64 0, .int .i64 0, .int .i64 0, .int .i64 0, .int .i64 0, .int .i64 0, .int .i64 0, .slice none 0 0, .slice none 0 0, .slice none 0 0, .int .i64 0, .int .i64 0, .bool false]) (old := [.int .i64 0, .int .i64 0, .int .i64 0, .int .i64 0, .int .i64 0, .int .i64 0, .int .i64 0, .int .i64 0, .int .i64 0, .int .i64 0, .slice none 0 0, .slice none 0 0, .slice none 0 0, .int .i64 0, .int .i64 0, .bool false]) rfl (HTA.out.b2) size_WR rfl rfl (code_one _ (by decide) w) ?_; intro w9 X9 C9 z9)
    refine ret_box Tryz.results19 rfl X9 Tryz.underlying36 size_WR rfl rfl ?_
    exact post_code (by decide) HTA.out.bel C9 (.inr ⟨HX.out, .inl ⟨fun h => (by have := Hb.out.2 h; cases this), rfl⟩⟩)
  | true =>
  have hin : Hid (InP g 0 (d.shape 0 + d.shape 1 - 1)) := Hb.out.1 (by simp)
  go_wp2_with (refine wp_loadBox 34 (.tmp 2) rfl rfl (w.heap.size) rfl (cs := [.int .i64 (d.shape 0), .int .i64 (d.shape 1), .int .i64 (d.shape 2), .int .i64 (d.shape 3), .int .i64 (d.shape 4), .int .i64 (d.shape 5), .int .i64 (d.shape 6), .int .i64 (d.shape 7), .int .i64 (d.shape 8), .slice ao1 d.groups.1 cap1, .slice ao2 d.on.1 cap2, .slice ao3 d.tapes.1 cap3, .int .i64 d.writes, .int .i64 d.stop, .bool d.down]) (HTA.out.b1) Tryz.underlying34 size_W rfl ?_)
  refine (isOn_any d _ hi g _ (layWorld.rd_below HRD.out HTA.out.bel hhi) (Nat.le_trans hhi HTA.out.bel.size)).mono ?_
  rintro e w4 ⟨t, rfl, ht, b4⟩
  have HT4 : Hid (Two w w4 #[.int .i64 (d.shape 0), .int .i64 (d.shape 1), .int .i64 (d.shape 2), .int .i64 (d.shape 3), .int .i64 (d.shape 4), .int .i64 (d.shape 5), .int .i64 (d.shape 6), .int .i64 (d.shape 7), .int .i64 (d.shape 8), .slice ao1 d.groups.1 cap1, .slice ao2 d.on.1 cap2, .slice ao3 d.tapes.1 cap3, .int .i64 d.writes, .int .i64 d.stop, .bool d.down] #[.int .i64 0, .int .i64 0, .int .i64 0, .int .i64 0, .int .i64 0, .int .i64 0, .int .i64 0, .int .i64 0, .int .i64 0, .int .i64 0, .slice none 0 0, .slice none 0 0, .slice none 0 0, .int .i64 0, .int .i64 0, .bool false] 34 36) := HTA.out.call b4
  have z4 : wA.heap.size ≤ w4.heap.size := b4.size
  have HH : Hid (t = true ↔ HasP d.on.1 d.on.2 g) := ht
  clear b4 ht
  cases t with
  | false =>
    go_wp2_with (refine wp_storeBox 36 _ _ rfl rfl (w.heap.size + 1) rfl (cs := [.int .i64 8, .int .i64 0, .int .i64 0, .int .i64 0, .int .i64 0, .int .i64 0, .int .i64 0, .int .i64 0, .int .i64 0, .int .i64 0, .slice none 0 0, .slice none 0 0, .slice none 0 0, .int .i64 0, .int .i64 0, .bool false]) (old := [.int .i64 0, .int .i64 0, .int .i64 0, .int .i64 0, .int .i64 0, .int .i64 0, .int .i64 0, .int .i64 0, .int .i64 0, .int .i64 0, .slice none 0 0, .slice none 0 0, .slice none 0 0, .int .i64 0, .int .i64 0, .bool false]) rfl (HT4.out.b2) size_WR rfl rfl (code_one _ (by decide) w) ?_; intro w9 X9 C9 z9)
    refine ret_box Tryz.results19 rfl X9 Tryz.underlying36 size_WR rfl rfl ?_
    exact post_code (by decide) HT4.out.bel C9 (.inr ⟨HX.out, .inr ⟨hin.out, .inl ⟨fun h => (by have := HH.out.2 h; cases this), rfl⟩⟩⟩)
  | true =>
  go_wp2_with (refine wp_loadBox 34 (.tmp 2) rfl rfl (w.heap.size) rfl (cs := [.int .i64 (d.shape 0), .int .i64 (d.shape 1), .int .i64 (d.shape 2), .int .i64 (d.shape 3), .int .i64 (d.shape 4), .int .i64 (d.shape 5), .int .i64 (d.shape 6), .int .i64 (d.shape 7), .int .i64 (d.shape 8), .slice ao1 d.groups.1 cap1, .slice ao2 d.on.1 cap2, .slice ao3 d.tapes.1 cap3, .int .i64 d.writes, .int .i64 d.stop, .bool d.down]) (HT4.out.b1) Tryz.underlying34 size_W rfl ?_)
  refine (copyWorld_is _ d hi _ (layWorld.rd_below HRD.out HT4.out.bel hhi) (Nat.le_trans hhi HT4.out.bel.size) HSZ.out).mono ?_
  rintro e w2 ⟨c2, rfl, o2, b2⟩
  obtain ⟨p1, c1, p2, c2, p3, c3, K1, K2, K3, rfl, WO2⟩ := world_open o2
  have z2 : w4.heap.size ≤ w2.heap.size := b2.size
  go_upto_region 9 with (refine wp_allocStore 34 6 (.tmp 26) [.int .i64 (d.shape 0), .int .i64 (d.shape 1), .int .i64 (d.shape 2), .int .i64 (d.shape 3), .int .i64 (d.shape 4), .int .i64 (d.shape 5), .int .i64 (d.shape 6), .int .i64 (d.shape 7), .int .i64 (d.shape 8), .slice p1 d.groups.1 c1, .slice p2 d.on.1 c2, .slice p3 d.tapes.1 c3, .int .i64 d.writes, .int .i64 d.stop, .bool d.down] _ 15 rfl rfl rfl rfl rfl rfl rfl rfl info_W rfl rfl o2.one ?_)
  have bA : Below w2.heap.size w2 (w2.alloc (.cells #[.int .i64 (d.shape 0), .int .i64 (d.shape 1), .int .i64 (d.shape 2), .int .i64 (d.shape 3), .int .i64 (d.shape 4), .int .i64 (d.shape 5), .int .i64 (d.shape 6), .int .i64 (d.shape 7), .int .i64 (d.shape 8), .slice p1 d.groups.1 c1, .slice p2 d.on.1 c2, .slice p3 d.tapes.1 c3, .int .i64 d.writes, .int .i64 d.stop, .bool d.down] 34)) := (Below.refl _ _).alloc (Nat.le_refl _) _
  have X3 : Box (w2.alloc (.cells #[.int .i64 (d.shape 0), .int .i64 (d.shape 1), .int .i64 (d.shape 2), .int .i64 (d.shape 3), .int .i64 (d.shape 4), .int .i64 (d.shape 5), .int .i64 (d.shape 6), .int .i64 (d.shape 7), .int .i64 (d.shape 8), .slice p1 d.groups.1 c1, .slice p2 d.on.1 c2, .slice p3 d.tapes.1 c3, .int .i64 d.writes, .int .i64 d.stop, .bool d.down] 34)) w2.heap.size #[.int .i64 (d.shape 0), .int .i64 (d.shape 1), .int .i64 (d.shape 2), .int .i64 (d.shape 3), .int .i64 (d.shape 4), .int .i64 (d.shape 5), .int .i64 (d.shape 6), .int .i64 (d.shape 7), .int .i64 (d.shape 8), .slice p1 d.groups.1 c1, .slice p2 d.on.1 c2, .slice p3 d.tapes.1 c3, .int .i64 d.writes, .int .i64 d.stop, .bool d.down] 34 := box_new _ _ _
  obtain ⟨W3, hW3⟩ : ∃ x, x = w2.alloc (.cells #[.int .i64 (d.shape 0), .int .i64 (d.shape 1), .int .i64 (d.shape 2), .int .i64 (d.shape 3), .int .i64 (d.shape 4), .int .i64 (d.shape 5), .int .i64 (d.shape 6), .int .i64 (d.shape 7), .int .i64 (d.shape 8), .slice p1 d.groups.1 c1, .slice p2 d.on.1 c2, .slice p3 d.tapes.1 c3, .int .i64 d.writes, .int .i64 d.stop, .bool d.down] 34) := ⟨_, rfl⟩
  rw [← hW3] at bA X3 ⊢
  have T3 := (HT4.out.call b2).call bA
  have WO := WO2.below bA (Nat.le_refl _)
  have z3 : w2.heap.size < W3.heap.size := X3.lt
  clear bA hW3 o2 b2 WO2
  obtain ⟨i, hi1, hi2⟩ := HH.out.1 (by simp)
  have HI : Hid (i < d.on.1 ∧ d.on.2 i = g) := ⟨hi1, hi2⟩
  obtain ⟨gb, -, rfl⟩ : ∃ gb, True ∧ p2 = some ⟨gb, 0, none⟩ := by
    obtain ⟨_, e, _, ho, _⟩ := WO.o
    cases e
    rcases ho.1.2 with ⟨hn, h0⟩ | ⟨g', cap', cur, he, _⟩
    · exact absurd h0 (by show ¬ d.on.1 = 0; omega)
    · cases he; exact ⟨g', trivial, rfl⟩
  have CX := index_first (.slice (some ⟨gb, 0, none⟩) d.on.1 c2) d.on.1 d.on.2 w2.heap.size g i hi1 hi2 (fun t ht => by rw [← hi2]; exact on_alone HOK.out hi1 t (by omega) (by omega)) W3 (by
    obtain ⟨_, e2, ⟨h2, _⟩, _⟩ := Lay.own_rd layInts WO.o (hi := w2.heap.size) (fun b hb => (WO.inn b (List.mem_append_right _ (List.mem_append_left _ hb))).2)
    cases e2
    exact h2)
  have CD := delete_one (n := d.on.1) (f := d.on.2) WO.o i hi1 (on_few HSZ.out)
  have x10 : W3.cell? ⟨w2.heap.size, 10, none⟩ = some (.slice (some ⟨gb, 0, none⟩) d.on.1 c2) := X3.cell 10
  have hK : ∀ b, b ∈ K2 → w4.heap.size ≤ b ∧ b < w2.heap.size := fun b hb => WO.inn b (List.mem_append_right _ (List.mem_append_left _ hb))
  have zi : IntKind.i64.wrap ((i : Int) + 1) = (i : Int) + 1 := by have := on_few HSZ.out; rw [IntKind.wrap_i64]; omega
  clear hi2
  go_wp2_with fail
  refine CX.mono ?_
  rintro e w5 ⟨rfl, e5⟩
  obtain rfl := e5.symm
  go_wp2_with fail
  refine CD.mono ?_
  rintro e w6 ⟨rfl, TT⟩
  have X6 := X3.chgl TT.chg (fun hb => by have := hK _ hb; omega)
  have T6 := T3.chgK TT.chg (fun b hb => by have := hK _ hb; omega)
  have WO6 := WO.on (by omega) (by omega) TT
  have z6 := TT.chg.size
  have y10 : w6.cell? ⟨w2.heap.size, 10, none⟩ = some (.slice (some ⟨gb, 0, none⟩) d.on.1 c2) := X6.cell 10
  have yf10 : w6.frozen? ⟨w2.heap.size, 10, none⟩ = false := X6.frozen 10
  have X7 : Box (w6.setCell ⟨w2.heap.size, 10, none⟩ (.slice (some ⟨gb, 0, none⟩) (d.on.1 - 1) c2)) w2.heap.size #[.int .i64 (d.shape 0), .int .i64 (d.shape 1), .int .i64 (d.shape 2), .int .i64 (d.shape 3), .int .i64 (d.shape 4), .int .i64 (d.shape 5), .int .i64 (d.shape 6), .int .i64 (d.shape 7), .int .i64 (d.shape 8), .slice p1 d.groups.1 c1, (.slice (some ⟨gb, 0, none⟩) (d.on.1 - 1) c2), .slice p3 d.tapes.1 c3, .int .i64 d.writes, .int .i64 d.stop, .bool d.down] 34 := X6.setc 10 _
  have CC : ChgL [w2.heap.size] w6 (w6.setCell ⟨w2.heap.size, 10, none⟩ (.slice (some ⟨gb, 0, none⟩) (d.on.1 - 1) c2)) := (ChgL.refl _ _).st _ 10 _ (by simp)
  have T7 := T6.chgK CC (fun b hb => by simp at hb; omega)
  have O7 : OwnT layWorld (w6.setCell ⟨w2.heap.size, 10, none⟩ (.slice (some ⟨gb, 0, none⟩) (d.on.1 - 1) c2)) w4.heap.size w6.heap.size (offW d i) [.int .i64 (d.shape 0), .int .i64 (d.shape 1), .int .i64 (d.shape 2), .int .i64 (d.shape 3), .int .i64 (d.shape 4), .int .i64 (d.shape 5), .int .i64 (d.shape 6), .int .i64 (d.shape 7), .int .i64 (d.shape 8), .slice p1 d.groups.1 c1, (.slice (some ⟨gb, 0, none⟩) (d.on.1 - 1) c2), .slice p3 d.tapes.1 c3, .int .i64 d.writes, .int .i64 d.stop, .bool d.down] := (WO6.chgn CC (fun b hb hm => by
    simp only [List.mem_singleton] at hb
    subst hb
    have := WO.inn _ hm
    omega)).own
  have z7 := CC.size
  clear WO WO6 X3 T3 TT X6 T6 CX CD x10
  go_upto_region 11 with fail
  obtain ⟨W7, hW7⟩ : ∃ x, x = w6.setCell ⟨w2.heap.size, 10, none⟩ (.slice (some ⟨gb, 0, none⟩) (d.on.1 - 1) c2) := ⟨_, rfl⟩
  rw [← hW7] at X7 T7 O7 z7 ⊢
  clear hW7 y10 yf10 CC
  go_wp2_with (first | (refine wp_loadBox 34 (.tmp 6) rfl rfl (w2.heap.size) rfl (cs := [.int .i64 (d.shape 0), .int .i64 (d.shape 1), .int .i64 (d.shape 2), .int .i64 (d.shape 3), .int .i64 (d.shape 4), .int .i64 (d.shape 5), .int .i64 (d.shape 6), .int .i64 (d.shape 7), .int .i64 (d.shape 8), .slice p1 d.groups.1 c1, (.slice (some ⟨gb, 0, none⟩) (d.on.1 - 1) c2), .slice p3 d.tapes.1 c3, .int .i64 d.writes, .int .i64 d.stop, .bool d.down]) (X7) Tryz.underlying34 size_W rfl ?_) | (refine wp_storeBox 36 _ _ rfl rfl (w.heap.size + 1) rfl (cs := [.int .i64 0, .int .i64 (d.shape 0), .int .i64 (d.shape 1), .int .i64 (d.shape 2), .int .i64 (d.shape 3), .int .i64 (d.shape 4), .int .i64 (d.shape 5), .int .i64 (d.shape 6), .int .i64 (d.shape 7), .int .i64 (d.shape 8), .slice p1 d.groups.1 c1, (.slice (some ⟨gb, 0, none⟩) (d.on.1 - 1) c2), .slice p3 d.tapes.1 c3, .int .i64 d.writes, .int .i64 d.stop, .bool d.down]) (old := [.int .i64 0, .int .i64 0, .int .i64 0, .int .i64 0, .int .i64 0, .int .i64 0, .int .i64 0, .int .i64 0, .int .i64 0, .int .i64 0, .slice none 0 0, .slice none 0 0, .slice none 0 0, .int .i64 0, .int .i64 0, .bool false]) rfl (T7.b2) size_WR rfl rfl ((own_resOf 0 (by decide) O7).one) ?_; intro w9 X9 C9 z9))
  refine ret_box Tryz.results19 rfl X9 Tryz.underlying36 size_WR rfl rfl ?_
  exact post_world (by decide) T7.bel C9 O7 (by omega) (by omega) (.inr ⟨HX.out, .inr ⟨hin.out, .inr ⟨i, HI.out.1, HI.out.2, rfl⟩⟩⟩)
end Go.Proofs.YtbmfndjglndnlaaGreat

namespace Go.Proofs.YtbmfndjglndnlaaGreat
open Go.ChangeShapes Go.WideShapes Go.ChangeAt Go.RowKit F256
set_option linter.unusedVariables false
set_option linter.unusedSimpArgs false
theorem fifteen {w : World} {b : Nat} {t : TypeId} {a0 a1 a2 a3 a4 a5 a6 a7 a8 a9 a10 a11 a12 a13 a14 : Value} (h : Box w b #[a0, a1, a2, a3, a4, a5, a6, a7, a8, a9, a10, a11, a12, a13, a14] t) :
    w.cell? ⟨b, 0, none⟩ = some a0 ∧ w.cell? ⟨b, 1, none⟩ = some a1 ∧ w.cell? ⟨b, 2, none⟩ = some a2 ∧ w.cell? ⟨b, 3, none⟩ = some a3 ∧ w.cell? ⟨b, 4, none⟩ = some a4 ∧ w.cell? ⟨b, 5, none⟩ = some a5 ∧ w.cell? ⟨b, 6, none⟩ = some a6 ∧ w.cell? ⟨b, 7, none⟩ = some a7 ∧ w.cell? ⟨b, 8, none⟩ = some a8 ∧ w.cell? ⟨b, 9, none⟩ = some a9 ∧ w.cell? ⟨b, 10, none⟩ = some a10 ∧ w.cell? ⟨b, 11, none⟩ = some a11 ∧ w.cell? ⟨b, 12, none⟩ = some a12 ∧ w.cell? ⟨b, 13, none⟩ = some a13 ∧ w.cell? ⟨b, 14, none⟩ = some a14 :=
  ⟨h.cell 0, h.cell 1, h.cell 2, h.cell 3, h.cell 4, h.cell 5, h.cell 6, h.cell 7, h.cell 8, h.cell 9, h.cell 10, h.cell 11, h.cell 12, h.cell 13, h.cell 14⟩
theorem ask_ex (d : WorldD) : ∃ x, AskAns d x := by
  obtain ⟨x, hx⟩ := world_ex d
  by_cases h : x = 0
  · subst h
    cases hd : d.down with
    | true => exact ⟨9, .inr ⟨hx, .inl ⟨hd, rfl⟩⟩⟩
    | false => exact ⟨0, .inr ⟨hx, .inr ⟨hd, rfl⟩⟩⟩
  · exact ⟨x, .inl ⟨h, hx⟩⟩
theorem off_ex (d : WorldD) (g : Int) : ∃ q, OffAns d g q := by
  obtain ⟨x, hx⟩ := ask_ex d
  by_cases h : x = 0
  · subst h
    by_cases h1 : InP g 0 (d.shape 0 + d.shape 1 - 1)
    · by_cases h2 : HasP d.on.1 d.on.2 g
      · obtain ⟨i, h3, h4⟩ := h2
        exact ⟨_, .inr ⟨hx, .inr ⟨h1, .inr ⟨i, h3, h4, rfl⟩⟩⟩⟩
      · exact ⟨_, .inr ⟨hx, .inr ⟨h1, .inl ⟨h2, rfl⟩⟩⟩⟩
    · exact ⟨_, .inr ⟨hx, .inl ⟨h1, rfl⟩⟩⟩
  · exact ⟨_, .inl ⟨x, h, hx, rfl⟩⟩
theorem off_cv {d : WorldD} {g : Int} {q : WorldResultD} (hq : OffAns d g q) (hsz : szWorldD d ≤ 1048576) : cvWorldResultD q ≤ 90000000 := by
  have h1 := cvWorld_le d
  rcases hq with ⟨x, _, _, rfl⟩ | ⟨_, ⟨_, rfl⟩ | ⟨_, ⟨_, rfl⟩ | ⟨i, _, _, rfl⟩⟩⟩
  · exact Nat.zero_le _
  · exact Nat.zero_le _
  · exact Nat.zero_le _
  · show cvWorldD (offW d i) ≤ _
    unfold cvWorldD lenD at h1 ⊢
    show (cSl (cSl cDriveD)) d.groups + (d.on.1 - 1) + (cSl cTapeD) d.tapes ≤ _
    omega
theorem off_det {d : WorldD} {g : Int} {q : WorldResultD} {w : World} {f : Nat} {args : Array Value} (hq : OffAns d g q) (h : Calls Tryz.prog f args w (ResPost (OffAns d g) w)) : Calls Tryz.prog f args w fun e w' => ∃ cs, e = .returned (.agg cs.toArray) ∧ OwnT layWorldResult w' w.heap.size w'.heap.size q cs ∧ Below w.heap.size w w' :=
  h.mono fun e w' ⟨d', cs, h1, h2, h3, h4⟩ => ⟨cs, h1, by rw [hq.one h2]; exact h3, h4⟩
set_option maxHeartbeats 16000000 in
set_option maxRecDepth 20000 in
theorem fnExactSwitchOff_walk (d : WorldD) (cs : List Value) (i0 : Int) (w : World) (rd0 : layWorld.rd w w.heap.size d cs) (hi0 : -9223372036854775808 ≤ i0 ∧ i0 ≤ 9223372036854775807) :
    Calls Tryz.prog 4 #[.agg cs.toArray, .int .i64 i0] w fun e w' => e = .returned (.bool true) ∧ Below w.heap.size w w' := by
  obtain ⟨v0, v1, v2, v3, v4, v5, v6, v7, v8, vp0, vl0, vq0, vp1, vl1, vq1, vp2, vl2, vq2, v9, v10, vb, rfl⟩ := world15 rd0
  have HR : Hid (layWorld.rd w w.heap.size d [.int .i64 v0, .int .i64 v1, .int .i64 v2, .int .i64 v3, .int .i64 v4, .int .i64 v5, .int .i64 v6, .int .i64 v7, .int .i64 v8, .slice vp0 vl0 vq0, .slice vp1 vl1 vq1, .slice vp2 vl2 vq2, .int .i64 v9, .int .i64 v10, .bool vb]) := rd0
  have HHi0 : Hid (-9223372036854775808 ≤ i0 ∧ i0 ≤ 9223372036854775807) := hi0
  clear rd0 hi0
  have T0 := one_new w #[.int .i64 v0, .int .i64 v1, .int .i64 v2, .int .i64 v3, .int .i64 v4, .int .i64 v5, .int .i64 v6, .int .i64 v7, .int .i64 v8, .slice vp0 vl0 vq0, .slice vp1 vl1 vq1, .slice vp2 vl2 vq2, .int .i64 v9, .int .i64 v10, .bool vb] 28
  go_enter Tryz.func4, Tryz.ntmps4
  go_wp2_with (refine wp_loadBox 28 (.tmp 2) rfl rfl (w.heap.size) rfl (cs := [.int .i64 v0, .int .i64 v1, .int .i64 v2, .int .i64 v3, .int .i64 v4, .int .i64 v5, .int .i64 v6, .int .i64 v7, .int .i64 v8, .slice vp0 vl0 vq0, .slice vp1 vl1 vq1, .slice vp2 vl2 vq2, .int .i64 v9, .int .i64 v10, .bool vb]) T0.b1 Tryz.underlying28 size_LW rfl ?_)
  refine (szWorld_is _ d w.heap.size 1048576 _ (layWorld.rd_below HR.out T0.bel (Nat.le_refl _)) T0.bel.size (by omega)).mono ?_
  rintro e w1 ⟨x, rfl, hx, b1⟩
  have T1 := T0.call b1
  have HT1 : Hid (One w w1 #[.int .i64 v0, .int .i64 v1, .int .i64 v2, .int .i64 v3, .int .i64 v4, .int .i64 v5, .int .i64 v6, .int .i64 v7, .int .i64 v8, .slice vp0 vl0 vq0, .slice vp1 vl1 vq1, .slice vp2 vl2 vq2, .int .i64 v9, .int .i64 v10, .bool vb] 28) := T1
  clear b1 T0
  rcases hx with rfl | ⟨hsz, hx⟩
  · clear T1
    go_wp2
    go_ret
    exact ⟨rfl, HT1.out.bel⟩
  have hx0 : ¬ x < 0 := by omega
  clear hx
  obtain ⟨q, hq⟩ := off_ex d i0
  obtain ⟨N, hN⟩ : ∃ N, N = 1 + cvWorldResultD q := ⟨_, rfl⟩
  have hj : 1 + cvWorldResultD q ≤ 100000000 := by have := off_cv hq hsz; omega
  obtain ⟨M, hM⟩ : ∃ M, M = 1 + cvWorldD d := ⟨_, rfl⟩
  have hk : 1 + cvWorldD d ≤ 100000000 := by have := cvWorld_le d; omega
  have CT : ∀ w', Below w1.heap.size w1 w' → Calls Tryz.prog 11 #[.agg #[.int .i64 v0, .int .i64 v1, .int .i64 v2, .int .i64 v3, .int .i64 v4, .int .i64 v5, .int .i64 v6, .int .i64 v7, .int .i64 v8, .slice vp0 vl0 vq0, .slice vp1 vl1 vq1, .slice vp2 vl2 vq2, .int .i64 v9, .int .i64 v10, .bool vb]] w' fun e w'' => ∃ cs', e = .returned (.agg cs'.toArray) ∧ OwnT layWorld w'' w'.heap.size w''.heap.size d cs' ∧ Below w'.heap.size w' w'' := fun w' hb =>
    toWorld_is _ d w.heap.size w' (layWorld.rd_below (layWorld.rd_below HR.out HT1.out.bel (Nat.le_refl _)) hb HT1.out.bel.size) (Nat.le_trans HT1.out.bel.size hb.size) hsz
  have CS := fun (cs' : List Value) (hi : Nat) (w' : World) (h1 : layWorld.rd w' hi d cs') (h2 : hi ≤ w'.heap.size) => off_det hq (specOff_any d i0 cs' hi w' h1 h2 hsz HHi0.out)
  have CI := fun (cs' : List Value) (hi : Nat) (w' : World) (h1 : layWorld.rd w' hi d cs') (h2 : hi ≤ w'.heap.size) => off_det hq (implOff_any d i0 cs' hi w' h1 h2 hsz HHi0.out)
  have CE := fun c1 c2 h1 h2 w' => eqWorldResult_is c1 c2 q h1 h2 w'
  have CW := fun c1 c2 h1 h2 w' => eqWorld_is c1 c2 d h1 h2 w'
  have CM := fun {w' : World} {lo hi : Nat} {cs : List Value} (h : OwnT layWorldResult w' lo hi q cs) => mark_T markWorldResult_is h 1 hj
  have CK := fun {w' : World} {lo hi : Nat} {cs : List Value} (h : OwnT layWorld w' lo hi d cs) => mark_T markWorld_is h 1 hk
  have CH := fun (cs : List Value) (hi : Nat) (w' : World) (h : layWorldResult.rd w' hi (mkvWorldResultD 1 q) cs) (hh : hi ≤ w'.heap.size) => heldWorldResult_is cs q hi 1 w' h hh hj
  rw [← hN] at CM CH
  rw [← hM] at CK
  clear hN hM hj hk hq hsz
  go_wp2_with (refine wp_loadBox 28 (.tmp 2) rfl rfl (w.heap.size) rfl (cs := [.int .i64 v0, .int .i64 v1, .int .i64 v2, .int .i64 v3, .int .i64 v4, .int .i64 v5, .int .i64 v6, .int .i64 v7, .int .i64 v8, .slice vp0 vl0 vq0, .slice vp1 vl1 vq1, .slice vp2 vl2 vq2, .int .i64 v9, .int .i64 v10, .bool vb]) T1.b1 Tryz.underlying28 size_LW rfl ?_)
  refine (CT _ (Below.refl _ _)).mono ?_
  rintro e w2 ⟨c2, rfl, o2, b2⟩
  have z1 : w.heap.size < w1.heap.size := T1.b1.lt
  clear T1
  go_wp2_with fail
  refine (CS _ _ _ o2.rd (Nat.le_refl _)).mono ?_
  rintro e w3 ⟨cS, rfl, oS, b3⟩
  obtain ⟨sc, s0, s1, s2, s3, s4, s5, s6, s7, s8, sp0, sl0, sq0, sp1, sl1, sq1, sp2, sl2, sq2, s9, s10, sb, rfl⟩ := wres16 oS.rd
  have z2 : w1.heap.size ≤ w2.heap.size := b2.size
  have z3 : w2.heap.size ≤ w3.heap.size := b3.size
  have B3 : Below w1.heap.size w1 w3 := b2.trans (b3.mono b2.size)
  clear o2 b2 b3
  go_upto_region 6 with (refine wp_allocStore 36 6 (.tmp 21) [.int .i64 sc, .int .i64 s0, .int .i64 s1, .int .i64 s2, .int .i64 s3, .int .i64 s4, .int .i64 s5, .int .i64 s6, .int .i64 s7, .int .i64 s8, .slice sp0 sl0 sq0, .slice sp1 sl1 sq1, .slice sp2 sl2 sq2, .int .i64 s9, .int .i64 s10, .bool sb] _ 16 rfl rfl rfl rfl rfl rfl rfl rfl info_WR rfl rfl oS.one ?_)
  have bA : Below w3.heap.size w3 (w3.alloc (.cells #[.int .i64 sc, .int .i64 s0, .int .i64 s1, .int .i64 s2, .int .i64 s3, .int .i64 s4, .int .i64 s5, .int .i64 s6, .int .i64 s7, .int .i64 s8, .slice sp0 sl0 sq0, .slice sp1 sl1 sq1, .slice sp2 sl2 sq2, .int .i64 s9, .int .i64 s10, .bool sb] 36)) := (Below.refl _ _).alloc (Nat.le_refl _) _
  have S4 : Box (w3.alloc (.cells #[.int .i64 sc, .int .i64 s0, .int .i64 s1, .int .i64 s2, .int .i64 s3, .int .i64 s4, .int .i64 s5, .int .i64 s6, .int .i64 s7, .int .i64 s8, .slice sp0 sl0 sq0, .slice sp1 sl1 sq1, .slice sp2 sl2 sq2, .int .i64 s9, .int .i64 s10, .bool sb] 36)) w3.heap.size #[.int .i64 sc, .int .i64 s0, .int .i64 s1, .int .i64 s2, .int .i64 s3, .int .i64 s4, .int .i64 s5, .int .i64 s6, .int .i64 s7, .int .i64 s8, .slice sp0 sl0 sq0, .slice sp1 sl1 sq1, .slice sp2 sl2 sq2, .int .i64 s9, .int .i64 s10, .bool sb] 36 := box_new _ _ _
  obtain ⟨W4, hW4⟩ : ∃ x, x = w3.alloc (.cells #[.int .i64 sc, .int .i64 s0, .int .i64 s1, .int .i64 s2, .int .i64 s3, .int .i64 s4, .int .i64 s5, .int .i64 s6, .int .i64 s7, .int .i64 s8, .slice sp0 sl0 sq0, .slice sp1 sl1 sq1, .slice sp2 sl2 sq2, .int .i64 s9, .int .i64 s10, .bool sb] 36) := ⟨_, rfl⟩
  rw [← hW4] at bA S4 ⊢
  have B4 := B3.trans (bA.mono (by omega))
  have P4 := HT1.out.call B4
  have OS4 := oS.call bA
  have z4 : w3.heap.size < W4.heap.size := S4.lt
  clear bA hW4 oS B3
  go_wp2_with (refine wp_loadBox 28 (.tmp 2) rfl rfl (w.heap.size) rfl (cs := [.int .i64 v0, .int .i64 v1, .int .i64 v2, .int .i64 v3, .int .i64 v4, .int .i64 v5, .int .i64 v6, .int .i64 v7, .int .i64 v8, .slice vp0 vl0 vq0, .slice vp1 vl1 vq1, .slice vp2 vl2 vq2, .int .i64 v9, .int .i64 v10, .bool vb]) P4.b1 Tryz.underlying28 size_LW rfl ?_)
  refine (CT _ B4).mono ?_
  rintro e w5 ⟨cX, rfl, oX, b5⟩
  obtain ⟨x0, x1, x2, x3, x4, x5, x6, x7, x8, xp0, xl0, xq0, xp1, xl1, xq1, xp2, xl2, xq2, x9, x10, xb, rfl⟩ := world15O oX
  have z5 : W4.heap.size ≤ w5.heap.size := b5.size
  have B5 := B4.trans (b5.mono (by omega))
  have S5 := S4.call b5
  have OS5 := OS4.call b5
  clear P4 b5 B4 S4 OS4
  go_upto_region 7 with (refine wp_allocStore 34 7 (.tmp 23) [.int .i64 x0, .int .i64 x1, .int .i64 x2, .int .i64 x3, .int .i64 x4, .int .i64 x5, .int .i64 x6, .int .i64 x7, .int .i64 x8, .slice xp0 xl0 xq0, .slice xp1 xl1 xq1, .slice xp2 xl2 xq2, .int .i64 x9, .int .i64 x10, .bool xb] _ 15 rfl rfl rfl rfl rfl rfl rfl rfl info_W rfl rfl oX.one ?_)
  have bA : Below w5.heap.size w5 (w5.alloc (.cells #[.int .i64 x0, .int .i64 x1, .int .i64 x2, .int .i64 x3, .int .i64 x4, .int .i64 x5, .int .i64 x6, .int .i64 x7, .int .i64 x8, .slice xp0 xl0 xq0, .slice xp1 xl1 xq1, .slice xp2 xl2 xq2, .int .i64 x9, .int .i64 x10, .bool xb] 34)) := (Below.refl _ _).alloc (Nat.le_refl _) _
  have X6 : Box (w5.alloc (.cells #[.int .i64 x0, .int .i64 x1, .int .i64 x2, .int .i64 x3, .int .i64 x4, .int .i64 x5, .int .i64 x6, .int .i64 x7, .int .i64 x8, .slice xp0 xl0 xq0, .slice xp1 xl1 xq1, .slice xp2 xl2 xq2, .int .i64 x9, .int .i64 x10, .bool xb] 34)) w5.heap.size #[.int .i64 x0, .int .i64 x1, .int .i64 x2, .int .i64 x3, .int .i64 x4, .int .i64 x5, .int .i64 x6, .int .i64 x7, .int .i64 x8, .slice xp0 xl0 xq0, .slice xp1 xl1 xq1, .slice xp2 xl2 xq2, .int .i64 x9, .int .i64 x10, .bool xb] 34 := box_new _ _ _
  obtain ⟨W6, hW6⟩ : ∃ x, x = w5.alloc (.cells #[.int .i64 x0, .int .i64 x1, .int .i64 x2, .int .i64 x3, .int .i64 x4, .int .i64 x5, .int .i64 x6, .int .i64 x7, .int .i64 x8, .slice xp0 xl0 xq0, .slice xp1 xl1 xq1, .slice xp2 xl2 xq2, .int .i64 x9, .int .i64 x10, .bool xb] 34) := ⟨_, rfl⟩
  rw [← hW6] at bA X6 ⊢
  have B6 := B5.trans (bA.mono (by omega))
  have S6 := S5.call bA
  have OS6 := OS5.call bA
  have OX6 := oX.call bA
  have z6 : w5.heap.size < W6.heap.size := X6.lt
  clear bA hW6 oX B5 S5 OS5
  go_wp2_with (refine wp_loadBox 34 (.tmp 7) rfl rfl (w5.heap.size) rfl (cs := [.int .i64 x0, .int .i64 x1, .int .i64 x2, .int .i64 x3, .int .i64 x4, .int .i64 x5, .int .i64 x6, .int .i64 x7, .int .i64 x8, .slice xp0 xl0 xq0, .slice xp1 xl1 xq1, .slice xp2 xl2 xq2, .int .i64 x9, .int .i64 x10, .bool xb]) X6 Tryz.underlying34 size_W rfl ?_)
  refine (CI _ _ _ OX6.rd (by omega)).mono ?_
  rintro e w7 ⟨cG, rfl, oG, b7⟩
  obtain ⟨gc, g0, g1, g2, g3, g4, g5, g6, g7, g8, gp0, gl0, gq0, gp1, gl1, gq1, gp2, gl2, gq2, g9, g10, gb, rfl⟩ := wres16 oG.rd
  have z7 : W6.heap.size ≤ w7.heap.size := b7.size
  have B7 := B6.trans (b7.mono (by omega))
  have S7 := S6.call b7
  have OS7 := OS6.call b7
  have X7 := X6.call b7
  have OX7 := OX6.call b7
  clear b7 B6 S6 OS6 X6 OX6
  go_upto_region 8 with (refine wp_allocStore 36 8 (.tmp 26) [.int .i64 gc, .int .i64 g0, .int .i64 g1, .int .i64 g2, .int .i64 g3, .int .i64 g4, .int .i64 g5, .int .i64 g6, .int .i64 g7, .int .i64 g8, .slice gp0 gl0 gq0, .slice gp1 gl1 gq1, .slice gp2 gl2 gq2, .int .i64 g9, .int .i64 g10, .bool gb] _ 16 rfl rfl rfl rfl rfl rfl rfl rfl info_WR rfl rfl oG.one ?_)
  have bA : Below w7.heap.size w7 (w7.alloc (.cells #[.int .i64 gc, .int .i64 g0, .int .i64 g1, .int .i64 g2, .int .i64 g3, .int .i64 g4, .int .i64 g5, .int .i64 g6, .int .i64 g7, .int .i64 g8, .slice gp0 gl0 gq0, .slice gp1 gl1 gq1, .slice gp2 gl2 gq2, .int .i64 g9, .int .i64 g10, .bool gb] 36)) := (Below.refl _ _).alloc (Nat.le_refl _) _
  have G8 : Box (w7.alloc (.cells #[.int .i64 gc, .int .i64 g0, .int .i64 g1, .int .i64 g2, .int .i64 g3, .int .i64 g4, .int .i64 g5, .int .i64 g6, .int .i64 g7, .int .i64 g8, .slice gp0 gl0 gq0, .slice gp1 gl1 gq1, .slice gp2 gl2 gq2, .int .i64 g9, .int .i64 g10, .bool gb] 36)) w7.heap.size #[.int .i64 gc, .int .i64 g0, .int .i64 g1, .int .i64 g2, .int .i64 g3, .int .i64 g4, .int .i64 g5, .int .i64 g6, .int .i64 g7, .int .i64 g8, .slice gp0 gl0 gq0, .slice gp1 gl1 gq1, .slice gp2 gl2 gq2, .int .i64 g9, .int .i64 g10, .bool gb] 36 := box_new _ _ _
  obtain ⟨W8, hW8⟩ : ∃ x, x = w7.alloc (.cells #[.int .i64 gc, .int .i64 g0, .int .i64 g1, .int .i64 g2, .int .i64 g3, .int .i64 g4, .int .i64 g5, .int .i64 g6, .int .i64 g7, .int .i64 g8, .slice gp0 gl0 gq0, .slice gp1 gl1 gq1, .slice gp2 gl2 gq2, .int .i64 g9, .int .i64 g10, .bool gb] 36) := ⟨_, rfl⟩
  rw [← hW8] at bA G8 ⊢
  have B8 := B7.trans (bA.mono (by omega))
  have S8 := S7.call bA
  have OS8 := OS7.call bA
  have X8 := X7.call bA
  have OX8 := OX7.call bA
  have OG8 := oG.call bA
  have z8 : w7.heap.size < W8.heap.size := G8.lt
  clear bA hW8 oG B7 S7 OS7 X7 OX7
  go_wp2_with (first | (refine wp_loadBox 36 (.tmp 8) rfl rfl (w7.heap.size) rfl (cs := [.int .i64 gc, .int .i64 g0, .int .i64 g1, .int .i64 g2, .int .i64 g3, .int .i64 g4, .int .i64 g5, .int .i64 g6, .int .i64 g7, .int .i64 g8, .slice gp0 gl0 gq0, .slice gp1 gl1 gq1, .slice gp2 gl2 gq2, .int .i64 g9, .int .i64 g10, .bool gb]) G8 Tryz.underlying36 size_WR rfl ?_) | (refine wp_loadBox 36 (.tmp 6) rfl rfl (w3.heap.size) rfl (cs := [.int .i64 sc, .int .i64 s0, .int .i64 s1, .int .i64 s2, .int .i64 s3, .int .i64 s4, .int .i64 s5, .int .i64 s6, .int .i64 s7, .int .i64 s8, .slice sp0 sl0 sq0, .slice sp1 sl1 sq1, .slice sp2 sl2 sq2, .int .i64 s9, .int .i64 s10, .bool sb]) S8 Tryz.underlying36 size_WR rfl ?_))
  refine (CE _ _ _ _ _ OG8.rd OS8.rd (by omega) (by omega)).mono ?_
  rintro e w9 ⟨rfl, b9⟩
  have z9 : W8.heap.size ≤ w9.heap.size := b9.size
  have B9 := B8.trans (b9.mono (by omega))
  have S9 : Hid (Box w9 w3.heap.size #[.int .i64 sc, .int .i64 s0, .int .i64 s1, .int .i64 s2, .int .i64 s3, .int .i64 s4, .int .i64 s5, .int .i64 s6, .int .i64 s7, .int .i64 s8, .slice sp0 sl0 sq0, .slice sp1 sl1 sq1, .slice sp2 sl2 sq2, .int .i64 s9, .int .i64 s10, .bool sb] 36) := S8.call b9
  have OS9 : Hid (OwnT layWorldResult w9 w2.heap.size w3.heap.size q [.int .i64 sc, .int .i64 s0, .int .i64 s1, .int .i64 s2, .int .i64 s3, .int .i64 s4, .int .i64 s5, .int .i64 s6, .int .i64 s7, .int .i64 s8, .slice sp0 sl0 sq0, .slice sp1 sl1 sq1, .slice sp2 sl2 sq2, .int .i64 s9, .int .i64 s10, .bool sb]) := OS8.call b9
  have X9 : Hid (Box w9 w5.heap.size #[.int .i64 x0, .int .i64 x1, .int .i64 x2, .int .i64 x3, .int .i64 x4, .int .i64 x5, .int .i64 x6, .int .i64 x7, .int .i64 x8, .slice xp0 xl0 xq0, .slice xp1 xl1 xq1, .slice xp2 xl2 xq2, .int .i64 x9, .int .i64 x10, .bool xb] 34) := X8.call b9
  have OX9 : Hid (OwnT layWorld w9 W4.heap.size w5.heap.size d [.int .i64 x0, .int .i64 x1, .int .i64 x2, .int .i64 x3, .int .i64 x4, .int .i64 x5, .int .i64 x6, .int .i64 x7, .int .i64 x8, .slice xp0 xl0 xq0, .slice xp1 xl1 xq1, .slice xp2 xl2 xq2, .int .i64 x9, .int .i64 x10, .bool xb]) := OX8.call b9
  have G9 : Hid (Box w9 w7.heap.size #[.int .i64 gc, .int .i64 g0, .int .i64 g1, .int .i64 g2, .int .i64 g3, .int .i64 g4, .int .i64 g5, .int .i64 g6, .int .i64 g7, .int .i64 g8, .slice gp0 gl0 gq0, .slice gp1 gl1 gq1, .slice gp2 gl2 gq2, .int .i64 g9, .int .i64 g10, .bool gb] 36) := G8.call b9
  have OG9 : Hid (OwnT layWorldResult w9 W6.heap.size w7.heap.size q [.int .i64 gc, .int .i64 g0, .int .i64 g1, .int .i64 g2, .int .i64 g3, .int .i64 g4, .int .i64 g5, .int .i64 g6, .int .i64 g7, .int .i64 g8, .slice gp0 gl0 gq0, .slice gp1 gl1 gq1, .slice gp2 gl2 gq2, .int .i64 g9, .int .i64 g10, .bool gb]) := OG8.call b9
  have HB9 : Hid (Below w1.heap.size w1 w9) := B9
  have P9 : Hid (One w w9 #[.int .i64 v0, .int .i64 v1, .int .i64 v2, .int .i64 v3, .int .i64 v4, .int .i64 v5, .int .i64 v6, .int .i64 v7, .int .i64 v8, .slice vp0 vl0 vq0, .slice vp1 vl1 vq1, .slice vp2 vl2 vq2, .int .i64 v9, .int .i64 v10, .bool vb] 28) := HT1.out.call B9
  have u_0 : w9.cell? ⟨w5.heap.size, 0, none⟩ = some (.int .i64 x0) := X9.out.cell 0
  have u_1 : w9.cell? ⟨w5.heap.size, 1, none⟩ = some (.int .i64 x1) := X9.out.cell 1
  have u_2 : w9.cell? ⟨w5.heap.size, 2, none⟩ = some (.int .i64 x2) := X9.out.cell 2
  have u_3 : w9.cell? ⟨w5.heap.size, 3, none⟩ = some (.int .i64 x3) := X9.out.cell 3
  have u_4 : w9.cell? ⟨w5.heap.size, 4, none⟩ = some (.int .i64 x4) := X9.out.cell 4
  have u_5 : w9.cell? ⟨w5.heap.size, 5, none⟩ = some (.int .i64 x5) := X9.out.cell 5
  have u_6 : w9.cell? ⟨w5.heap.size, 6, none⟩ = some (.int .i64 x6) := X9.out.cell 6
  have u_7 : w9.cell? ⟨w5.heap.size, 7, none⟩ = some (.int .i64 x7) := X9.out.cell 7
  have u_8 : w9.cell? ⟨w5.heap.size, 8, none⟩ = some (.int .i64 x8) := X9.out.cell 8
  have u_9 : w9.cell? ⟨w5.heap.size, 9, none⟩ = some (.slice xp0 xl0 xq0) := X9.out.cell 9
  have u_10 : w9.cell? ⟨w5.heap.size, 10, none⟩ = some (.slice xp1 xl1 xq1) := X9.out.cell 10
  have u_11 : w9.cell? ⟨w5.heap.size, 11, none⟩ = some (.slice xp2 xl2 xq2) := X9.out.cell 11
  have u_12 : w9.cell? ⟨w5.heap.size, 12, none⟩ = some (.int .i64 x9) := X9.out.cell 12
  have u_13 : w9.cell? ⟨w5.heap.size, 13, none⟩ = some (.int .i64 x10) := X9.out.cell 13
  have u_14 : w9.cell? ⟨w5.heap.size, 14, none⟩ = some (.bool xb) := X9.out.cell 14
  have y_0 : w9.cell? ⟨w.heap.size, 0, none⟩ = some (.int .i64 v0) := P9.out.b1.cell 0
  have y_1 : w9.cell? ⟨w.heap.size, 1, none⟩ = some (.int .i64 v1) := P9.out.b1.cell 1
  have y_2 : w9.cell? ⟨w.heap.size, 2, none⟩ = some (.int .i64 v2) := P9.out.b1.cell 2
  have y_3 : w9.cell? ⟨w.heap.size, 3, none⟩ = some (.int .i64 v3) := P9.out.b1.cell 3
  have y_4 : w9.cell? ⟨w.heap.size, 4, none⟩ = some (.int .i64 v4) := P9.out.b1.cell 4
  have y_5 : w9.cell? ⟨w.heap.size, 5, none⟩ = some (.int .i64 v5) := P9.out.b1.cell 5
  have y_6 : w9.cell? ⟨w.heap.size, 6, none⟩ = some (.int .i64 v6) := P9.out.b1.cell 6
  have y_7 : w9.cell? ⟨w.heap.size, 7, none⟩ = some (.int .i64 v7) := P9.out.b1.cell 7
  have y_8 : w9.cell? ⟨w.heap.size, 8, none⟩ = some (.int .i64 v8) := P9.out.b1.cell 8
  have y_9 : w9.cell? ⟨w.heap.size, 9, none⟩ = some (.slice vp0 vl0 vq0) := P9.out.b1.cell 9
  have y_10 : w9.cell? ⟨w.heap.size, 10, none⟩ = some (.slice vp1 vl1 vq1) := P9.out.b1.cell 10
  have y_11 : w9.cell? ⟨w.heap.size, 11, none⟩ = some (.slice vp2 vl2 vq2) := P9.out.b1.cell 11
  have y_12 : w9.cell? ⟨w.heap.size, 12, none⟩ = some (.int .i64 v9) := P9.out.b1.cell 12
  have y_13 : w9.cell? ⟨w.heap.size, 13, none⟩ = some (.int .i64 v10) := P9.out.b1.cell 13
  have y_14 : w9.cell? ⟨w.heap.size, 14, none⟩ = some (.bool vb) := P9.out.b1.cell 14
  clear b9 B8 S8 OS8 X8 OX8 G8 OG8 B9
  go_upto_region 10 with fail
  go_cut [35] (fun v wx => v = .bool false ∧ Below w9.heap.size w9 wx)
  case first =>
    go_region_with (first | (go_at_call 11; refine (CT _ (HB9.out.trans ((below_drewN (Below.refl _ _) 1).mono HB9.out.size))).mono ?_; rintro ee wb ⟨cs', rfl, oR, bb⟩; have bR : Below w9.heap.size w9 wb := (below_drewN (Below.refl _ _) 1).trans bb; obtain ⟨qb0, qb1, qb2, qb3, qb4, qb5, qb6, qb7, qb8, qb9, qb10, qb11, qb12, qb13, qb14⟩ := fifteen (X9.out.call bR)) | (go_at_call 14; refine (CW _ _ _ _ _ (OX9.out.call bR).rd oR.rd (Nat.le_trans (by omega) bR.size) (Nat.le_refl _)).mono ?_; rintro ee wc' ⟨rfl, bc⟩; have bC : Below w9.heap.size w9 wc' := bR.trans (bc.mono bR.size)))
    all_goals
      go_wp2
      go_meet
      exact ⟨rfl, bC⟩
  case rest =>
    obtain ⟨rfl, b10⟩ := hcut
    obtain ⟨w10, rfl⟩ : ∃ x, x = wc := ⟨_, rfl⟩
    clear u_0 u_1 u_2 u_3 u_4 u_5 u_6 u_7 u_8 u_9 u_10 u_11 u_12 u_13 u_14 y_0 y_1 y_2 y_3 y_4 y_5 y_6 y_7 y_8 y_9 y_10 y_11 y_12 y_13 y_14
    have z10 : w9.heap.size ≤ w10.heap.size := b10.size
    have B10 := HB9.out.trans (b10.mono (by omega))
    have S10 := S9.out.call b10
    have OS10 := OS9.out.call b10
    have X10 := X9.out.call b10
    have OX10 := OX9.out.call b10
    have G10 := G9.out.call b10
    have OG10 := OG9.out.call b10
    clear b10 HB9 S9 OS9 X9 OX9 G9 OG9 P9
    have hm0 : ¬ (M : Int) < 0 := by omega
    go_wp2_with (refine wp_loadBox 34 (.tmp 7) rfl rfl (w5.heap.size) rfl (cs := [.int .i64 x0, .int .i64 x1, .int .i64 x2, .int .i64 x3, .int .i64 x4, .int .i64 x5, .int .i64 x6, .int .i64 x7, .int .i64 x8, .slice xp0 xl0 xq0, .slice xp1 xl1 xq1, .slice xp2 xl2 xq2, .int .i64 x9, .int .i64 x10, .bool xb]) X10 Tryz.underlying34 size_W rfl ?_)
    refine (CK OX10).mono ?_
    rintro e w11 ⟨rfl, OX11, c11⟩
    have z11 : w10.heap.size ≤ w11.heap.size := c11.size
    have B11 := B10.trans (c11.bel (B := w1.heap.size) (by omega) (by omega))
    have S11 := S10.chg c11 (.inl (by omega))
    have OS11 := OS10.chg c11 (.inl (by omega))
    have G11 := G10.chg c11 (.inr (by omega))
    have OG11 := OG10.chg c11 (.inr (by omega))
    have u_0 : w11.cell? ⟨w7.heap.size, 0, none⟩ = some (.int .i64 gc) := G11.cell 0
    have u_1 : w11.cell? ⟨w7.heap.size, 1, none⟩ = some (.int .i64 g0) := G11.cell 1
    have u_2 : w11.cell? ⟨w7.heap.size, 2, none⟩ = some (.int .i64 g1) := G11.cell 2
    have u_3 : w11.cell? ⟨w7.heap.size, 3, none⟩ = some (.int .i64 g2) := G11.cell 3
    have u_4 : w11.cell? ⟨w7.heap.size, 4, none⟩ = some (.int .i64 g3) := G11.cell 4
    have u_5 : w11.cell? ⟨w7.heap.size, 5, none⟩ = some (.int .i64 g4) := G11.cell 5
    have u_6 : w11.cell? ⟨w7.heap.size, 6, none⟩ = some (.int .i64 g5) := G11.cell 6
    have u_7 : w11.cell? ⟨w7.heap.size, 7, none⟩ = some (.int .i64 g6) := G11.cell 7
    have u_8 : w11.cell? ⟨w7.heap.size, 8, none⟩ = some (.int .i64 g7) := G11.cell 8
    have u_9 : w11.cell? ⟨w7.heap.size, 9, none⟩ = some (.int .i64 g8) := G11.cell 9
    have u_10 : w11.cell? ⟨w7.heap.size, 10, none⟩ = some (.slice gp0 gl0 gq0) := G11.cell 10
    have u_11 : w11.cell? ⟨w7.heap.size, 11, none⟩ = some (.slice gp1 gl1 gq1) := G11.cell 11
    have u_12 : w11.cell? ⟨w7.heap.size, 12, none⟩ = some (.slice gp2 gl2 gq2) := G11.cell 12
    have u_13 : w11.cell? ⟨w7.heap.size, 13, none⟩ = some (.int .i64 g9) := G11.cell 13
    have u_14 : w11.cell? ⟨w7.heap.size, 14, none⟩ = some (.int .i64 g10) := G11.cell 14
    have u_15 : w11.cell? ⟨w7.heap.size, 15, none⟩ = some (.bool gb) := G11.cell 15
    have y_0 : w11.cell? ⟨w3.heap.size, 0, none⟩ = some (.int .i64 sc) := S11.cell 0
    have y_1 : w11.cell? ⟨w3.heap.size, 1, none⟩ = some (.int .i64 s0) := S11.cell 1
    have y_2 : w11.cell? ⟨w3.heap.size, 2, none⟩ = some (.int .i64 s1) := S11.cell 2
    have y_3 : w11.cell? ⟨w3.heap.size, 3, none⟩ = some (.int .i64 s2) := S11.cell 3
    have y_4 : w11.cell? ⟨w3.heap.size, 4, none⟩ = some (.int .i64 s3) := S11.cell 4
    have y_5 : w11.cell? ⟨w3.heap.size, 5, none⟩ = some (.int .i64 s4) := S11.cell 5
    have y_6 : w11.cell? ⟨w3.heap.size, 6, none⟩ = some (.int .i64 s5) := S11.cell 6
    have y_7 : w11.cell? ⟨w3.heap.size, 7, none⟩ = some (.int .i64 s6) := S11.cell 7
    have y_8 : w11.cell? ⟨w3.heap.size, 8, none⟩ = some (.int .i64 s7) := S11.cell 8
    have y_9 : w11.cell? ⟨w3.heap.size, 9, none⟩ = some (.int .i64 s8) := S11.cell 9
    have y_10 : w11.cell? ⟨w3.heap.size, 10, none⟩ = some (.slice sp0 sl0 sq0) := S11.cell 10
    have y_11 : w11.cell? ⟨w3.heap.size, 11, none⟩ = some (.slice sp1 sl1 sq1) := S11.cell 11
    have y_12 : w11.cell? ⟨w3.heap.size, 12, none⟩ = some (.slice sp2 sl2 sq2) := S11.cell 12
    have y_13 : w11.cell? ⟨w3.heap.size, 13, none⟩ = some (.int .i64 s9) := S11.cell 13
    have y_14 : w11.cell? ⟨w3.heap.size, 14, none⟩ = some (.int .i64 s10) := S11.cell 14
    have y_15 : w11.cell? ⟨w3.heap.size, 15, none⟩ = some (.bool sb) := S11.cell 15
    clear OX11 c11 B10 S10 OS10 X10 OX10 G10 OG10
    go_wp2_with fail
    refine (CE _ _ _ _ _ OG11.rd OS11.rd (by omega) (by omega)).mono ?_
    rintro e w12 ⟨rfl, b12⟩
    have z12 : w11.heap.size ≤ w12.heap.size := b12.size
    have B12 := B11.trans (b12.mono (by omega))
    have S12 := S11.call b12
    have OS12 := OS11.call b12
    have G12 := G11.call b12
    have OG12 := OG11.call b12
    clear b12 B11 S11 OS11 G11 OG11 u_0 u_1 u_2 u_3 u_4 u_5 u_6 u_7 u_8 u_9 u_10 u_11 u_12 u_13 u_14 u_15 y_0 y_1 y_2 y_3 y_4 y_5 y_6 y_7 y_8 y_9 y_10 y_11 y_12 y_13 y_14 y_15
    go_wp2_with (refine wp_loadBox 36 (.tmp 8) rfl rfl (w7.heap.size) rfl (cs := [.int .i64 gc, .int .i64 g0, .int .i64 g1, .int .i64 g2, .int .i64 g3, .int .i64 g4, .int .i64 g5, .int .i64 g6, .int .i64 g7, .int .i64 g8, .slice gp0 gl0 gq0, .slice gp1 gl1 gq1, .slice gp2 gl2 gq2, .int .i64 g9, .int .i64 g10, .bool gb]) G12 Tryz.underlying36 size_WR rfl ?_)
    refine (CM OG12).mono ?_
    rintro e w13 ⟨rfl, OG13, c13⟩
    have z13 : w12.heap.size ≤ w13.heap.size := c13.size
    have B13 := B12.trans (c13.bel (B := w1.heap.size) (by omega) (by omega))
    have S13 := S12.chg c13 (.inl (by omega))
    have OS13 := OS12.chg c13 (.inl (by omega))
    have G13 := G12.chg c13 (.inr (by omega))
    clear c13 B12 S12 OS12 G12 OG12
    go_wp2_with (refine wp_loadBox 36 (.tmp 8) rfl rfl (w7.heap.size) rfl (cs := [.int .i64 gc, .int .i64 g0, .int .i64 g1, .int .i64 g2, .int .i64 g3, .int .i64 g4, .int .i64 g5, .int .i64 g6, .int .i64 g7, .int .i64 g8, .slice gp0 gl0 gq0, .slice gp1 gl1 gq1, .slice gp2 gl2 gq2, .int .i64 g9, .int .i64 g10, .bool gb]) G13 Tryz.underlying36 size_WR rfl ?_)
    refine (CH _ _ _ OG13.rd (by omega)).mono ?_
    rintro e w14 ⟨rfl, b14⟩
    have z14 : w13.heap.size ≤ w14.heap.size := b14.size
    have B14 := B13.trans (b14.mono (by omega))
    have S14 := S13.call b14
    have OS14 := OS13.call b14
    have G14 := G13.call b14
    have OG14 := OG13.call b14
    have P14 := HT1.out.call B14
    clear b14 B13 S13 OS13 G13 OG13
    have hn0 : ¬ (N : Int) < 0 := by omega
    go_wp2_with (refine wp_loadBox 28 (.tmp 2) rfl rfl (w.heap.size) rfl (cs := [.int .i64 v0, .int .i64 v1, .int .i64 v2, .int .i64 v3, .int .i64 v4, .int .i64 v5, .int .i64 v6, .int .i64 v7, .int .i64 v8, .slice vp0 vl0 vq0, .slice vp1 vl1 vq1, .slice vp2 vl2 vq2, .int .i64 v9, .int .i64 v10, .bool vb]) P14.b1 Tryz.underlying28 size_LW rfl ?_)
    refine (CT _ B14).mono ?_
    rintro e w15 ⟨c15, rfl, o15, b15⟩
    go_wp2_with fail
    refine (CI _ _ _ o15.rd (Nat.le_refl _)).mono ?_
    rintro e w16 ⟨cH, rfl, oH, b16⟩
    obtain ⟨hc, h0, h1, h2, h3, h4, h5, h6, h7, h8, hp0, hl0, hq0, hp1, hl1, hq1, hp2, hl2, hq2, h9, h10, hb, rfl⟩ := wres16 oH.rd
    have z15 : w14.heap.size ≤ w15.heap.size := b15.size
    have z16 : w15.heap.size ≤ w16.heap.size := b16.size
    have B16 := (B14.trans (b15.mono (by omega))).trans (b16.mono (by omega))
    have S16 := (S14.call b15).call b16
    have OS16 := (OS14.call b15).call b16
    have G16 := (G14.call b15).call b16
    have OG16 := (OG14.call b15).call b16
    clear P14 o15 b15 b16 B14 S14 OS14 G14 OG14
    go_upto_region 25 with (refine wp_allocStore 36 12 (.tmp 61) [.int .i64 hc, .int .i64 h0, .int .i64 h1, .int .i64 h2, .int .i64 h3, .int .i64 h4, .int .i64 h5, .int .i64 h6, .int .i64 h7, .int .i64 h8, .slice hp0 hl0 hq0, .slice hp1 hl1 hq1, .slice hp2 hl2 hq2, .int .i64 h9, .int .i64 h10, .bool hb] _ 16 rfl rfl rfl rfl rfl rfl rfl rfl info_WR rfl rfl oH.one ?_)
    have bA : Below w16.heap.size w16 (w16.alloc (.cells #[.int .i64 hc, .int .i64 h0, .int .i64 h1, .int .i64 h2, .int .i64 h3, .int .i64 h4, .int .i64 h5, .int .i64 h6, .int .i64 h7, .int .i64 h8, .slice hp0 hl0 hq0, .slice hp1 hl1 hq1, .slice hp2 hl2 hq2, .int .i64 h9, .int .i64 h10, .bool hb] 36)) := (Below.refl _ _).alloc (Nat.le_refl _) _
    have H17 : Box (w16.alloc (.cells #[.int .i64 hc, .int .i64 h0, .int .i64 h1, .int .i64 h2, .int .i64 h3, .int .i64 h4, .int .i64 h5, .int .i64 h6, .int .i64 h7, .int .i64 h8, .slice hp0 hl0 hq0, .slice hp1 hl1 hq1, .slice hp2 hl2 hq2, .int .i64 h9, .int .i64 h10, .bool hb] 36)) w16.heap.size #[.int .i64 hc, .int .i64 h0, .int .i64 h1, .int .i64 h2, .int .i64 h3, .int .i64 h4, .int .i64 h5, .int .i64 h6, .int .i64 h7, .int .i64 h8, .slice hp0 hl0 hq0, .slice hp1 hl1 hq1, .slice hp2 hl2 hq2, .int .i64 h9, .int .i64 h10, .bool hb] 36 := box_new _ _ _
    obtain ⟨W17, hW17⟩ : ∃ x, x = w16.alloc (.cells #[.int .i64 hc, .int .i64 h0, .int .i64 h1, .int .i64 h2, .int .i64 h3, .int .i64 h4, .int .i64 h5, .int .i64 h6, .int .i64 h7, .int .i64 h8, .slice hp0 hl0 hq0, .slice hp1 hl1 hq1, .slice hp2 hl2 hq2, .int .i64 h9, .int .i64 h10, .bool hb] 36) := ⟨_, rfl⟩
    rw [← hW17] at bA H17 ⊢
    have B17 := B16.trans (bA.mono (by omega))
    have S17 := S16.call bA
    have OS17 := OS16.call bA
    have G17 := G16.call bA
    have OG17 := OG16.call bA
    have OH17 := oH.call bA
    have z17 : w16.heap.size < W17.heap.size := H17.lt
    clear bA hW17 oH B16 S16 OS16 G16 OG16
    go_wp2_with (first | (refine wp_loadBox 36 (.tmp 12) rfl rfl (w16.heap.size) rfl (cs := [.int .i64 hc, .int .i64 h0, .int .i64 h1, .int .i64 h2, .int .i64 h3, .int .i64 h4, .int .i64 h5, .int .i64 h6, .int .i64 h7, .int .i64 h8, .slice hp0 hl0 hq0, .slice hp1 hl1 hq1, .slice hp2 hl2 hq2, .int .i64 h9, .int .i64 h10, .bool hb]) H17 Tryz.underlying36 size_WR rfl ?_) | (refine wp_loadBox 36 (.tmp 6) rfl rfl (w3.heap.size) rfl (cs := [.int .i64 sc, .int .i64 s0, .int .i64 s1, .int .i64 s2, .int .i64 s3, .int .i64 s4, .int .i64 s5, .int .i64 s6, .int .i64 s7, .int .i64 s8, .slice sp0 sl0 sq0, .slice sp1 sl1 sq1, .slice sp2 sl2 sq2, .int .i64 s9, .int .i64 s10, .bool sb]) S17 Tryz.underlying36 size_WR rfl ?_))
    refine (CE _ _ _ _ _ OH17.rd OS17.rd (by omega) (by omega)).mono ?_
    rintro e w18 ⟨rfl, b18⟩
    have z18 : W17.heap.size ≤ w18.heap.size := b18.size
    have B18 := B17.trans (b18.mono (by omega))
    have G18 := G17.call b18
    have OG18 := OG17.call b18
    clear b18 B17 S17 OS17 G17 OG17 OH17 H17
    go_wp2_with (refine wp_loadBox 36 (.tmp 8) rfl rfl (w7.heap.size) rfl (cs := [.int .i64 gc, .int .i64 g0, .int .i64 g1, .int .i64 g2, .int .i64 g3, .int .i64 g4, .int .i64 g5, .int .i64 g6, .int .i64 g7, .int .i64 g8, .slice gp0 gl0 gq0, .slice gp1 gl1 gq1, .slice gp2 gl2 gq2, .int .i64 g9, .int .i64 g10, .bool gb]) G18 Tryz.underlying36 size_WR rfl ?_)
    refine (CH _ _ _ OG18.rd (by omega)).mono ?_
    rintro e w19 ⟨rfl, b19⟩
    have HB : Hid (Below w.heap.size w w19) := (HT1.out.call (B18.trans (b19.mono (by omega)))).bel
    clear b19 B18 G18 OG18
    go_wp2
    go_ret
    exact ⟨rfl, HB.out⟩

set_option maxRecDepth 100000 in
theorem fnExactSwitchOff_lifted (os : Os) (started : os.Started) (H : Type) (enc : TypeId × Value → H) :
    ReturnsInHanded {} Tryz.checked os 4 .any (Rows.fnExactSwitchOffSpec.pre6 enc Tryz.prog Tryz.f4 Rows.fnExactSwitchOffRow.domain false) (Rows.fnExactSwitchOffSpec.post enc Tryz.prog Tryz.f4 false true false false) := by
  refine returnsInHanded_of_change (C := Tryz.checked) frame_own started (by kernel_rfl) Tryz.func4
    (ChangeSpec.witness6 (enc := enc) (C := Tryz.checked) false ⟨#[], #[.agg #[.int .i64 0, .int .i64 0, .int .i64 0, .int .i64 0, .int .i64 0, .int .i64 0, .int .i64 0, .int .i64 0, .int .i64 0, .slice none 0 0, .slice none 0 0, .slice none 0 0, .int .i64 0, .int .i64 0, .bool false], .int .i64 0], []⟩ 8 (by kernel_rfl) (by kernel_rfl) (by kernel_rfl) (by kernel_rfl)) ?_
  intro W base args ds gs before hval0 hW hcnd _
  have hval : ∀ (j : Nat) t v, Tryz.f4.params[j]? = some t → args[j]? = some v → Value.okWide Tryz.prog W .any base t v := hval0
  have hW' := hW
  obtain ⟨p, q, hA0, hV, rfl, hfz, hnd⟩ := hW
  have hA : DataW.TrodAll enc Tryz.prog W 0 (fun _ => true) true Tryz.f4.params.toList args.toList ds p := hA0
  rw [Tryz.params4] at hA hval
  obtain ⟨v0, vs0, d0, ds0, p0, q0, hargs, rfl, rfl, h0, r0⟩ := trodAll_cons hA
  obtain ⟨v1, vs1, d1, ds1, p1, q1, rfl, rfl, rfl, h1, r1⟩ := trodAll_cons r0
  obtain ⟨rfl, rfl, rfl⟩ := trodAll_nil r1
  obtain rfl : args = #[v0, v1] := by cases args; simp_all
  obtain ⟨rfl, rfl⟩ := trodVars_none hV
  have k0 := h0
  have lt0 : ∀ x ∈ p0, x.block < W.heap.size := by obtain ⟨m, hm⟩ := k0; exact DataW.trod_lt m _ _ _ hm
  obtain ⟨cs0, a0, rfl, rd0⟩ := struct_of_trod opensWorld Tryz.underlying28 (hval 0 28 v0 rfl rfl) h0
  obtain ⟨n1, rfl, rfl, rfl, hn1⟩ := open_int Tryz.underlying2 (hval 1 2 v1 rfl rfl) h1
  clear hA0 hval0
  refine (fnExactSwitchOff_walk a0 cs0 n1 W rd0 (bounds_i64 hn1)).mono fun e W' ⟨he, bel⟩ => ?_
  subst he
  exact ⟨_, rfl, _, _, _, [], _, [], hW', trodAll_mk1 (shut_bool Tryz.underlying4 _), (trodAll_cons_mk (Below.trod frame_laid (by kernel_rfl) (of_decide_eq_true (by kernel_rfl)) k0 bel lt0) (trodAll_cons_mk (shut_int Tryz.underlying2 hn1) trodAll_mk0)), rfl, bel.frame _, fun h => by cases h⟩

end Go.Proofs.YtbmfndjglndnlaaGreat
