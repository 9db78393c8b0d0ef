/- LayRec of the program. -/
import Derived.Test.YthdknhjaohhfiaaGreatZPlayreat
import Derived.Test.YthdknhjaohhfiaaGreatZPlayream
import Derived.Deep.DeepCutAuto
import Derived.Test.YthdknhjaohhfiaaGreatZPlayreao
import Derived.Deep.RegionLaw
import Derived.Deep.RegionHeld3
import Derived.Test.YthdknhjaohhfiaaGreatZPlayreaj
namespace Go.Proofs.YthdknhjaohhfiaaGreat
open Go.RowKit F256
set_option linter.unusedVariables false
set_option linter.unusedSimpArgs false
def LyAns (d : WorldD) (r : RecD) (q : WorldResultD) : Prop := (∃ x, x ≠ 0 ∧ AskAns d x ∧ q = ⟨x, zeroW⟩) ∨ (AskAns d 0 ∧ ((∃ x, x ≠ 0 ∧ RecAns d.shape r x ∧ q = ⟨x, zeroW⟩) ∨ (RecAns d.shape r 0 ∧ q = (layF r d).final)))
theorem LyAns.one {d : WorldD} {r : RecD} {p q : WorldResultD} (h : LyAns d r p) (l : LyAns d r q) : p = q := by
  rcases h with ⟨x, h1, h2, rfl⟩ | ⟨h1, h⟩ <;> rcases l with ⟨y, k1, k2, rfl⟩ | ⟨k1, l⟩
  · rw [h2.one k2]
  · exact absurd (h2.one k1) h1
  · exact absurd (k2.one h1) k1
  · rcases h with ⟨x, h3, h4, rfl⟩ | ⟨h3, rfl⟩ <;> rcases l with ⟨y, k3, k4, rfl⟩ | ⟨k3, rfl⟩
    · rw [h4.one k4]
    · exact absurd (h4.one k3) h3
    · exact absurd (k4.one h3) k3
    · rfl
theorem rec_wide {s : Nat → Int} {r : RecD} {x : Int} (h : RecAns s r x) : -9223372036854775808 ≤ x ∧ x ≤ 9223372036854775807 := by have := rec_small h; omega
theorem rec_name {r : RecD} (h : szRecD r ≤ 1048576) : r.name.size ≤ 1048576 := by unfold szRecD at h; omega
theorem fit3_ok {d : WorldD} (h : OkWorld d) (hd : d.down = false) : Fit3 1000 d := by
  obtain ⟨hc, _⟩ := h.count
  unfold InP at hc
  refine ⟨h.form.2.2, fun T hT => ?_, hd, by omega, by omega⟩
  have := h.few T (by rw [h.form.2.2]; exact hT)
  omega
theorem layF_code {r : RecD} {d : WorldD} : -9223372036854775808 ≤ (layF r d).code ∧ (layF r d).code ≤ 9223372036854775807 := by
  unfold layF
  split
  · exact ⟨show (-9223372036854775808 : Int) ≤ 2 by decide, show (2 : Int) ≤ 9223372036854775807 by decide⟩
  · cases e : runO (appendF r) 2 0 d with
    | cut x => exact ⟨show (-9223372036854775808 : Int) ≤ 0 by decide, show (0 : Int) ≤ 9223372036854775807 by decide⟩
    | done c x =>
      rw [run_append (d := d) _ _ _ _ _ e]
      exact ⟨show (-9223372036854775808 : Int) ≤ 0 by decide, show (0 : Int) ≤ 9223372036854775807 by decide⟩
set_option maxHeartbeats 32000000 in
set_option maxRecDepth 20000 in
theorem implLay_any (d : WorldD) (r : RecD) (cs csr : List Value) (hi : Nat) (w : World) (h : layWorld.rd w hi d cs) (hr : layRec.rd w hi r csr) (hhi : hi ≤ w.heap.size) (hsz : szWorldD d ≤ 1048576) (hsr : szRecD r ≤ 1048576) :
    Calls Tryz.prog 20 #[.agg cs.toArray, .agg csr.toArray] w (ResPost (LyAns d r) w) := by
  have h' := h
  obtain ⟨ao1, cap1, ao2, cap2, ao3, cap3, rfl, g1, g2, g3, k0, k4, k5⟩ := World_rd h'
  obtain ⟨o6, k6, o7, k7, o8, k8, rfl, -⟩ := Rec_rd hr
  have HRD : Hid (layWorld.rd w hi d [.int .i64 (d.shape 0), .int .i64 (d.shape 1), .int .i64 (d.shape 2), .int .i64 (d.shape 3), .int .i64 (d.shape 4), .int .i64 (d.shape 5), .int .i64 (d.shape 6), .int .i64 (d.shape 7), .int .i64 (d.shape 8), .slice ao1 d.groups.1 cap1, .slice ao2 d.on.1 cap2, .slice ao3 d.tapes.1 cap3, .int .i64 d.writes, .int .i64 d.stop, .bool d.down]) := h
  have HRR : Hid (layRec.rd w hi r [.int .i64 r.kind, .int .i64 r.seq, .string r.name, .int .i64 r.length, .int .i64 r.group, .int .i64 r.row, .slice o6 r.rows.1 k6, .slice o7 r.data.1 k7, .slice o8 r.delta.1 k8]) := hr
  have HSZ : Hid (szWorldD d ≤ 1048576) := hsz
  have HSR : Hid (szRecD r ≤ 1048576) := hsr
  have hmf : ∀ (fn : Fn) (first cap : Array Value) (w : World), (Instr.makeFunc fn first cap).run Tryz.prog w = .ok (.func fn first cap) w := fun _ _ _ _ => rfl
  clear h h' hr hsz hsr g1 g2 g3 k0 k4 k5
  have T0 := three_newb w #[.int .i64 (d.shape 0), .int .i64 (d.shape 1), .int .i64 (d.shape 2), .int .i64 (d.shape 3), .int .i64 (d.shape 4), .int .i64 (d.shape 5), .int .i64 (d.shape 6), .int .i64 (d.shape 7), .int .i64 (d.shape 8), .slice ao1 d.groups.1 cap1, .slice ao2 d.on.1 cap2, .slice ao3 d.tapes.1 cap3, .int .i64 d.writes, .int .i64 d.stop, .bool d.down] #[.int .i64 r.kind, .int .i64 r.seq, .string r.name, .int .i64 r.length, .int .i64 r.group, .int .i64 r.row, .slice o6 r.rows.1 k6, .slice o7 r.data.1 k7, .slice o8 r.delta.1 k8] #[.int .i64 0, .int .i64 0, .int .i64 0, .int .i64 0, .int .i64 0, .int .i64 0, .int .i64 0, .int .i64 0, .int .i64 0, .int .i64 0, .slice none 0 0, .slice none 0 0, .slice none 0 0, .int .i64 0, .int .i64 0, .bool false] 38 43 40
  go_enter Tryz.func20, Tryz.ntmps20
  go_wp2_with (refine wp_loadBox 38 (.tmp 2) rfl rfl (w.heap.size) rfl (cs := [.int .i64 (d.shape 0), .int .i64 (d.shape 1), .int .i64 (d.shape 2), .int .i64 (d.shape 3), .int .i64 (d.shape 4), .int .i64 (d.shape 5), .int .i64 (d.shape 6), .int .i64 (d.shape 7), .int .i64 (d.shape 8), .slice ao1 d.groups.1 cap1, .slice ao2 d.on.1 cap2, .slice ao3 d.tapes.1 cap3, .int .i64 d.writes, .int .i64 d.stop, .bool d.down]) (T0.b1) Tryz.underlying38 size_W rfl ?_)
  refine (powered_any d _ hi _ (layWorld.rd_below HRD.out T0.bel hhi) (Nat.le_trans hhi T0.bel.size) HSZ.out).mono ?_
  rintro e w1 ⟨x, rfl, hx, b1⟩
  have HT1 : Hid (Three w w1 #[.int .i64 (d.shape 0), .int .i64 (d.shape 1), .int .i64 (d.shape 2), .int .i64 (d.shape 3), .int .i64 (d.shape 4), .int .i64 (d.shape 5), .int .i64 (d.shape 6), .int .i64 (d.shape 7), .int .i64 (d.shape 8), .slice ao1 d.groups.1 cap1, .slice ao2 d.on.1 cap2, .slice ao3 d.tapes.1 cap3, .int .i64 d.writes, .int .i64 d.stop, .bool d.down] #[.int .i64 r.kind, .int .i64 r.seq, .string r.name, .int .i64 r.length, .int .i64 r.group, .int .i64 r.row, .slice o6 r.rows.1 k6, .slice o7 r.data.1 k7, .slice o8 r.delta.1 k8] #[.int .i64 0, .int .i64 0, .int .i64 0, .int .i64 0, .int .i64 0, .int .i64 0, .int .i64 0, .int .i64 0, .int .i64 0, .int .i64 0, .slice none 0 0, .slice none 0 0, .slice none 0 0, .int .i64 0, .int .i64 0, .bool false] 38 43 40) := T0.call b1
  have HX : Hid (AskAns d x) := hx
  have z1 : w.heap.size + 1 + 1 < w1.heap.size := HT1.out.b3.lt
  clear b1 T0 hx
  by_cases hx0 : x = 0
  case neg =>
    have hne : (x != 0) = true := by simp [hx0]
    go_wp2_with (refine wp_storeBox 40 _ _ rfl rfl (w.heap.size + 1 + 1) rfl (cs := [.int .i64 x, .int .i64 0, .int .i64 0, .int .i64 0, .int .i64 0, .int .i64 0, .int .i64 0, .int .i64 0, .int .i64 0, .int .i64 0, .slice none 0 0, .slice none 0 0, .slice none 0 0, .int .i64 0, .int .i64 0, .bool false]) (old := [.int .i64 0, .int .i64 0, .int .i64 0, .int .i64 0, .int .i64 0, .int .i64 0, .int .i64 0, .int .i64 0, .int .i64 0, .int .i64 0, .slice none 0 0, .slice none 0 0, .slice none 0 0, .int .i64 0, .int .i64 0, .bool false]) rfl (HT1.out.b3) size_WR rfl rfl (code_one _ (ask_small HX.out) w) ?_; intro w9 X9 C9 z9)
    refine ret_box Tryz.results20 rfl X9 Tryz.underlying40 size_WR rfl rfl ?_
    exact post_codeR (by omega) (ask_small HX.out) HT1.out.bel C9 (.inl ⟨x, hx0, HX.out, rfl⟩)
  subst hx0
  have HOK : Hid (OkWorld d) := ask_ok HX.out
  have x_0 : w1.cell? ⟨w.heap.size, 0, none⟩ = some (.int .i64 (d.shape 0)) := HT1.out.b1.cell 0
  have x_1 : w1.cell? ⟨w.heap.size, 1, none⟩ = some (.int .i64 (d.shape 1)) := HT1.out.b1.cell 1
  have x_2 : w1.cell? ⟨w.heap.size, 2, none⟩ = some (.int .i64 (d.shape 2)) := HT1.out.b1.cell 2
  have x_3 : w1.cell? ⟨w.heap.size, 3, none⟩ = some (.int .i64 (d.shape 3)) := HT1.out.b1.cell 3
  have x_4 : w1.cell? ⟨w.heap.size, 4, none⟩ = some (.int .i64 (d.shape 4)) := HT1.out.b1.cell 4
  have x_5 : w1.cell? ⟨w.heap.size, 5, none⟩ = some (.int .i64 (d.shape 5)) := HT1.out.b1.cell 5
  have x_6 : w1.cell? ⟨w.heap.size, 6, none⟩ = some (.int .i64 (d.shape 6)) := HT1.out.b1.cell 6
  have x_7 : w1.cell? ⟨w.heap.size, 7, none⟩ = some (.int .i64 (d.shape 7)) := HT1.out.b1.cell 7
  have x_8 : w1.cell? ⟨w.heap.size, 8, none⟩ = some (.int .i64 (d.shape 8)) := HT1.out.b1.cell 8
  have CRF := implRec_any d.shape r [.int .i64 r.kind, .int .i64 r.seq, .string r.name, .int .i64 r.length, .int .i64 r.group, .int .i64 r.row, .slice o6 r.rows.1 k6, .slice o7 r.data.1 k7, .slice o8 r.delta.1 k8] hi w1 (layRec.rd_below HRR.out HT1.out.bel hhi) (Nat.le_trans hhi HT1.out.bel.size) (rec_name HSR.out)
  unfold shapeV at CRF
  go_wp2_with (refine wp_loadBox 43 (.tmp 3) rfl rfl (w.heap.size + 1) rfl (cs := [.int .i64 r.kind, .int .i64 r.seq, .string r.name, .int .i64 r.length, .int .i64 r.group, .int .i64 r.row, .slice o6 r.rows.1 k6, .slice o7 r.data.1 k7, .slice o8 r.delta.1 k8]) (HT1.out.b2) Tryz.underlying43 size_Rc rfl ?_)
  refine CRF.mono ?_
  rintro e wA ⟨y, rfl, hy, bA⟩
  have HTA : Hid (Three w wA #[.int .i64 (d.shape 0), .int .i64 (d.shape 1), .int .i64 (d.shape 2), .int .i64 (d.shape 3), .int .i64 (d.shape 4), .int .i64 (d.shape 5), .int .i64 (d.shape 6), .int .i64 (d.shape 7), .int .i64 (d.shape 8), .slice ao1 d.groups.1 cap1, .slice ao2 d.on.1 cap2, .slice ao3 d.tapes.1 cap3, .int .i64 d.writes, .int .i64 d.stop, .bool d.down] #[.int .i64 r.kind, .int .i64 r.seq, .string r.name, .int .i64 r.length, .int .i64 r.group, .int .i64 r.row, .slice o6 r.rows.1 k6, .slice o7 r.data.1 k7, .slice o8 r.delta.1 k8] #[.int .i64 0, .int .i64 0, .int .i64 0, .int .i64 0, .int .i64 0, .int .i64 0, .int .i64 0, .int .i64 0, .int .i64 0, .int .i64 0, .slice none 0 0, .slice none 0 0, .slice none 0 0, .int .i64 0, .int .i64 0, .bool false] 38 43 40) := HT1.out.call bA
  have zA : w1.heap.size ≤ wA.heap.size := bA.size
  have HY : Hid (RecAns d.shape r y) := hy
  clear bA CRF hy x_0 x_1 x_2 x_3 x_4 x_5 x_6 x_7 x_8
  by_cases hy0 : y = 0
  case neg =>
    have hne : (y != 0) = true := by simp [hy0]
    go_wp2_with (refine wp_storeBox 40 _ _ rfl rfl (w.heap.size + 1 + 1) rfl (cs := [.int .i64 y, .int .i64 0, .int .i64 0, .int .i64 0, .int .i64 0, .int .i64 0, .int .i64 0, .int .i64 0, .int .i64 0, .int .i64 0, .slice none 0 0, .slice none 0 0, .slice none 0 0, .int .i64 0, .int .i64 0, .bool false]) (old := [.int .i64 0, .int .i64 0, .int .i64 0, .int .i64 0, .int .i64 0, .int .i64 0, .int .i64 0, .int .i64 0, .int .i64 0, .int .i64 0, .slice none 0 0, .slice none 0 0, .slice none 0 0, .int .i64 0, .int .i64 0, .bool false]) rfl (HTA.out.b3) size_WR rfl rfl (code_one _ (rec_wide HY.out) w) ?_; intro w9 X9 C9 z9)
    refine ret_box Tryz.results20 rfl X9 Tryz.underlying40 size_WR rfl rfl ?_
    exact post_codeR (by omega) (rec_wide HY.out) HTA.out.bel C9 (.inr ⟨HX.out, .inl ⟨y, hy0, HY.out, rfl⟩⟩)
  subst hy0
  have hf0 := fit3_ok HOK.out (ask_up HX.out)
  have CK := laying_is (.int .i64 r.kind) (.int .i64 r.seq) (.string r.name) (.int .i64 r.length) (.int .i64 r.group) (.int .i64 r.row) (.slice o6 r.rows.1 k6) (.slice o7 r.data.1 k7) (.slice o8 r.delta.1 k8) wA.drew
  have B0 : Below wA.heap.size wA wA.drew := below_drew _
  have KS : ∀ w', Below wA.heap.size wA w' → (Box w' w.heap.size #[.int .i64 (d.shape 0), .int .i64 (d.shape 1), .int .i64 (d.shape 2), .int .i64 (d.shape 3), .int .i64 (d.shape 4), .int .i64 (d.shape 5), .int .i64 (d.shape 6), .int .i64 (d.shape 7), .int .i64 (d.shape 8), .slice ao1 d.groups.1 cap1, .slice ao2 d.on.1 cap2, .slice ao3 d.tapes.1 cap3, .int .i64 d.writes, .int .i64 d.stop, .bool d.down] 38 ∧ Box w' (w.heap.size + 1) #[.int .i64 r.kind, .int .i64 r.seq, .string r.name, .int .i64 r.length, .int .i64 r.group, .int .i64 r.row, .slice o6 r.rows.1 k6, .slice o7 r.data.1 k7, .slice o8 r.delta.1 k8] 43) := fun w' hb => ⟨HTA.out.b1.call hb, HTA.out.b2.call hb⟩
  go_upto_region 7 with fail
  refine wp_region_L 5 (fun w' => Box w' w.heap.size #[.int .i64 (d.shape 0), .int .i64 (d.shape 1), .int .i64 (d.shape 2), .int .i64 (d.shape 3), .int .i64 (d.shape 4), .int .i64 (d.shape 5), .int .i64 (d.shape 6), .int .i64 (d.shape 7), .int .i64 (d.shape 8), .slice ao1 d.groups.1 cap1, .slice ao2 d.on.1 cap2, .slice ao3 d.tapes.1 cap3, .int .i64 d.writes, .int .i64 d.stop, .bool d.down] 38 ∧ Box w' (w.heap.size + 1) #[.int .i64 r.kind, .int .i64 r.seq, .string r.name, .int .i64 r.length, .int .i64 r.group, .int .i64 r.row, .slice o6 r.rows.1 k6, .slice o7 r.data.1 k7, .slice o8 r.delta.1 k8] 43) (by kernel_rfl) (KS _ B0) (fun hHeld => ?_)
  refine wpAnyL_take (i := 0) (oi := _) (v := .agg #[.int .i64 (d.shape 0), .int .i64 (d.shape 1), .int .i64 (d.shape 2), .int .i64 (d.shape 3), .int .i64 (d.shape 4), .int .i64 (d.shape 5), .int .i64 (d.shape 6), .int .i64 (d.shape 7), .int .i64 (d.shape 8), .slice ao1 d.groups.1 cap1, .slice ao2 d.on.1 cap2, .slice ao3 d.tapes.1 cap3, .int .i64 d.writes, .int .i64 d.stop, .bool d.down]) 16 rfl (by kernel_rfl) (fun _ _ _ h => h) (load_yield 38 (.tmp 2) rfl rfl (w.heap.size) rfl (cs := [.int .i64 (d.shape 0), .int .i64 (d.shape 1), .int .i64 (d.shape 2), .int .i64 (d.shape 3), .int .i64 (d.shape 4), .int .i64 (d.shape 5), .int .i64 (d.shape 6), .int .i64 (d.shape 7), .int .i64 (d.shape 8), .slice ao1 d.groups.1 cap1, .slice ao2 d.on.1 cap2, .slice ao3 d.tapes.1 cap3, .int .i64 d.writes, .int .i64 d.stop, .bool d.down]) (fun w' h => h.1) Tryz.underlying38 size_W rfl) (by assumption) ?_
  try simp only [List.getElem_toArray, List.getElem_cons_succ, List.getElem_cons_zero, Act.put, List.setIfInBounds_toArray, List.set_cons_zero, List.set_cons_succ]
  refine wpAnyL_take (i := 1) (oi := _) (v := .agg #[.int .i64 r.kind, .int .i64 r.seq, .string r.name, .int .i64 r.length, .int .i64 r.group, .int .i64 r.row, .slice o6 r.rows.1 k6, .slice o7 r.data.1 k7, .slice o8 r.delta.1 k8]) 16 rfl (by kernel_rfl) (fun _ _ _ h => h) (load_yield 43 (.tmp 3) rfl rfl (w.heap.size + 1) rfl (cs := [.int .i64 r.kind, .int .i64 r.seq, .string r.name, .int .i64 r.length, .int .i64 r.group, .int .i64 r.row, .slice o6 r.rows.1 k6, .slice o7 r.data.1 k7, .slice o8 r.delta.1 k8]) (fun w' h => h.2) Tryz.underlying43 size_Rc rfl) (by assumption) ?_
  try simp only [List.getElem_toArray, List.getElem_cons_succ, List.getElem_cons_zero, Act.put, List.setIfInBounds_toArray, List.set_cons_zero, List.set_cons_succ]
  refine wpAnyL_one (i := 2) (o := _) rfl (by kernel_rfl) (fun KC hKC => ?_)
  refine step_call rfl 56 _ _ rfl #[.agg #[.int .i64 r.kind, .int .i64 r.seq, .string r.name, .int .i64 r.length, .int .i64 r.group, .int .i64 r.row, .slice o6 r.rows.1 k6, .slice o7 r.data.1 k7, .slice o8 r.delta.1 k8]] ?_ Tryz.func56 (by kernel_rfl) (by kernel_rfl) CK ?_
  · simp [Act.eval, Act.put]
  rintro ee w5 ⟨rfl, q1, b5'⟩
  have b5 : Below wA.heap.size wA w5 := B0.trans b5'
  have q1 : Box w5 wA.heap.size #[.int .i64 r.kind, .int .i64 r.seq, .string r.name, .int .i64 r.length, .int .i64 r.group, .int .i64 r.row, .slice o6 r.rows.1 k6, .slice o7 r.data.1 k7, .slice o8 r.delta.1 k8] 43 := q1
  refine ⟨_, rfl, ?_⟩
  refine hKC.out _ _ (KS _ b5) (fun hHeld => ?_)
  clear hKC KC CK b5'
  try simp only [List.getElem_toArray, List.getElem_cons_succ, List.getElem_cons_zero, Act.put, List.setIfInBounds_toArray, List.set_cons_zero, List.set_cons_succ]
  refine wpAnyL_one (i := 3) (o := _) rfl (by kernel_rfl) (fun KC hKC => ?_)
  have bN : Below w5.heap.size w5 (w5.alloc (.cells #[.func (.func 105) #[] #[.pointer (some ⟨wA.heap.size, 0, none⟩)]] 75)) := (Below.refl _ _).alloc (Nat.le_refl _) _
  have XN : Box (w5.alloc (.cells #[.func (.func 105) #[] #[.pointer (some ⟨wA.heap.size, 0, none⟩)]] 75)) w5.heap.size #[.func (.func 105) #[] #[.pointer (some ⟨wA.heap.size, 0, none⟩)]] 75 := box_new _ _ _
  go_simp
  refine hKC.out _ _ (KS _ (b5.trans (bN.mono b5.size))) (fun hHeld => ?_)
  clear hKC KC
  try simp only [List.getElem_toArray, List.getElem_cons_succ, List.getElem_cons_zero, Act.put, List.setIfInBounds_toArray, List.set_cons_zero, List.set_cons_succ]
  obtain ⟨w6, hw6⟩ : ∃ x, x = (w5.alloc (.cells #[.func (.func 105) #[] #[.pointer (some ⟨wA.heap.size, 0, none⟩)]] 75)) := ⟨_, rfl⟩
  have b6 : Below wA.heap.size wA w6 := by rw [hw6]; exact b5.trans (bN.mono b5.size)
  have z56 : w5.heap.size < w6.heap.size := by rw [hw6]; exact XN.lt
  have T6 := HTA.out.call b6
  have b56 : Below w5.heap.size w5 w6 := by rw [hw6]; exact bN
  have xN : w6.cell? ⟨w5.heap.size, 0 + 0, none⟩ = some (.func (.func 105) #[] #[.pointer (some ⟨wA.heap.size, 0, none⟩)]) := by rw [hw6]; exact XN.cell 0
  have q1' := q1.below b56 q1.lt
  have CV := carryOut_any d [.int .i64 (d.shape 0), .int .i64 (d.shape 1), .int .i64 (d.shape 2), .int .i64 (d.shape 3), .int .i64 (d.shape 4), .int .i64 (d.shape 5), .int .i64 (d.shape 6), .int .i64 (d.shape 7), .int .i64 (d.shape 8), .slice ao1 d.groups.1 cap1, .slice ao2 d.on.1 cap2, .slice ao3 d.tapes.1 cap3, .int .i64 d.writes, .int .i64 d.stop, .bool d.down] hi (fun _ => 105) (fun _ => #[.pointer (some ⟨wA.heap.size, 0, none⟩)]) (fun _ => layF r) (fun _ => Fit3 2) 1 w5.heap.size 0 1 w6 (layWorld.rd_below HRD.out T6.bel hhi) (Nat.le_trans hhi T6.bel.size) HSZ.out
    (fun i _ => laying_task r o6 o7 o8 k6 k7 k8 hi HSR.out wA.heap.size w6.heap.size w6 q1' (layRec.rd_below HRR.out T6.bel hhi) q1'.lt (Nat.le_trans hhi T6.bel.size) (Nat.le_refl _)) (fun i hi => by
      have h0 : i = 0 := by omega
      subst h0
      exact xN) z56 (by decide) ⟨hf0.less (by decide), by unfold FitNext; split <;> simp [FitAll]⟩ (by rw [run_one]; exact layF_code)
  rw [run_one] at CV
  have CW := CV.mono (R' := fun e w' => ∃ sc s0 s1 s2 s3 s4 s5 s6 s7 s8 sp0 sl0 sq0 sp1 sl1 sq1 sp2 sl2 sq2 s9 s10 sb, e = .returned (.agg #[.int .i64 sc, .int .i64 s0, .int .i64 s1, .int .i64 s2, .int .i64 s3, .int .i64 s4, .int .i64 s5, .int .i64 s6, .int .i64 s7, .int .i64 s8, .slice sp0 sl0 sq0, .slice sp1 sl1 sq1, .slice sp2 sl2 sq2, .int .i64 s9, .int .i64 s10, .bool sb]) ∧ OwnT layWorldResult w' w6.heap.size w'.heap.size (layF r d).final [.int .i64 sc, .int .i64 s0, .int .i64 s1, .int .i64 s2, .int .i64 s3, .int .i64 s4, .int .i64 s5, .int .i64 s6, .int .i64 s7, .int .i64 s8, .slice sp0 sl0 sq0, .slice sp1 sl1 sq1, .slice sp2 sl2 sq2, .int .i64 s9, .int .i64 s10, .bool sb] ∧ Below w6.heap.size w6 w') (fun e w' ⟨cs', he, ho, hb⟩ => by
    obtain ⟨sc, s0, s1, s2, s3, s4, s5, s6, s7, s8, sp0, sl0, sq0, sp1, sl1, sq1, sp2, sl2, sq2, s9, s10, sb, rfl⟩ := wres16 ho.rd
    exact ⟨sc, s0, s1, s2, s3, s4, s5, s6, s7, s8, sp0, sl0, sq0, sp1, sl1, sq1, sp2, sl2, sq2, s9, s10, sb, he, ho, hb⟩)
  clear CV hf0
  rw [← hw6]
  refine wpAnyL_one (i := 4) (o := _) rfl (by kernel_rfl) (fun KC hKC => ?_)
  refine step_call rfl 40 _ _ rfl #[.agg #[.int .i64 (d.shape 0), .int .i64 (d.shape 1), .int .i64 (d.shape 2), .int .i64 (d.shape 3), .int .i64 (d.shape 4), .int .i64 (d.shape 5), .int .i64 (d.shape 6), .int .i64 (d.shape 7), .int .i64 (d.shape 8), .slice ao1 d.groups.1 cap1, .slice ao2 d.on.1 cap2, .slice ao3 d.tapes.1 cap3, .int .i64 d.writes, .int .i64 d.stop, .bool d.down], .slice (some ⟨w5.heap.size, 0, none⟩) 1 1] ?_ Tryz.func40 (by kernel_rfl) (by kernel_rfl) CW ?_
  · simp [Act.eval, Act.put]
  rintro ee w7 ⟨sc, s0, s1, s2, s3, s4, s5, s6, s7, s8, sp0, sl0, sq0, sp1, sl1, sq1, sp2, sl2, sq2, s9, s10, sb, rfl, o7, b7⟩
  have T7 := T6.call b7
  have z7 : w6.heap.size ≤ w7.heap.size := b7.size
  refine ⟨_, rfl, ?_⟩
  refine hKC.out _ _ (KS _ (b6.trans (b7.mono b6.size))) (fun hHeld => ?_)
  clear hKC KC
  try simp only [List.getElem_toArray, List.getElem_cons_succ, List.getElem_cons_zero, Act.put, List.setIfInBounds_toArray, List.set_cons_zero, List.set_cons_succ]
  refine wpAnyL_store rfl (by kernel_rfl) (by kernel_rfl) rfl rfl 40 (.tmp 4) (.tmp 25) rfl (w.heap.size + 1 + 1) rfl (cs := [.int .i64 sc, .int .i64 s0, .int .i64 s1, .int .i64 s2, .int .i64 s3, .int .i64 s4, .int .i64 s5, .int .i64 s6, .int .i64 s7, .int .i64 s8, .slice sp0 sl0 sq0, .slice sp1 sl1 sq1, .slice sp2 sl2 sq2, .int .i64 s9, .int .i64 s10, .bool sb]) (old := [.int .i64 0, .int .i64 0, .int .i64 0, .int .i64 0, .int .i64 0, .int .i64 0, .int .i64 0, .int .i64 0, .int .i64 0, .int .i64 0, .slice none 0 0, .slice none 0 0, .slice none 0 0, .int .i64 0, .int .i64 0, .bool false]) rfl T7.b3 size_WR rfl rfl o7.one (fun w9 X9 C9 z9 => ?_)
  have z6 := b6.size
  go_wp2
  refine ret_box Tryz.results20 rfl X9 Tryz.underlying40 size_WR rfl rfl ?_
  exact ⟨_, [.int .i64 sc, .int .i64 s0, .int .i64 s1, .int .i64 s2, .int .i64 s3, .int .i64 s4, .int .i64 s5, .int .i64 s6, .int .i64 s7, .int .i64 s8, .slice sp0 sl0 sq0, .slice sp1 sl1 sq1, .slice sp2 sl2 sq2, .int .i64 s9, .int .i64 s10, .bool sb], rfl, .inr ⟨HX.out, .inr ⟨HY.out, rfl⟩⟩, (o7.chgk C9 (fun b hb => by simp at hb; omega)).weaken (by omega) C9.size, T7.bel.trans (C9.bel (fun b hb => by simp at hb; omega) T7.bel.size)⟩
end Go.Proofs.YthdknhjaohhfiaaGreat

namespace Go.Proofs.YthdknhjaohhfiaaGreat
open Go.RowKit F256
set_option linter.unusedVariables false
set_option linter.unusedSimpArgs false
theorem drive_of' {w : World} {lo hi : Nat} {d : DriveD} {ao : Option Addr} {cap : Nat} (h : OwnT (layBlock.slice 108) w lo hi d.blocks [.slice ao d.blocks.1 cap]) : OwnT layDrive w lo hi d [.bool d.wiped, .slice ao d.blocks.1 cap] :=
  OwnT.conv (OwnT.pre (A := layB) (a := d.wiped) (c := [.bool d.wiped]) ⟨rfl, trivial, rfl⟩ h)
theorem tape_of' {w : World} {lo hi : Nat} {d : TapeD} {ao : Option Addr} {cap : Nat} (h : OwnT (layRec.slice 43) w lo hi d.recs [.slice ao d.recs.1 cap]) : OwnT layTape w lo hi d [.bool d.wiped, .slice ao d.recs.1 cap] :=
  OwnT.conv (OwnT.pre (A := layB) (a := d.wiped) (c := [.bool d.wiped]) ⟨rfl, trivial, rfl⟩ h)
theorem Three.chgl3 {w wc w' : World} {c1 c2 c3 : Array Value} {t1 t2 t3 : TypeId} (h : Three w wc c1 c2 c3 t1 t2 t3) (c3' : Array Value) (hb : Box w' (w.heap.size + 1 + 1) c3' t3) (hc : ChgL [w.heap.size + 1 + 1] wc w') : Three w w' c1 c2 c3' t1 t2 t3 :=
  ⟨h.b1.chgl hc (by simp only [List.mem_singleton]; omega), h.b2.chgl hc (by simp only [List.mem_singleton]; omega), hb, h.bel.trans (hc.bel (fun b hb => by simp only [List.mem_singleton] at hb; omega) h.bel.size)⟩
theorem OwnT.chgl {α : Type} {A : Lay α} {w w' : World} {lo hi : Nat} {a : α} {cs : List Value} {K : List Nat} (h : OwnT A w lo hi a cs) (hc : ChgL K w w') (hK : ∀ b, b ∈ K → b < lo) : OwnT A w' lo hi a cs := by
  obtain ⟨M, h1, h2, h3⟩ := h
  exact ⟨M, A.own_kept h1 (fun b hb => hc.block b (A.own_lt h1 b hb) (fun hh => by have := hK b hh; have := (h3 b hb).1; omega)), h2, h3⟩
set_option maxHeartbeats 200000000 in
set_option maxRecDepth 20000 in
theorem l5Copy_is : ToV layWorld szWorldD 29 := fun cs d hi w r hhi hn => by
  obtain ⟨ao1, cap1, ao2, cap2, ao3, cap3, rfl, g1, g2, g3, k0, k4, k5⟩ := World_rd r
  clear r
  unfold szWorldD lenD at hn
  have hnG : szSl (szSl szDriveD) d.groups ≤ 1048576 := by omega
  have hnO : d.on.1 ≤ 1048576 := by omega
  have hnT : szSl szTapeD d.tapes ≤ 1048576 := by omega
  clear hn
  have Q0 : Hid (∀ i, -9223372036854775808 ≤ d.shape i ∧ d.shape i ≤ 9223372036854775807) := k0
  have Q4 : Hid (-9223372036854775808 ≤ d.writes ∧ d.writes ≤ 9223372036854775807) := k4
  have Q5 : Hid (-9223372036854775808 ≤ d.stop ∧ d.stop ≤ 9223372036854775807) := k5
  have HG2 : Hid (layInts.rd w hi d.on [.slice ao2 d.on.1 cap2]) := g2
  obtain ⟨_, _, e1, hm1, hc1⟩ := g1
  cases e1
  obtain ⟨_, _, e3, hm3, hc3⟩ := g3
  cases e3
  have HC1 : Hid (d.groups.1 ≠ 0 → ∃ b off, ao1 = some ⟨b, off, none⟩ ∧ b < hi ∧ ∀ i, i < d.groups.1 → ∃ ce, (layDrive.slice 106).rd w hi (d.groups.2 i) ce ∧ ∀ j, j < (layDrive.slice 106).sz → w.cell? ⟨b, off + (i * (layDrive.slice 106).sz + j), none⟩ = ce[j]?) := hc1
  have HC3 : Hid (d.tapes.1 ≠ 0 → ∃ b off, ao3 = some ⟨b, off, none⟩ ∧ b < hi ∧ ∀ i, i < d.tapes.1 → ∃ ce, layTape.rd w hi (d.tapes.2 i) ce ∧ ∀ j, j < layTape.sz → w.cell? ⟨b, off + (i * layTape.sz + j), none⟩ = ce[j]?) := hc3
  have hgn := szSl_n hnG
  have htn := szSl_n hnT
  have HNG : Hid (∀ i, i < d.groups.1 → szSl szDriveD (d.groups.2 i) ≤ 1048576) := fun i hi => szSl_at hnG hi
  have HNT : Hid (∀ i, i < d.tapes.1 → szTapeD (d.tapes.2 i) ≤ 1048576) := fun i hi => szSl_at hnT hi
  clear k0 k4 k5 g2 hc1 hc3 hnG hnT hm1 hm3
  have T0 := three_newb w #[.int .i64 (d.shape 0), .int .i64 (d.shape 1), .int .i64 (d.shape 2), .int .i64 (d.shape 3), .int .i64 (d.shape 4), .int .i64 (d.shape 5), .int .i64 (d.shape 6), .int .i64 (d.shape 7), .int .i64 (d.shape 8), .slice ao1 d.groups.1 cap1, .slice ao2 d.on.1 cap2, .slice ao3 d.tapes.1 cap3, .int .i64 d.writes, .int .i64 d.stop, .bool d.down] #[.int .i64 0, .int .i64 0, .int .i64 0, .int .i64 0, .int .i64 0, .int .i64 0, .int .i64 0, .int .i64 0, .int .i64 0, .slice none 0 0, .slice none 0 0, .slice none 0 0, .int .i64 0, .int .i64 0, .bool false] #[.int .i64 (d.shape 0), .int .i64 (d.shape 1), .int .i64 (d.shape 2), .int .i64 (d.shape 3), .int .i64 (d.shape 4), .int .i64 (d.shape 5), .int .i64 (d.shape 6), .int .i64 (d.shape 7), .int .i64 (d.shape 8), .slice none 0 0, .slice ao2 d.on.1 cap2, .slice ao3 d.tapes.1 cap3, .int .i64 d.writes, .int .i64 d.stop, .bool d.down] 38 38 38
  go_enter Tryz.func29, Tryz.ntmps29
  go_wp2
  go_loopw [4] (fun i wr => ∃ (g : Nat) (ga : Option Addr) (gc : Nat), g ≤ d.groups.1 ∧ i = .int .i64 g ∧ Three w wr #[.int .i64 (d.shape 0), .int .i64 (d.shape 1), .int .i64 (d.shape 2), .int .i64 (d.shape 3), .int .i64 (d.shape 4), .int .i64 (d.shape 5), .int .i64 (d.shape 6), .int .i64 (d.shape 7), .int .i64 (d.shape 8), .slice ao1 d.groups.1 cap1, .slice ao2 d.on.1 cap2, .slice ao3 d.tapes.1 cap3, .int .i64 d.writes, .int .i64 d.stop, .bool d.down] #[.int .i64 0, .int .i64 0, .int .i64 0, .int .i64 0, .int .i64 0, .int .i64 0, .int .i64 0, .int .i64 0, .int .i64 0, .slice none 0 0, .slice none 0 0, .slice none 0 0, .int .i64 0, .int .i64 0, .bool false] #[.int .i64 (d.shape 0), .int .i64 (d.shape 1), .int .i64 (d.shape 2), .int .i64 (d.shape 3), .int .i64 (d.shape 4), .int .i64 (d.shape 5), .int .i64 (d.shape 6), .int .i64 (d.shape 7), .int .i64 (d.shape 8), .slice ga g gc, .slice ao2 d.on.1 cap2, .slice ao3 d.tapes.1 cap3, .int .i64 d.writes, .int .i64 d.stop, .bool d.down] 38 38 38 ∧ Gat (layDrive.slice 106) 103 wr (w.heap.size + 1 + 1 + 1) (.slice ga g gc) g d.groups.2) (fun i _ => d.groups.1 - (intOf i).toNat)
  case atStart => exact ⟨0, none, 0, Nat.zero_le _, rfl, T0, Gat.nil _ _ _⟩
  case round =>
    clear T0
    obtain ⟨g, ga, gc, hg, rfl, T1, G1⟩ := hrel
    obtain ⟨wo, rfl⟩ : ∃ x, x = wr := ⟨_, rfl⟩
    have HT1 : Hid (Three w wo #[.int .i64 (d.shape 0), .int .i64 (d.shape 1), .int .i64 (d.shape 2), .int .i64 (d.shape 3), .int .i64 (d.shape 4), .int .i64 (d.shape 5), .int .i64 (d.shape 6), .int .i64 (d.shape 7), .int .i64 (d.shape 8), .slice ao1 d.groups.1 cap1, .slice ao2 d.on.1 cap2, .slice ao3 d.tapes.1 cap3, .int .i64 d.writes, .int .i64 d.stop, .bool d.down] #[.int .i64 0, .int .i64 0, .int .i64 0, .int .i64 0, .int .i64 0, .int .i64 0, .int .i64 0, .int .i64 0, .int .i64 0, .slice none 0 0, .slice none 0 0, .slice none 0 0, .int .i64 0, .int .i64 0, .bool false] #[.int .i64 (d.shape 0), .int .i64 (d.shape 1), .int .i64 (d.shape 2), .int .i64 (d.shape 3), .int .i64 (d.shape 4), .int .i64 (d.shape 5), .int .i64 (d.shape 6), .int .i64 (d.shape 7), .int .i64 (d.shape 8), .slice ga g gc, .slice ao2 d.on.1 cap2, .slice ao3 d.tapes.1 cap3, .int .i64 d.writes, .int .i64 d.stop, .bool d.down] 38 38 38) := T1
    have HG1 : Hid (Gat (layDrive.slice 106) 103 wo (w.heap.size + 1 + 1 + 1) (.slice ga g gc) g d.groups.2) := G1
    have zo : w.heap.size + 1 + 1 + 1 ≤ wo.heap.size := T1.lt
    have x9 : wo.cell? ⟨w.heap.size, 9, none⟩ = some (.slice ao1 d.groups.1 cap1) := T1.b1.cell 9
    by_cases hlg : g < d.groups.1
    · obtain ⟨b1, off1, he1, hb1, hel1⟩ := HC1.out (by omega)
      subst he1
      obtain ⟨cg, hrg, hcg⟩ := elem_rd (t := 0) hel1 T1.bel hhi hb1 hlg
      obtain ⟨ao9, cap9, rfl⟩ := sl_form hrg
      have c0 : wo.cell? ⟨b1, off1 + g, none⟩ = some (.slice ao9 (d.groups.2 g).1 cap9) := by
        have := hcg 0 (by decide)
        have e : off1 + (g * (layDrive.slice 106).sz + 0) = off1 + g := by show off1 + (g * 1 + 0) = off1 + g; omega
        rw [e] at this
        exact this
      have HC0 : Hid (wo.cell? ⟨b1, off1 + g, none⟩ = some (.slice ao9 (d.groups.2 g).1 cap9)) := c0
      have hnD := HNG.out g hlg
      have hdn := szSl_n hnD
      have HND : Hid (∀ i, i < (d.groups.2 g).1 → szDriveD ((d.groups.2 g).2 i) ≤ 1048576) := fun i hi => szSl_at hnD hi
      obtain ⟨_, _, e9, hm9, hc9⟩ := hrg
      cases e9
      have HC9 : Hid ((d.groups.2 g).1 ≠ 0 → ∃ b off, ao9 = some ⟨b, off, none⟩ ∧ b < hi ∧ ∀ i, i < (d.groups.2 g).1 → ∃ ce, layDrive.rd wo hi ((d.groups.2 g).2 i) ce ∧ ∀ j, j < layDrive.sz → wo.cell? ⟨b, off + (i * layDrive.sz + j), none⟩ = ce[j]?) := hc9
      clear hel1 hcg T1 G1 hc9 hnD hm9
      go_wp2
      go_loopw [5, 6] (fun v i wx => ∃ (k : Nat) (da : Option Addr) (dc : Nat), k ≤ (d.groups.2 g).1 ∧ i = .int .i64 k ∧ v = .slice da k dc ∧ Gat layDrive 106 wx wo.heap.size (.slice da k dc) k (d.groups.2 g).2 ∧ Below wo.heap.size wo wx) (fun _ i _ => (d.groups.2 g).1 - (intOf i).toNat)
      case atStart => exact ⟨0, _, _, Nat.zero_le _, rfl, rfl, gat_lit0 _ _, (Below.refl _ _).alloc (Nat.le_refl _) _⟩
      case round =>
        clear x9 c0
        obtain ⟨k, da, dc, hk, rfl, rfl, G2, B2⟩ := hrel
        obtain ⟨wx, rfl⟩ : ∃ x, x = wr := ⟨_, rfl⟩
        have HG2' : Hid (Gat layDrive 106 wx wo.heap.size (.slice da k dc) k (d.groups.2 g).2) := G2
        have HB2 : Hid (Below wo.heap.size wo wx) := B2
        have zx : wo.heap.size ≤ wx.heap.size := B2.size
        have x9 : wx.cell? ⟨w.heap.size, 9, none⟩ = some (.slice (some ⟨b1, off1, none⟩) d.groups.1 cap1) := (HT1.out.call B2).b1.cell 9
        have c0 : wx.cell? ⟨b1, off1 + g, none⟩ = some (.slice ao9 (d.groups.2 g).1 cap9) := (B2.cell (p := ⟨b1, off1 + g, none⟩) (by show b1 < wo.heap.size; omega)).trans HC0.out
        by_cases hlk : k < (d.groups.2 g).1
        · obtain ⟨b9, off9, he9, hb9, hel9⟩ := HC9.out (by omega)
          subst he9
          obtain ⟨cd, hrd, hcd⟩ := elem_rd (t := 0) hel9 B2 (by omega) hb9 hlk
          obtain ⟨ao5, cap5, rfl, g5⟩ := Drive_rd hrd
          obtain ⟨D, hD⟩ : ∃ x, x = (d.groups.2 g).2 k := ⟨_, rfl⟩
          rw [← hD] at hcd g5
          have HD : Hid (D = (d.groups.2 g).2 k) := hD
          have hnB : szSl szBlockD D.blocks ≤ 1048576 := by rw [hD]; exact HND.out k hlk
          have hbn := szSl_n hnB
          have HNB : Hid (∀ i, i < D.blocks.1 → szBlockD (D.blocks.2 i) ≤ 1048576) := fun i hi => szSl_at hnB hi
          have c2 : wx.cell? ⟨b9, off9 + k * 2, none⟩ = some (.bool D.wiped) := hcd 0 (by decide)
          have c3 : wx.cell? ⟨b9, off9 + k * 2 + 1, none⟩ = some (.slice ao5 D.blocks.1 cap5) := hcd 1 (by decide)
          have HC3' : Hid (wx.cell? ⟨b9, off9 + k * 2 + 1, none⟩ = some (.slice ao5 D.blocks.1 cap5)) := c3
          have HC0' : Hid (wx.cell? ⟨b1, off1 + g, none⟩ = some (.slice (some ⟨b9, off9, none⟩) (d.groups.2 g).1 cap9)) := c0
          obtain ⟨_, _, e5, hm5, hc5⟩ := g5
          cases e5
          have HC5 : Hid (D.blocks.1 ≠ 0 → ∃ b off, ao5 = some ⟨b, off, none⟩ ∧ b < hi ∧ ∀ i, i < D.blocks.1 → ∃ ce, layBlock.rd wx hi (D.blocks.2 i) ce ∧ ∀ j, j < layBlock.sz → wx.cell? ⟨b, off + (i * layBlock.sz + j), none⟩ = ce[j]?) := hc5
          clear hel9 hcd hrd G2 B2 hD hnB hc5 hm5
          go_wp2
          have bA : Below wx.heap.size wx (wx.alloc (.cells #[.bool D.wiped, .slice none 0 0] 106)) := (Below.refl _ _).alloc (Nat.le_refl _) _
          have XA : Box (wx.alloc (.cells #[.bool D.wiped, .slice none 0 0] 106)) wx.heap.size #[.bool D.wiped, .slice none 0 0] 106 := box_new _ _ _
          go_loopw [8] (fun i wz => ∃ (q : Nat) (ba : Option Addr) (bc : Nat), q ≤ D.blocks.1 ∧ i = .int .i64 q ∧ Box wz wx.heap.size #[.bool D.wiped, .slice ba q bc] 106 ∧ Gat layBlock 108 wz (wx.heap.size + 1) (.slice ba q bc) q D.blocks.2 ∧ Below wx.heap.size wx wz) (fun i _ => D.blocks.1 - (intOf i).toNat)
          case atStart => exact ⟨0, none, 0, Nat.zero_le _, rfl, XA, Gat.nil _ _ _, bA⟩
          case round =>
            clear x9 c0 c2 c3 bA XA
            obtain ⟨q, ba, bc, hq, rfl, X3, G3, B3⟩ := hrel
            obtain ⟨wz, rfl⟩ : ∃ x, x = wr := ⟨_, rfl⟩
            have HX3 : Hid (Box wz wx.heap.size #[.bool D.wiped, .slice ba q bc] 106) := X3
            have HG3 : Hid (Gat layBlock 108 wz (wx.heap.size + 1) (.slice ba q bc) q D.blocks.2) := G3
            have HB3 : Hid (Below wx.heap.size wx wz) := B3
            have zz : wx.heap.size < wz.heap.size := X3.lt
            have x9 : wz.cell? ⟨w.heap.size, 9, none⟩ = some (.slice (some ⟨b1, off1, none⟩) d.groups.1 cap1) := ((HT1.out.call HB2.out).call B3).b1.cell 9
            have c0 : wz.cell? ⟨b1, off1 + g, none⟩ = some (.slice (some ⟨b9, off9, none⟩) (d.groups.2 g).1 cap9) := (B3.cell (p := ⟨b1, off1 + g, none⟩) (by show b1 < wx.heap.size; omega)).trans HC0'.out
            have c3 : wz.cell? ⟨b9, off9 + k * 2 + 1, none⟩ = some (.slice ao5 D.blocks.1 cap5) := (B3.cell (p := ⟨b9, off9 + k * 2 + 1, none⟩) (by show b9 < wx.heap.size; omega)).trans HC3'.out
            have y0 : wz.cell? ⟨wx.heap.size, 0, none⟩ = some (.bool D.wiped) := X3.cell 0
            have y1 : wz.cell? ⟨wx.heap.size, 1, none⟩ = some (.slice ba q bc) := X3.cell 1
            by_cases hlq : q < D.blocks.1
            · obtain ⟨b5, off5, he5, hb5, hel5⟩ := HC5.out (by omega)
              subst he5
              obtain ⟨cb, hrb, hcb⟩ := elem_rd (t := 0) hel5 B3 (by omega) hb5 hlq
              obtain ⟨ao0, cap0, rfl, -⟩ := Block_rd hrb
              have s0 : wz.cell? ⟨b5, off5 + q * 2, none⟩ = some (.int .i64 (D.blocks.2 q).stamp) := hcb 0 (by decide)
              have s1 : wz.cell? ⟨b5, off5 + q * 2 + 1, none⟩ = some (.slice ao0 (D.blocks.2 q).bytes.1 cap0) := hcb 1 (by decide)
              have CC := l5CopyBlock_is _ (D.blocks.2 q) hi wz.drew (layBlock.rd_below (B := hi) hrb ⟨rfl, rfl, rfl, Nat.le_refl _, fun _ _ => rfl⟩ (Nat.le_refl _)) (show hi ≤ wz.heap.size by omega) (HNB.out q hlq)
              have CC := CC.mono (R' := fun e w' => ∃ bo bcc, e = .returned (.agg #[.int .i64 (D.blocks.2 q).stamp, .slice bo (D.blocks.2 q).bytes.1 bcc]) ∧ OwnT layBlock w' wz.drew.heap.size w'.heap.size (D.blocks.2 q) [.int .i64 (D.blocks.2 q).stamp, .slice bo (D.blocks.2 q).bytes.1 bcc] ∧ Below wz.drew.heap.size wz.drew w') (fun e w' ⟨c5, he, o5, b5'⟩ => by
                obtain ⟨bo, bcc, rfl⟩ := Block_cells o5
                exact ⟨bo, bcc, he, o5, b5'⟩)
              clear hel5 hcb hrb X3 G3 B3
              have KS : ∀ w', Below (wx.heap.size + 1) wz w' → (w'.cell? ⟨w.heap.size, 9, none⟩ = some (.slice (some ⟨b1, off1, none⟩) d.groups.1 cap1) ∧ w'.cell? ⟨b1, off1 + g, none⟩ = some (.slice (some ⟨b9, off9, none⟩) (d.groups.2 g).1 cap9) ∧ w'.cell? ⟨b9, off9 + k * 2 + 1, none⟩ = some (.slice (some ⟨b5, off5, none⟩) D.blocks.1 cap5) ∧ w'.cell? ⟨b5, off5 + q * 2, none⟩ = some (.int .i64 (D.blocks.2 q).stamp) ∧ w'.cell? ⟨b5, off5 + q * 2 + 1, none⟩ = some (.slice ao0 (D.blocks.2 q).bytes.1 cap0) ∧ w'.cell? ⟨wx.heap.size, 1, none⟩ = some (.slice ba q bc)) := fun w' hb => ⟨(hb.cell (p := ⟨w.heap.size, 9, none⟩) (by show w.heap.size < wx.heap.size + 1; omega)).trans x9, (hb.cell (p := ⟨b1, off1 + g, none⟩) (by show b1 < wx.heap.size + 1; omega)).trans c0, (hb.cell (p := ⟨b9, off9 + k * 2 + 1, none⟩) (by show b9 < wx.heap.size + 1; omega)).trans c3, (hb.cell (p := ⟨b5, off5 + q * 2, none⟩) (by show b5 < wx.heap.size + 1; omega)).trans s0, (hb.cell (p := ⟨b5, off5 + q * 2 + 1, none⟩) (by show b5 < wx.heap.size + 1; omega)).trans s1, (hb.cell (p := ⟨wx.heap.size, 1, none⟩) (Nat.lt_succ_self _)).trans y1⟩
              have i1 : (0 : Int) ≤ (g : Int) := by omega
              have i2 : (g : Int) < (d.groups.1 : Int) := by omega
              have i3 : (0 : Int) ≤ (k : Int) := by omega
              have i4 : (k : Int) < ((d.groups.2 g).1 : Int) := by omega
              have i5 : (0 : Int) ≤ (q : Int) := by omega
              have i6 : (q : Int) < (D.blocks.1 : Int) := by omega
              go_upto_region 14 with fail
              refine wp_region_L 18 (fun w' => w'.cell? ⟨w.heap.size, 9, none⟩ = some (.slice (some ⟨b1, off1, none⟩) d.groups.1 cap1) ∧ w'.cell? ⟨b1, off1 + g, none⟩ = some (.slice (some ⟨b9, off9, none⟩) (d.groups.2 g).1 cap9) ∧ w'.cell? ⟨b9, off9 + k * 2 + 1, none⟩ = some (.slice (some ⟨b5, off5, none⟩) D.blocks.1 cap5) ∧ w'.cell? ⟨b5, off5 + q * 2, none⟩ = some (.int .i64 (D.blocks.2 q).stamp) ∧ w'.cell? ⟨b5, off5 + q * 2 + 1, none⟩ = some (.slice ao0 (D.blocks.2 q).bytes.1 cap0) ∧ w'.cell? ⟨wx.heap.size, 1, none⟩ = some (.slice ba q bc)) (by kernel_rfl) (KS _ ⟨rfl, rfl, rfl, Nat.le_refl _, fun _ _ => rfl⟩) (fun hHeld => ?_)
              refine wpAnyL_take (i := 0) (oi := _) (v := ?_) 16 rfl (by kernel_rfl) (fun _ _ _ h => h) (Or.inl ⟨by rfl, ?_⟩) (by assumption) ?_
              rotate_left
              · intro w' hSw
                try dsimp only at hSw
                obtain ⟨hq0, hq1, hq2, hq3, hq4, hq5⟩ := hSw
                go_simp
                try with_reducible rfl
              try simp only [Act.put, List.setIfInBounds_toArray, List.set_cons_zero, List.set_cons_succ]
              refine wpAnyL_take (i := 1) (oi := _) (v := ?_) 16 rfl (by kernel_rfl) (fun _ _ _ h => h) (Or.inl ⟨by rfl, ?_⟩) (by assumption) ?_
              rotate_left
              · intro w' hSw
                try dsimp only at hSw
                obtain ⟨hq0, hq1, hq2, hq3, hq4, hq5⟩ := hSw
                go_simp
                try with_reducible rfl
              try simp only [Act.put, List.setIfInBounds_toArray, List.set_cons_zero, List.set_cons_succ]
              refine wpAnyL_take (i := 2) (oi := _) (v := ?_) 16 rfl (by kernel_rfl) (fun _ _ _ h => h) (Or.inl ⟨by rfl, ?_⟩) (by assumption) ?_
              rotate_left
              · intro w' hSw
                try dsimp only at hSw
                obtain ⟨hq0, hq1, hq2, hq3, hq4, hq5⟩ := hSw
                go_simp
                try with_reducible rfl
              try simp only [Act.put, List.setIfInBounds_toArray, List.set_cons_zero, List.set_cons_succ]
              refine wpAnyL_take (i := 3) (oi := _) (v := ?_) 16 rfl (by kernel_rfl) (fun _ _ _ h => h) (Or.inl ⟨by rfl, ?_⟩) (by assumption) ?_
              rotate_left
              · intro w' hSw
                try dsimp only at hSw
                obtain ⟨hq0, hq1, hq2, hq3, hq4, hq5⟩ := hSw
                go_simp
                try with_reducible rfl
              try simp only [Act.put, List.setIfInBounds_toArray, List.set_cons_zero, List.set_cons_succ]
              refine wpAnyL_take (i := 4) (oi := _) (v := ?_) 16 rfl (by kernel_rfl) (fun _ _ _ h => h) (Or.inl ⟨by rfl, ?_⟩) (by assumption) ?_
              rotate_left
              · intro w' hSw
                try dsimp only at hSw
                obtain ⟨hq0, hq1, hq2, hq3, hq4, hq5⟩ := hSw
                go_simp
                try with_reducible rfl
              try simp only [Act.put, List.setIfInBounds_toArray, List.set_cons_zero, List.set_cons_succ]
              refine wpAnyL_take (i := 5) (oi := _) (v := ?_) 16 rfl (by kernel_rfl) (fun _ _ _ h => h) (Or.inl ⟨by rfl, ?_⟩) (by assumption) ?_
              rotate_left
              · intro w' hSw
                try dsimp only at hSw
                obtain ⟨hq0, hq1, hq2, hq3, hq4, hq5⟩ := hSw
                go_simp
                try with_reducible rfl
              try simp only [Act.put, List.setIfInBounds_toArray, List.set_cons_zero, List.set_cons_succ]
              refine wpAnyL_take (i := 6) (oi := _) (v := ?_) 16 rfl (by kernel_rfl) (fun _ _ _ h => h) (Or.inl ⟨by rfl, ?_⟩) (by assumption) ?_
              rotate_left
              · intro w' hSw
                try dsimp only at hSw
                obtain ⟨hq0, hq1, hq2, hq3, hq4, hq5⟩ := hSw
                go_simp
                try with_reducible rfl
              try simp only [Act.put, List.setIfInBounds_toArray, List.set_cons_zero, List.set_cons_succ]
              refine wpAnyL_take (i := 7) (oi := _) (v := ?_) 16 rfl (by kernel_rfl) (fun _ _ _ h => h) (Or.inl ⟨by rfl, ?_⟩) (by assumption) ?_
              rotate_left
              · intro w' hSw
                try dsimp only at hSw
                obtain ⟨hq0, hq1, hq2, hq3, hq4, hq5⟩ := hSw
                go_simp
                try with_reducible rfl
              try simp only [Act.put, List.setIfInBounds_toArray, List.set_cons_zero, List.set_cons_succ]
              refine wpAnyL_take (i := 8) (oi := _) (v := ?_) 16 rfl (by kernel_rfl) (fun _ _ _ h => h) (Or.inl ⟨by rfl, ?_⟩) (by assumption) ?_
              rotate_left
              · intro w' hSw
                try dsimp only at hSw
                obtain ⟨hq0, hq1, hq2, hq3, hq4, hq5⟩ := hSw
                go_simp
                try with_reducible rfl
              try simp only [Act.put, List.setIfInBounds_toArray, List.set_cons_zero, List.set_cons_succ]
              refine wpAnyL_take (i := 9) (oi := _) (v := ?_) 16 rfl (by kernel_rfl) (fun _ _ _ h => h) (Or.inl ⟨by rfl, ?_⟩) (by assumption) ?_
              rotate_left
              · intro w' hSw
                try dsimp only at hSw
                obtain ⟨hq0, hq1, hq2, hq3, hq4, hq5⟩ := hSw
                go_simp
                try with_reducible rfl
              try simp only [Act.put, List.setIfInBounds_toArray, List.set_cons_zero, List.set_cons_succ]
              refine wpAnyL_take (i := 10) (oi := _) (v := ?_) 16 rfl (by kernel_rfl) (fun _ _ _ h => h) (Or.inl ⟨by rfl, ?_⟩) (by assumption) ?_
              rotate_left
              · intro w' hSw
                try dsimp only at hSw
                obtain ⟨hq0, hq1, hq2, hq3, hq4, hq5⟩ := hSw
                go_simp
                try with_reducible rfl
              try simp only [Act.put, List.setIfInBounds_toArray, List.set_cons_zero, List.set_cons_succ]
              refine wpAnyL_take (i := 11) (oi := _) (v := ?_) 16 rfl (by kernel_rfl) (fun _ _ _ h => h) (Or.inl ⟨by rfl, ?_⟩) (by assumption) ?_
              rotate_left
              · intro w' hSw
                try dsimp only at hSw
                obtain ⟨hq0, hq1, hq2, hq3, hq4, hq5⟩ := hSw
                go_simp
                try with_reducible rfl
              try simp only [Act.put, List.setIfInBounds_toArray, List.set_cons_zero, List.set_cons_succ]
              refine wpAnyL_take (i := 12) (oi := _) (v := ?_) 16 rfl (by kernel_rfl) (fun _ _ _ h => h) (Or.inl ⟨by rfl, ?_⟩) (by assumption) ?_
              rotate_left
              · intro w' hSw
                try dsimp only at hSw
                obtain ⟨hq0, hq1, hq2, hq3, hq4, hq5⟩ := hSw
                go_simp
                try with_reducible rfl
              try simp only [Act.put, List.setIfInBounds_toArray, List.set_cons_zero, List.set_cons_succ]
              refine wpAnyL_take (i := 13) (oi := _) (v := ?_) 16 rfl (by kernel_rfl) (fun _ _ _ h => h) (Or.inl ⟨by rfl, ?_⟩) (by assumption) ?_
              rotate_left
              · intro w' hSw
                try dsimp only at hSw
                obtain ⟨hq0, hq1, hq2, hq3, hq4, hq5⟩ := hSw
                go_simp
                try with_reducible rfl
              try simp only [Act.put, List.setIfInBounds_toArray, List.set_cons_zero, List.set_cons_succ]
              refine wpAnyL_one (i := 14) (o := _) rfl (by kernel_rfl) (fun K hK => ?_)
              refine step_call rfl 72 _ _ rfl #[.agg #[.int .i64 (D.blocks.2 q).stamp, .slice ao0 (D.blocks.2 q).bytes.1 cap0]] ?_ Tryz.func72 (by kernel_rfl) (by kernel_rfl) CC ?_; (simp [Act.eval, Act.put]); rintro ee w5 ⟨bo, bcc, rfl, o5, b5'⟩; have b5w : Below wz.heap.size wz w5 := ⟨b5'.os, b5'.tape, b5'.output, b5'.size, b5'.block⟩; have q1 : w5.cell? ⟨wx.heap.size, 1, none⟩ = some (.slice ba q bc) := (HX3.out.call b5w).cell 1; have q3 := (cell_alloc_old w5 (.cells #[.int .i64 (D.blocks.2 q).stamp, .slice bo (D.blocks.2 q).bytes.1 bcc] 108) wx.heap.size 1 (by have := b5w.size; omega)).trans q1; refine ⟨_, rfl, ?_⟩
              refine hK.out _ _ (KS _ (b5w.mono (Nat.succ_le_of_lt zz))) (fun hHeld => ?_)
              clear hK K
              try simp only [Act.put, List.setIfInBounds_toArray, List.set_cons_zero, List.set_cons_succ]
              refine wpAnyL_one (i := 15) (o := _) rfl (by kernel_rfl) (fun K hK => ?_)
              go_simp
              refine hK.out _ _ (KS _ ((b5w.mono (Nat.succ_le_of_lt zz)).alloc (by have := b5w.size; omega) _)) (fun hHeld => ?_)
              clear hK K
              try simp only [Act.put, List.setIfInBounds_toArray, List.set_cons_zero, List.set_cons_succ]
              refine wpAnyL_one (i := 16) (o := _) rfl (by kernel_rfl) (fun K hK => ?_)
              refine step_appendN el_Block rfl (.tmp 55) (.tmp 69) rfl (lo := wx.heap.size + 1) (n := q) (v := .slice ba q bc) (x := D.blocks.2) ?_ HG3.out b5w o5 ?_ w5.heap.size 1 ?_ (fun j _ => cells_new w5 _ _ j) (by omega) (by omega) ?_; (simp [Act.eval, Act.put]); (exact (Below.refl _ _).alloc (Nat.le_refl _) _); (simp [Act.eval, Act.put]); intro v4 w4 g4 b4; obtain ⟨ba4, bc4, rfl⟩ := g4.form; have X4 := HX3.out.below b4 (Nat.lt_succ_self _); have p1 : w4.cell? ⟨wx.heap.size, 1, none⟩ = some (.slice ba q bc) := X4.cell 1; have p2 : w4.frozen? ⟨wx.heap.size, 1, none⟩ = false := X4.frozen 1
              refine hK.out _ _ (KS _ b4) (fun hHeld => ?_)
              clear hK K
              try simp only [Act.put, List.setIfInBounds_toArray, List.set_cons_zero, List.set_cons_succ]
              refine wpAnyL_one (i := 17) (o := _) rfl (by kernel_rfl) (fun K hK => ?_)
              go_simp
              refine hK.out _ _ (KS _ b4) (fun hHeld => ?_)
              clear hK K
              try simp only [Act.put, List.setIfInBounds_toArray, List.set_cons_zero, List.set_cons_succ]
              refine wpAnyL_last (o := _) rfl (by kernel_rfl) (fun K hK => ?_)
              go_simp
              refine hK.out _ _ ?_
              clear hK K
              try simp only [Act.put, List.setIfInBounds_toArray, List.set_cons_zero, List.set_cons_succ]
              refine wpAnyL_done (by kernel_rfl) ?_ _
              go_wp2
              go_roundw
              case rel => exact ⟨q + 1, ba4, bc4, by omega, by go_num, X4.setc 1 (.slice ba4 (q + 1) bc4), (g4.set _ _ _ (Nat.lt_succ_self _)).congr (fun i _ => by rw [upd_self]), (HB3.out.trans (b4.mono (Nat.le_succ _))).setCell (Nat.le_refl _) _⟩
              case measure => simp [intOf]; omega
            · obtain rfl : q = D.blocks.1 := by omega
              have OD : OwnT layDrive wz wx.heap.size wz.heap.size D [.bool D.wiped, .slice ba D.blocks.1 bc] := drive_of' (HG3.out.own.weaken (Nat.le_succ _) (Nat.le_refl _))
              clear X3 G3 B3
              go_wp2_with (at_builtin; refine wp_appendN el_Drive rfl (.tmp 72) (.tmp 74) rfl (lo := wo.heap.size) (n := k) (v := .slice da k dc) (x := (d.groups.2 g).2) ?_ HG2'.out HB3.out OD ?_ wz.heap.size 1 ?_ (fun j _ => cells_new wz _ _ j) (by omega) (by omega) ?_; (simp [Act.eval]); (exact (Below.refl _ _).alloc (Nat.le_refl _) _); (simp [Act.eval]); intro v4 w4 g4 b4; obtain ⟨da4, dc4, rfl⟩ := g4.form)
              go_roundw
              case rel => exact ⟨k + 1, da4, dc4, by omega, by go_num, rfl, g4.congr (fun i _ => by rw [HD.out, upd_self]), HB2.out.trans b4⟩
              case measure => simp [intOf]; omega
        · obtain rfl : k = (d.groups.2 g).1 := by omega
          have OG : OwnT (layDrive.slice 106) wx wo.heap.size wx.heap.size (d.groups.2 g) [.slice da (d.groups.2 g).1 dc] := HG2'.out.own
          have T2 := HT1.out.call B2
          have e9 : wx.cell? ⟨w.heap.size + 1 + 1, 9, none⟩ = some (.slice ga g gc) := T2.b3.cell 9
          have e9' := (cell_alloc_old wx (.cells #[.slice da (d.groups.2 g).1 dc] 103) (w.heap.size + 1 + 1) 9 (by omega)).trans e9
          clear T2 G2 B2
          go_wp2_with (at_builtin; refine wp_appendN el_DriveS rfl (.tmp 77) (.tmp 79) rfl (lo := w.heap.size + 1 + 1 + 1) (n := g) (v := .slice ga g gc) (x := d.groups.2) ?_ HG1.out HB2.out OG ?_ wx.heap.size 1 ?_ (fun j _ => cells_new wx _ _ j) (by omega) (by omega) ?_; (simp [Act.eval]); (exact (Below.refl _ _).alloc (Nat.le_refl _) _); (simp [Act.eval]); intro v4 w4 g4 b4; obtain ⟨ga4, gc4, rfl⟩ := g4.form; have T4 := HT1.out.low b4; have p1 : w4.cell? ⟨w.heap.size + 1 + 1, 9, none⟩ = some (.slice ga g gc) := T4.b3.cell 9; have p2 : w4.frozen? ⟨w.heap.size + 1 + 1, 9, none⟩ = false := T4.b3.frozen 9)
          go_roundw
          case rel => exact ⟨g + 1, ga4, gc4, by omega, by go_num, T4.st3 9 [.slice ga4 (g + 1) gc4] rfl, (g4.set _ _ _ (by omega)).congr (fun i _ => by rw [upd_self])⟩
          case measure => simp [intOf]; omega
    · obtain rfl : g = d.groups.1 := by omega
      have bA : Below wo.heap.size wo (wo.alloc (.cells #[] 2)) := (Below.refl _ _).alloc (Nat.le_refl _) _
      have TA := T1.call bA
      obtain ⟨v', w2, hrun, o2, b2⟩ := run_appendRI 25 (wo.alloc (.cells #[] 2)) wo.heap.size (lit_row wo 2) (layInts.rd_below HG2.out TA.bel hhi) (show d.on.1 ≤ 10000000 by omega)
      obtain ⟨oa, oc, hv⟩ := ints_formT o2
      obtain rfl := one_eq hv
      clear hv
      have T2 : Three w w2 #[.int .i64 (d.shape 0), .int .i64 (d.shape 1), .int .i64 (d.shape 2), .int .i64 (d.shape 3), .int .i64 (d.shape 4), .int .i64 (d.shape 5), .int .i64 (d.shape 6), .int .i64 (d.shape 7), .int .i64 (d.shape 8), .slice ao1 d.groups.1 cap1, .slice ao2 d.on.1 cap2, .slice ao3 d.tapes.1 cap3, .int .i64 d.writes, .int .i64 d.stop, .bool d.down] #[.int .i64 0, .int .i64 0, .int .i64 0, .int .i64 0, .int .i64 0, .int .i64 0, .int .i64 0, .int .i64 0, .int .i64 0, .slice none 0 0, .slice none 0 0, .slice none 0 0, .int .i64 0, .int .i64 0, .bool false] #[.int .i64 (d.shape 0), .int .i64 (d.shape 1), .int .i64 (d.shape 2), .int .i64 (d.shape 3), .int .i64 (d.shape 4), .int .i64 (d.shape 5), .int .i64 (d.shape 6), .int .i64 (d.shape 7), .int .i64 (d.shape 8), .slice ga d.groups.1 gc, .slice ao2 d.on.1 cap2, .slice ao3 d.tapes.1 cap3, .int .i64 d.writes, .int .i64 d.stop, .bool d.down] 38 38 38 := TA.low (b2.mono zo)
      have G2 : Gat (layDrive.slice 106) 103 w2 (w.heap.size + 1 + 1 + 1) (.slice ga d.groups.1 gc) d.groups.1 d.groups.2 := by
        have h1 : Below wo.heap.size wo w2 := bA.trans b2
        exact G1.below h1
      have xa : (wo.alloc (.cells #[] 2)).cell? ⟨w.heap.size, 10, none⟩ = some (.slice ao2 d.on.1 cap2) := TA.b1.cell 10
      have xb : w2.cell? ⟨w.heap.size + 1 + 1, 10, none⟩ = some (.slice ao2 d.on.1 cap2) := T2.b3.cell 10
      have xf : w2.frozen? ⟨w.heap.size + 1 + 1, 10, none⟩ = false := T2.b3.frozen 10
      have T3 := T2.st3 10 [.slice oa d.on.1 oc] (c3' := [.int .i64 (d.shape 0), .int .i64 (d.shape 1), .int .i64 (d.shape 2), .int .i64 (d.shape 3), .int .i64 (d.shape 4), .int .i64 (d.shape 5), .int .i64 (d.shape 6), .int .i64 (d.shape 7), .int .i64 (d.shape 8), .slice ga d.groups.1 gc, .slice oa d.on.1 oc, .slice ao3 d.tapes.1 cap3, .int .i64 d.writes, .int .i64 d.stop, .bool d.down]) rfl
      have T4 : Three w (stN (stN w2 (w.heap.size + 1 + 1) 10 [.slice oa d.on.1 oc]) (w.heap.size + 1 + 1) 11 [.slice none 0 0]) #[.int .i64 (d.shape 0), .int .i64 (d.shape 1), .int .i64 (d.shape 2), .int .i64 (d.shape 3), .int .i64 (d.shape 4), .int .i64 (d.shape 5), .int .i64 (d.shape 6), .int .i64 (d.shape 7), .int .i64 (d.shape 8), .slice ao1 d.groups.1 cap1, .slice ao2 d.on.1 cap2, .slice ao3 d.tapes.1 cap3, .int .i64 d.writes, .int .i64 d.stop, .bool d.down] #[.int .i64 0, .int .i64 0, .int .i64 0, .int .i64 0, .int .i64 0, .int .i64 0, .int .i64 0, .int .i64 0, .int .i64 0, .slice none 0 0, .slice none 0 0, .slice none 0 0, .int .i64 0, .int .i64 0, .bool false] #[.int .i64 (d.shape 0), .int .i64 (d.shape 1), .int .i64 (d.shape 2), .int .i64 (d.shape 3), .int .i64 (d.shape 4), .int .i64 (d.shape 5), .int .i64 (d.shape 6), .int .i64 (d.shape 7), .int .i64 (d.shape 8), .slice ga d.groups.1 gc, .slice oa d.on.1 oc, .slice none 0 0, .int .i64 d.writes, .int .i64 d.stop, .bool d.down] 38 38 38 := T3.st3 11 [.slice none 0 0] (c3' := [.int .i64 (d.shape 0), .int .i64 (d.shape 1), .int .i64 (d.shape 2), .int .i64 (d.shape 3), .int .i64 (d.shape 4), .int .i64 (d.shape 5), .int .i64 (d.shape 6), .int .i64 (d.shape 7), .int .i64 (d.shape 8), .slice ga d.groups.1 gc, .slice oa d.on.1 oc, .slice none 0 0, .int .i64 d.writes, .int .i64 d.stop, .bool d.down]) rfl
      have O4 := (o2.stN (w.heap.size + 1 + 1) 10 [.slice oa d.on.1 oc] (by omega)).stN (w.heap.size + 1 + 1) 11 [.slice none 0 0] (by omega)
      have G4 : Gat (layDrive.slice 106) 103 (stN (stN w2 (w.heap.size + 1 + 1) 10 [.slice oa d.on.1 oc]) (w.heap.size + 1 + 1) 11 [.slice none 0 0]) (w.heap.size + 1 + 1 + 1) (.slice ga d.groups.1 gc) d.groups.1 d.groups.2 := (G2.set _ 10 _ (by omega)).set _ 11 _ (by omega)
      have xc : (w2.setCell ⟨w.heap.size + 1 + 1, 10, none⟩ (.slice oa d.on.1 oc)).cell? ⟨w.heap.size + 1 + 1, 11, none⟩ = some (.slice ao3 d.tapes.1 cap3) := T3.b3.cell 11
      have xg : (w2.setCell ⟨w.heap.size + 1 + 1, 10, none⟩ (.slice oa d.on.1 oc)).frozen? ⟨w.heap.size + 1 + 1, 11, none⟩ = false := T3.b3.frozen 11
      have z2 : wo.heap.size ≤ w2.heap.size := Nat.le_trans bA.size b2.size
      have ez : (stN (stN w2 (w.heap.size + 1 + 1) 10 [.slice oa d.on.1 oc]) (w.heap.size + 1 + 1) 11 [.slice none 0 0]).heap.size = w2.heap.size := by rw [stN_size, stN_size]
      have GO : OwnT ((layDrive.slice 106).slice 103) wo (w.heap.size + 1 + 1 + 1) wo.heap.size d.groups [.slice ga d.groups.1 gc] := G1.own
      have GO4 := ((GO.call (bA.trans b2)).stN (w.heap.size + 1 + 1) 10 [.slice oa d.on.1 oc] (by omega)).stN (w.heap.size + 1 + 1) 11 [.slice none 0 0] (by omega)
      clear T1 TA T2 T3 G1 G2 G4 o2 b2 bA GO
      go_upto_region 19 with (at_builtin; refine wp_run2 rfl (.tmp 82) (.tmp 84) rfl ?_ ?_ hrun ?_; (simp [Act.eval]); (simp [Act.eval]))
      obtain ⟨W4, hW4⟩ : ∃ x, x = stN (stN w2 (w.heap.size + 1 + 1) 10 [.slice oa d.on.1 oc]) (w.heap.size + 1 + 1) 11 [.slice none 0 0] := ⟨_, rfl⟩
      change Code.wp Tryz.prog _ _ _ (stN (stN w2 (w.heap.size + 1 + 1) 10 [.slice oa d.on.1 oc]) (w.heap.size + 1 + 1) 11 [.slice none 0 0])
      rw [← hW4] at T4 O4 GO4 ez ⊢
      have HT4 : Hid (Three w W4 #[.int .i64 (d.shape 0), .int .i64 (d.shape 1), .int .i64 (d.shape 2), .int .i64 (d.shape 3), .int .i64 (d.shape 4), .int .i64 (d.shape 5), .int .i64 (d.shape 6), .int .i64 (d.shape 7), .int .i64 (d.shape 8), .slice ao1 d.groups.1 cap1, .slice ao2 d.on.1 cap2, .slice ao3 d.tapes.1 cap3, .int .i64 d.writes, .int .i64 d.stop, .bool d.down] #[.int .i64 0, .int .i64 0, .int .i64 0, .int .i64 0, .int .i64 0, .int .i64 0, .int .i64 0, .int .i64 0, .int .i64 0, .slice none 0 0, .slice none 0 0, .slice none 0 0, .int .i64 0, .int .i64 0, .bool false] #[.int .i64 (d.shape 0), .int .i64 (d.shape 1), .int .i64 (d.shape 2), .int .i64 (d.shape 3), .int .i64 (d.shape 4), .int .i64 (d.shape 5), .int .i64 (d.shape 6), .int .i64 (d.shape 7), .int .i64 (d.shape 8), .slice ga d.groups.1 gc, .slice oa d.on.1 oc, .slice none 0 0, .int .i64 d.writes, .int .i64 d.stop, .bool d.down] 38 38 38) := T4
      have HO4 : Hid (OwnT layInts W4 wo.heap.size w2.heap.size d.on [.slice oa d.on.1 oc]) := O4
      have HGO : Hid (OwnT ((layDrive.slice 106).slice 103) W4 (w.heap.size + 1 + 1 + 1) wo.heap.size d.groups [.slice ga d.groups.1 gc]) := GO4
      clear T4 O4 GO4 hW4 xa xb xf xc xg hrun x9
      go_wp2
      go_loopw [9] (fun i wr => ∃ (t : Nat) (ta : Option Addr) (tc : Nat), t ≤ d.tapes.1 ∧ i = .int .i64 t ∧ Box wr (w.heap.size + 1 + 1) #[.int .i64 (d.shape 0), .int .i64 (d.shape 1), .int .i64 (d.shape 2), .int .i64 (d.shape 3), .int .i64 (d.shape 4), .int .i64 (d.shape 5), .int .i64 (d.shape 6), .int .i64 (d.shape 7), .int .i64 (d.shape 8), .slice ga d.groups.1 gc, .slice oa d.on.1 oc, .slice ta t tc, .int .i64 d.writes, .int .i64 d.stop, .bool d.down] 38 ∧ Gat layTape 112 wr W4.heap.size (.slice ta t tc) t d.tapes.2 ∧ ChgL [w.heap.size + 1 + 1] W4 wr) (fun i _ => d.tapes.1 - (intOf i).toNat)
      case atStart => exact ⟨0, none, 0, Nat.zero_le _, rfl, HT4.out.b3, Gat.nil _ _ _, ChgL.refl _ _⟩
      case round =>
        obtain ⟨t, ta, tc, ht, rfl, X5, G5, C5⟩ := hrel
        obtain ⟨wx, rfl⟩ : ∃ x, x = wr := ⟨_, rfl⟩
        have T5 : Three w wx #[.int .i64 (d.shape 0), .int .i64 (d.shape 1), .int .i64 (d.shape 2), .int .i64 (d.shape 3), .int .i64 (d.shape 4), .int .i64 (d.shape 5), .int .i64 (d.shape 6), .int .i64 (d.shape 7), .int .i64 (d.shape 8), .slice ao1 d.groups.1 cap1, .slice ao2 d.on.1 cap2, .slice ao3 d.tapes.1 cap3, .int .i64 d.writes, .int .i64 d.stop, .bool d.down] #[.int .i64 0, .int .i64 0, .int .i64 0, .int .i64 0, .int .i64 0, .int .i64 0, .int .i64 0, .int .i64 0, .int .i64 0, .slice none 0 0, .slice none 0 0, .slice none 0 0, .int .i64 0, .int .i64 0, .bool false] #[.int .i64 (d.shape 0), .int .i64 (d.shape 1), .int .i64 (d.shape 2), .int .i64 (d.shape 3), .int .i64 (d.shape 4), .int .i64 (d.shape 5), .int .i64 (d.shape 6), .int .i64 (d.shape 7), .int .i64 (d.shape 8), .slice ga d.groups.1 gc, .slice oa d.on.1 oc, .slice ta t tc, .int .i64 d.writes, .int .i64 d.stop, .bool d.down] 38 38 38 := HT4.out.chgl3 _ X5 C5
        have HT5 : Hid (Three w wx #[.int .i64 (d.shape 0), .int .i64 (d.shape 1), .int .i64 (d.shape 2), .int .i64 (d.shape 3), .int .i64 (d.shape 4), .int .i64 (d.shape 5), .int .i64 (d.shape 6), .int .i64 (d.shape 7), .int .i64 (d.shape 8), .slice ao1 d.groups.1 cap1, .slice ao2 d.on.1 cap2, .slice ao3 d.tapes.1 cap3, .int .i64 d.writes, .int .i64 d.stop, .bool d.down] #[.int .i64 0, .int .i64 0, .int .i64 0, .int .i64 0, .int .i64 0, .int .i64 0, .int .i64 0, .int .i64 0, .int .i64 0, .slice none 0 0, .slice none 0 0, .slice none 0 0, .int .i64 0, .int .i64 0, .bool false] #[.int .i64 (d.shape 0), .int .i64 (d.shape 1), .int .i64 (d.shape 2), .int .i64 (d.shape 3), .int .i64 (d.shape 4), .int .i64 (d.shape 5), .int .i64 (d.shape 6), .int .i64 (d.shape 7), .int .i64 (d.shape 8), .slice ga d.groups.1 gc, .slice oa d.on.1 oc, .slice ta t tc, .int .i64 d.writes, .int .i64 d.stop, .bool d.down] 38 38 38) := T5
        have HG5 : Hid (Gat layTape 112 wx W4.heap.size (.slice ta t tc) t d.tapes.2) := G5
        have HC5 : Hid (ChgL [w.heap.size + 1 + 1] W4 wx) := C5
        have zx : W4.heap.size ≤ wx.heap.size := C5.size
        have x11 : wx.cell? ⟨w.heap.size, 11, none⟩ = some (.slice ao3 d.tapes.1 cap3) := T5.b1.cell 11
        have e11 : wx.cell? ⟨w.heap.size + 1 + 1, 11, none⟩ = some (.slice ta t tc) := T5.b3.cell 11
        by_cases hlt : t < d.tapes.1
        · obtain ⟨b3, off3, he3, hb3, hel3⟩ := HC3.out (by omega)
          subst he3
          obtain ⟨ct, hrt, hct⟩ := elem_rd (t := 0) hel3 T5.bel hhi hb3 hlt
          obtain ⟨ao7, cap7, rfl, g7⟩ := Tape_rd hrt
          have c0 : wx.cell? ⟨b3, off3 + t * 2, none⟩ = some (.bool (d.tapes.2 t).wiped) := hct 0 (by decide)
          have c1 : wx.cell? ⟨b3, off3 + t * 2 + 1, none⟩ = some (.slice ao7 (d.tapes.2 t).recs.1 cap7) := hct 1 (by decide)
          have HCA : Hid (wx.cell? ⟨b3, off3 + t * 2, none⟩ = some (.bool (d.tapes.2 t).wiped)) := c0
          have CC := l5CopyRecs_is _ (d.tapes.2 t).recs hi wx.drew ((layRec.slice 43).rd_below (B := hi) g7 ⟨rfl, rfl, rfl, Nat.le_refl _, fun _ _ => rfl⟩ (Nat.le_refl _)) (show hi ≤ wx.heap.size by omega) (HNT.out t hlt)
          have CC := CC.mono (R' := fun e w' => ∃ ra rc, e = .returned (.slice ra (d.tapes.2 t).recs.1 rc) ∧ OwnT (layRec.slice 43) w' wx.drew.heap.size w'.heap.size (d.tapes.2 t).recs [.slice ra (d.tapes.2 t).recs.1 rc] ∧ Below wx.drew.heap.size wx.drew w') (fun e w' ⟨v5, he, o5, b5'⟩ => by
            obtain ⟨ra, rc, hv5⟩ := sl_formT o5
            obtain rfl := one_eq hv5
            exact ⟨ra, rc, he, o5, b5'⟩)
          clear hel3 hct hrt g7 X5 G5 C5 T5
          have KS : ∀ w', Below (w.heap.size + 1 + 1 + 1) wx w' → (w'.cell? ⟨w.heap.size, 11, none⟩ = some (.slice (some ⟨b3, off3, none⟩) d.tapes.1 cap3) ∧ w'.cell? ⟨b3, off3 + t * 2, none⟩ = some (.bool (d.tapes.2 t).wiped) ∧ w'.cell? ⟨b3, off3 + t * 2 + 1, none⟩ = some (.slice ao7 (d.tapes.2 t).recs.1 cap7) ∧ w'.cell? ⟨w.heap.size + 1 + 1, 11, none⟩ = some (.slice ta t tc)) := fun w' hb => ⟨(hb.cell (p := ⟨w.heap.size, 11, none⟩) (by show w.heap.size < w.heap.size + 1 + 1 + 1; omega)).trans x11, (hb.cell (p := ⟨b3, off3 + t * 2, none⟩) (by show b3 < w.heap.size + 1 + 1 + 1; omega)).trans c0, (hb.cell (p := ⟨b3, off3 + t * 2 + 1, none⟩) (by show b3 < w.heap.size + 1 + 1 + 1; omega)).trans c1, (hb.cell (p := ⟨w.heap.size + 1 + 1, 11, none⟩) (Nat.lt_succ_self _)).trans e11⟩
          have i1 : (0 : Int) ≤ (t : Int) := by omega
          have i2 : (t : Int) < (d.tapes.1 : Int) := by omega
          go_upto_region 22 with fail
          refine wp_region_L 19 (fun w' => w'.cell? ⟨w.heap.size, 11, none⟩ = some (.slice (some ⟨b3, off3, none⟩) d.tapes.1 cap3) ∧ w'.cell? ⟨b3, off3 + t * 2, none⟩ = some (.bool (d.tapes.2 t).wiped) ∧ w'.cell? ⟨b3, off3 + t * 2 + 1, none⟩ = some (.slice ao7 (d.tapes.2 t).recs.1 cap7) ∧ w'.cell? ⟨w.heap.size + 1 + 1, 11, none⟩ = some (.slice ta t tc)) (by kernel_rfl) (KS _ ⟨rfl, rfl, rfl, Nat.le_refl _, fun _ _ => rfl⟩) (fun hHeld => ?_)
          refine wpAnyL_take (i := 0) (oi := _) (v := ?_) 16 rfl (by kernel_rfl) (fun _ _ _ h => h) (Or.inl ⟨by rfl, ?_⟩) (by assumption) ?_
          rotate_left
          · intro w' hSw
            try dsimp only at hSw
            obtain ⟨hq0, hq1, hq2, hq3⟩ := hSw
            go_simp
            try with_reducible rfl
          try simp only [Act.put, List.setIfInBounds_toArray, List.set_cons_zero, List.set_cons_succ]
          refine wpAnyL_take (i := 1) (oi := _) (v := ?_) 16 rfl (by kernel_rfl) (fun _ _ _ h => h) (Or.inl ⟨by rfl, ?_⟩) (by assumption) ?_
          rotate_left
          · intro w' hSw
            try dsimp only at hSw
            obtain ⟨hq0, hq1, hq2, hq3⟩ := hSw
            go_simp
            try with_reducible rfl
          try simp only [Act.put, List.setIfInBounds_toArray, List.set_cons_zero, List.set_cons_succ]
          refine wpAnyL_take (i := 2) (oi := _) (v := ?_) 16 rfl (by kernel_rfl) (fun _ _ _ h => h) (Or.inl ⟨by rfl, ?_⟩) (by assumption) ?_
          rotate_left
          · intro w' hSw
            try dsimp only at hSw
            obtain ⟨hq0, hq1, hq2, hq3⟩ := hSw
            go_simp
            try with_reducible rfl
          try simp only [Act.put, List.setIfInBounds_toArray, List.set_cons_zero, List.set_cons_succ]
          refine wpAnyL_take (i := 3) (oi := _) (v := ?_) 16 rfl (by kernel_rfl) (fun _ _ _ h => h) (Or.inl ⟨by rfl, ?_⟩) (by assumption) ?_
          rotate_left
          · intro w' hSw
            try dsimp only at hSw
            obtain ⟨hq0, hq1, hq2, hq3⟩ := hSw
            go_simp
            try with_reducible rfl
          try simp only [Act.put, List.setIfInBounds_toArray, List.set_cons_zero, List.set_cons_succ]
          refine wpAnyL_take (i := 4) (oi := _) (v := ?_) 16 rfl (by kernel_rfl) (fun _ _ _ h => h) (Or.inl ⟨by rfl, ?_⟩) (by assumption) ?_
          rotate_left
          · intro w' hSw
            try dsimp only at hSw
            obtain ⟨hq0, hq1, hq2, hq3⟩ := hSw
            go_simp
            try with_reducible rfl
          try simp only [Act.put, List.setIfInBounds_toArray, List.set_cons_zero, List.set_cons_succ]
          refine wpAnyL_take (i := 5) (oi := _) (v := ?_) 16 rfl (by kernel_rfl) (fun _ _ _ h => h) (Or.inl ⟨by rfl, ?_⟩) (by assumption) ?_
          rotate_left
          · intro w' hSw
            try dsimp only at hSw
            obtain ⟨hq0, hq1, hq2, hq3⟩ := hSw
            go_simp
            try with_reducible rfl
          try simp only [Act.put, List.setIfInBounds_toArray, List.set_cons_zero, List.set_cons_succ]
          refine wpAnyL_take (i := 6) (oi := _) (v := ?_) 16 rfl (by kernel_rfl) (fun _ _ _ h => h) (Or.inl ⟨by rfl, ?_⟩) (by assumption) ?_
          rotate_left
          · intro w' hSw
            try dsimp only at hSw
            obtain ⟨hq0, hq1, hq2, hq3⟩ := hSw
            go_simp
            try with_reducible rfl
          try simp only [Act.put, List.setIfInBounds_toArray, List.set_cons_zero, List.set_cons_succ]
          refine wpAnyL_take (i := 7) (oi := _) (v := ?_) 16 rfl (by kernel_rfl) (fun _ _ _ h => h) (Or.inl ⟨by rfl, ?_⟩) (by assumption) ?_
          rotate_left
          · intro w' hSw
            try dsimp only at hSw
            obtain ⟨hq0, hq1, hq2, hq3⟩ := hSw
            go_simp
            try with_reducible rfl
          try simp only [Act.put, List.setIfInBounds_toArray, List.set_cons_zero, List.set_cons_succ]
          refine wpAnyL_take (i := 8) (oi := _) (v := ?_) 16 rfl (by kernel_rfl) (fun _ _ _ h => h) (Or.inl ⟨by rfl, ?_⟩) (by assumption) ?_
          rotate_left
          · intro w' hSw
            try dsimp only at hSw
            obtain ⟨hq0, hq1, hq2, hq3⟩ := hSw
            go_simp
            try with_reducible rfl
          try simp only [Act.put, List.setIfInBounds_toArray, List.set_cons_zero, List.set_cons_succ]
          refine wpAnyL_take (i := 9) (oi := _) (v := ?_) 16 rfl (by kernel_rfl) (fun _ _ _ h => h) (Or.inl ⟨by rfl, ?_⟩) (by assumption) ?_
          rotate_left
          · intro w' hSw
            try dsimp only at hSw
            obtain ⟨hq0, hq1, hq2, hq3⟩ := hSw
            go_simp
            try with_reducible rfl
          try simp only [Act.put, List.setIfInBounds_toArray, List.set_cons_zero, List.set_cons_succ]
          refine wpAnyL_take (i := 10) (oi := _) (v := ?_) 16 rfl (by kernel_rfl) (fun _ _ _ h => h) (Or.inl ⟨by rfl, ?_⟩) (by assumption) ?_
          rotate_left
          · intro w' hSw
            try dsimp only at hSw
            obtain ⟨hq0, hq1, hq2, hq3⟩ := hSw
            go_simp
            try with_reducible rfl
          try simp only [Act.put, List.setIfInBounds_toArray, List.set_cons_zero, List.set_cons_succ]
          refine wpAnyL_take (i := 11) (oi := _) (v := ?_) 16 rfl (by kernel_rfl) (fun _ _ _ h => h) (Or.inl ⟨by rfl, ?_⟩) (by assumption) ?_
          rotate_left
          · intro w' hSw
            try dsimp only at hSw
            obtain ⟨hq0, hq1, hq2, hq3⟩ := hSw
            go_simp
            try with_reducible rfl
          try simp only [Act.put, List.setIfInBounds_toArray, List.set_cons_zero, List.set_cons_succ]
          refine wpAnyL_take (i := 12) (oi := _) (v := ?_) 16 rfl (by kernel_rfl) (fun _ _ _ h => h) (Or.inl ⟨by rfl, ?_⟩) (by assumption) ?_
          rotate_left
          · intro w' hSw
            try dsimp only at hSw
            obtain ⟨hq0, hq1, hq2, hq3⟩ := hSw
            go_simp
            try with_reducible rfl
          try simp only [Act.put, List.setIfInBounds_toArray, List.set_cons_zero, List.set_cons_succ]
          refine wpAnyL_take (i := 13) (oi := _) (v := ?_) 16 rfl (by kernel_rfl) (fun _ _ _ h => h) (Or.inl ⟨by rfl, ?_⟩) (by assumption) ?_
          rotate_left
          · intro w' hSw
            try dsimp only at hSw
            obtain ⟨hq0, hq1, hq2, hq3⟩ := hSw
            go_simp
            try with_reducible rfl
          try simp only [Act.put, List.setIfInBounds_toArray, List.set_cons_zero, List.set_cons_succ]
          refine wpAnyL_one (i := 14) (o := _) rfl (by kernel_rfl) (fun K hK => ?_)
          refine step_call rfl 73 _ _ rfl #[.slice ao7 (d.tapes.2 t).recs.1 cap7] ?_ Tryz.func73 (by kernel_rfl) (by kernel_rfl) CC ?_; (simp [Act.eval, Act.put]); rintro ee w5 ⟨ra, rc, rfl, o5, b5'⟩; have b5w : Below wx.heap.size wx w5 := ⟨b5'.os, b5'.tape, b5'.output, b5'.size, b5'.block⟩; have T6 := HT5.out.call b5w; have q1 : w5.cell? ⟨w.heap.size + 1 + 1, 11, none⟩ = some (.slice ta t tc) := T6.b3.cell 11; have q3 := (cell_alloc_old w5 (.cells #[.bool (d.tapes.2 t).wiped, .slice ra (d.tapes.2 t).recs.1 rc] 112) (w.heap.size + 1 + 1) 11 (by have := b5w.size; omega)).trans q1; clear T6; refine ⟨_, rfl, ?_⟩
          refine hK.out _ _ (KS _ (b5w.mono (by omega))) (fun hHeld => ?_)
          clear hK K
          try simp only [Act.put, List.setIfInBounds_toArray, List.set_cons_zero, List.set_cons_succ]
          refine wpAnyL_take (i := 15) (oi := _) (v := ?_) 16 rfl (by kernel_rfl) (fun _ _ _ h => h) (Or.inl ⟨by rfl, ?_⟩) (by assumption) ?_
          rotate_left
          · intro w' hSw
            try dsimp only at hSw
            obtain ⟨hq0, hq1, hq2, hq3⟩ := hSw
            go_simp
            try with_reducible rfl
          try simp only [Act.put, List.setIfInBounds_toArray, List.set_cons_zero, List.set_cons_succ]
          refine wpAnyL_one (i := 16) (o := _) rfl (by kernel_rfl) (fun K hK => ?_)
          go_simp
          refine hK.out _ _ (KS _ ((b5w.mono (by omega)).alloc (by have := b5w.size; omega) _)) (fun hHeld => ?_)
          clear hK K
          try simp only [Act.put, List.setIfInBounds_toArray, List.set_cons_zero, List.set_cons_succ]
          refine wpAnyL_one (i := 17) (o := _) rfl (by kernel_rfl) (fun K hK => ?_)
          refine step_appendN el_Tape rfl (.tmp 96) (.tmp 111) rfl (lo := W4.heap.size) (n := t) (v := .slice ta t tc) (x := d.tapes.2) ?_ HG5.out b5w (tape_of' o5) ?_ w5.heap.size 1 ?_ (fun j _ => cells_new w5 _ _ j) (by omega) (by omega) ?_; (simp [Act.eval, Act.put]); (exact (Below.refl _ _).alloc (Nat.le_refl _) _); (simp [Act.eval, Act.put]); intro v4 w4 g4 b4; obtain ⟨ta4, tc4, rfl⟩ := g4.form; have X4 := HT5.out.b3.below b4 (by omega); have p1 : w4.cell? ⟨w.heap.size + 1 + 1, 11, none⟩ = some (.slice ta t tc) := X4.cell 11; have p2 : w4.frozen? ⟨w.heap.size + 1 + 1, 11, none⟩ = false := X4.frozen 11
          refine hK.out _ _ (KS _ (b4.mono (by omega))) (fun hHeld => ?_)
          clear hK K
          try simp only [Act.put, List.setIfInBounds_toArray, List.set_cons_zero, List.set_cons_succ]
          refine wpAnyL_one (i := 18) (o := _) rfl (by kernel_rfl) (fun K hK => ?_)
          go_simp
          refine hK.out _ _ (KS _ (b4.mono (by omega))) (fun hHeld => ?_)
          clear hK K
          try simp only [Act.put, List.setIfInBounds_toArray, List.set_cons_zero, List.set_cons_succ]
          refine wpAnyL_last (o := _) rfl (by kernel_rfl) (fun K hK => ?_)
          go_simp
          refine hK.out _ _ ?_
          clear hK K
          try simp only [Act.put, List.setIfInBounds_toArray, List.set_cons_zero, List.set_cons_succ]
          refine wpAnyL_done (by kernel_rfl) ?_ _
          go_wp2
          go_roundw
          case rel => exact ⟨t + 1, ta4, tc4, by omega, by go_num, X4.stL [.slice ta4 (t + 1) tc4] 11, (g4.set _ _ _ (by omega)).congr (fun i _ => by rw [upd_self]), (HC5.out.after b4).st (w.heap.size + 1 + 1) 11 _ (by simp)⟩
          case measure => simp [intOf]; omega
        · obtain rfl : t = d.tapes.1 := by omega
          clear X5 e11
          have F0 : OwnT layWorld wx (w.heap.size + 1 + 1 + 1) wx.heap.size d [.int .i64 (d.shape 0), .int .i64 (d.shape 1), .int .i64 (d.shape 2), .int .i64 (d.shape 3), .int .i64 (d.shape 4), .int .i64 (d.shape 5), .int .i64 (d.shape 6), .int .i64 (d.shape 7), .int .i64 (d.shape 8), .slice ga d.groups.1 gc, .slice oa d.on.1 oc, .slice ta d.tapes.1 tc, .int .i64 d.writes, .int .i64 d.stop, .bool d.down] := by
            have C5' := C5
            clear T5 G5 C5
            have F : OwnT layWorld wx (w.heap.size + 1 + 1 + 1) wx.heap.size d ([.int .i64 (d.shape 0), .int .i64 (d.shape 1), .int .i64 (d.shape 2), .int .i64 (d.shape 3), .int .i64 (d.shape 4), .int .i64 (d.shape 5), .int .i64 (d.shape 6), .int .i64 (d.shape 7), .int .i64 (d.shape 8)] ++ ([.slice ga d.groups.1 gc] ++ ([.slice oa d.on.1 oc] ++ ([.slice ta d.tapes.1 tc] ++ ([.int .i64 d.writes] ++ ([.int .i64 d.stop] ++ [.bool d.down])))))) := OwnT.conv (OwnT.pre (A := (layNums 9)) (a := d.shape) (c := [.int .i64 (d.shape 0), .int .i64 (d.shape 1), .int .i64 (d.shape 2), .int .i64 (d.shape 3), .int .i64 (d.shape 4), .int .i64 (d.shape 5), .int .i64 (d.shape 6), .int .i64 (d.shape 7), .int .i64 (d.shape 8)]) ⟨rfl, Q0.out, rfl⟩ (OwnT.two (HGO.out.chgl HC5.out (fun b hb => by simp at hb; omega)) (OwnT.two (HO4.out.chgl HC5.out (fun b hb => by simp at hb; omega)) (OwnT.two (HG5.out.own.weaken (show w2.heap.size ≤ W4.heap.size by omega) (Nat.le_refl _)) (OwnT.pre (A := layI) (a := d.writes) (c := [.int .i64 d.writes]) ⟨rfl, Q4.out, rfl⟩ (OwnT.pre (A := layI) (a := d.stop) (c := [.int .i64 d.stop]) ⟨rfl, Q5.out, rfl⟩ (OwnT.nil (A := layB) (a := d.down) (c := [.bool d.down]) ⟨rfl, trivial, rfl⟩ wx.heap.size wx.heap.size))) (Nat.le_refl _) (by omega) (Nat.le_refl _)) (by omega) (by omega) (by omega)) (by omega) (by omega) (by omega)))
            exact F
          have HF : Hid (OwnT layWorld wx (w.heap.size + 1 + 1 + 1) wx.heap.size d [.int .i64 (d.shape 0), .int .i64 (d.shape 1), .int .i64 (d.shape 2), .int .i64 (d.shape 3), .int .i64 (d.shape 4), .int .i64 (d.shape 5), .int .i64 (d.shape 6), .int .i64 (d.shape 7), .int .i64 (d.shape 8), .slice ga d.groups.1 gc, .slice oa d.on.1 oc, .slice ta d.tapes.1 tc, .int .i64 d.writes, .int .i64 d.stop, .bool d.down]) := F0
          clear G5 C5
          go_wp2_with (first | (refine wp_loadBox 38 (.tmp 3) rfl rfl (w.heap.size + 1 + 1) rfl (cs := [.int .i64 (d.shape 0), .int .i64 (d.shape 1), .int .i64 (d.shape 2), .int .i64 (d.shape 3), .int .i64 (d.shape 4), .int .i64 (d.shape 5), .int .i64 (d.shape 6), .int .i64 (d.shape 7), .int .i64 (d.shape 8), .slice ga d.groups.1 gc, .slice oa d.on.1 oc, .slice ta d.tapes.1 tc, .int .i64 d.writes, .int .i64 d.stop, .bool d.down]) T5.b3 Tryz.underlying38 size_W rfl ?_) | (refine wp_storeBox 38 _ _ rfl rfl (w.heap.size + 1) rfl (cs := [.int .i64 (d.shape 0), .int .i64 (d.shape 1), .int .i64 (d.shape 2), .int .i64 (d.shape 3), .int .i64 (d.shape 4), .int .i64 (d.shape 5), .int .i64 (d.shape 6), .int .i64 (d.shape 7), .int .i64 (d.shape 8), .slice ga d.groups.1 gc, .slice oa d.on.1 oc, .slice ta d.tapes.1 tc, .int .i64 d.writes, .int .i64 d.stop, .bool d.down]) (old := [.int .i64 0, .int .i64 0, .int .i64 0, .int .i64 0, .int .i64 0, .int .i64 0, .int .i64 0, .int .i64 0, .int .i64 0, .slice none 0 0, .slice none 0 0, .slice none 0 0, .int .i64 0, .int .i64 0, .bool false]) rfl T5.b2 size_W rfl rfl F0.one ?_; intro w9 X9 C9 z9))
          refine ret_box Tryz.results29 rfl X9 Tryz.underlying38 size_W rfl rfl ?_
          refine ⟨[.int .i64 (d.shape 0), .int .i64 (d.shape 1), .int .i64 (d.shape 2), .int .i64 (d.shape 3), .int .i64 (d.shape 4), .int .i64 (d.shape 5), .int .i64 (d.shape 6), .int .i64 (d.shape 7), .int .i64 (d.shape 8), .slice ga d.groups.1 gc, .slice oa d.on.1 oc, .slice ta d.tapes.1 tc, .int .i64 d.writes, .int .i64 d.stop, .bool d.down], rfl, ?_, ?_⟩
          · exact (HF.out.chgk C9 (fun b hb => by simp at hb; omega)).weaken (by omega) C9.size
          · exact T5.bel.trans (C9.bel (fun b hb => by simp at hb; omega) T5.bel.size)
end Go.Proofs.YthdknhjaohhfiaaGreat
