/- l7Append of the specification. -/
import Derived.Test.YthdknhjaohhfiaaGreatZPlayreau
import Derived.Test.YthdknhjaohhfiaaGreatZPlayreaj
import Derived.Test.YthdknhjaohhfiaaGreatZPlayrear
import Derived.Deep.DeepCutAuto
import Derived.Test.YthdknhjaohhfiaaGreatZPlayreat
import Derived.Test.YthdknhjaohhfiaaGreatZPlayreai
namespace Go.Proofs.YthdknhjaohhfiaaGreat
open Go.RowKit F256
set_option linter.unusedVariables false
set_option linter.unusedSimpArgs false
theorem cell_off (w : World) (b i j : Nat) (u : Value) (h : i ≠ j) : (w.setCell ⟨b, i, none⟩ u).cell? ⟨b, j, none⟩ = w.cell? ⟨b, j, none⟩ := by
  unfold World.setCell World.cell?
  simp only [Array.getElem?_modify]
  cases w.heap[b]? with
  | none => rfl
  | some o => cases o <;> simp [Array.getElem?_setIfInBounds, h]
theorem frozen_off (w : World) (a : Addr) (b : Addr) (u : Value) : (w.setCell a u).frozen? b = w.frozen? b := by
  unfold World.setCell World.frozen?
  simp only [Array.getElem?_modify]
  by_cases h : a.block = b.block
  · rw [if_pos h]
    cases w.heap[b.block]? with
    | none => rfl
    | some o => cases o <;> rfl
  · rw [if_neg h]
theorem setCell_comm (w : World) (b i j : Nat) (u v : Value) (h : i ≠ j) : (w.setCell ⟨b, i, none⟩ u).setCell ⟨b, j, none⟩ v = (w.setCell ⟨b, j, none⟩ v).setCell ⟨b, i, none⟩ u := by
  have hh : ((w.setCell ⟨b, i, none⟩ u).setCell ⟨b, j, none⟩ v).heap = ((w.setCell ⟨b, j, none⟩ v).setCell ⟨b, i, none⟩ u).heap := by
    unfold World.setCell
    apply Array.ext_getElem?
    intro k
    simp only [Array.getElem?_modify]
    split
    · cases w.heap[k]? with
      | none => rfl
      | some o => cases o <;> simp [Array.setIfInBounds_comm _ _ h]
    · rfl
  show ({ w with heap := ((w.setCell ⟨b, i, none⟩ u).setCell ⟨b, j, none⟩ v).heap } : World) = { w with heap := ((w.setCell ⟨b, j, none⟩ v).setCell ⟨b, i, none⟩ u).heap }
  rw [hh]
set_option maxHeartbeats 16000000 in
set_option maxRecDepth 20000 in
theorem l7Append_any (B : Nat) (d : WorldD) (K : List Nat) (T : Nat) (hT2 : T < 2) (r : RecD) (o6 o7 o8 : Option Addr) (k6 k7 k8 hi : Nat) (w : World) (hX : SpB w B d K) (hf : Fit3 1 d) (hr : layRec.rd w hi r [.int .i64 r.kind, .int .i64 r.seq, .string r.name, .int .i64 r.length, .int .i64 r.group, .int .i64 r.row, .slice o6 r.rows.1 k6, .slice o7 r.data.1 k7, .slice o8 r.delta.1 k8]) (hiB : hi ≤ B) (hhi : hi ≤ w.heap.size) (hsr : szRecD r ≤ 1048576) :
    Calls Tryz.prog 103 #[.pointer (some ⟨B, 0, none⟩), .int .i64 (T : Int), .agg #[.int .i64 r.kind, .int .i64 r.seq, .string r.name, .int .i64 r.length, .int .i64 r.group, .int .i64 r.row, .slice o6 r.rows.1 k6, .slice o7 r.data.1 k7, .slice o8 r.delta.1 k8]] w (SpP (appendF r T d) B w K) := by
  have T0 := one_new w #[.int .i64 r.kind, .int .i64 r.seq, .string r.name, .int .i64 r.length, .int .i64 r.group, .int .i64 r.row, .slice o6 r.rows.1 k6, .slice o7 r.data.1 k7, .slice o8 r.delta.1 k8] 43
  have X0 : SpB (w.alloc (.cells #[.int .i64 r.kind, .int .i64 r.seq, .string r.name, .int .i64 r.length, .int .i64 r.group, .int .i64 r.row, .slice o6 r.rows.1 k6, .slice o7 r.data.1 k7, .slice o8 r.delta.1 k8] 43)) B d K := by
    obtain ⟨cs, h1, h2⟩ := hX
    exact ⟨cs, h1.below T0.bel h1.lt, Lay.own_kept _ h2.own (fun b hk => T0.bel.block b (layWorld.own_lt h2.own b hk)), h2.nd, h2.ne⟩
  have CR := l5Raw_sp B d K _ X0 hf.up (by have := hf.low; have := hf.room; omega)
  have hBl0 := hX.lt
  have HF : Hid (Fit3 1 d) := hf
  have HRR : Hid (layRec.rd w hi r [.int .i64 r.kind, .int .i64 r.seq, .string r.name, .int .i64 r.length, .int .i64 r.group, .int .i64 r.row, .slice o6 r.rows.1 k6, .slice o7 r.data.1 k7, .slice o8 r.delta.1 k8]) := hr
  have HK : Hid (∀ b, b ∈ K → b < w.heap.size) := by
    obtain ⟨cs, h1, h2⟩ := hX
    exact fun b hb => layWorld.own_lt h2.own b hb
  clear hX hf hr X0
  go_enter Tryz.func103, Tryz.ntmps103
  go_wp2_with fail
  refine CR.mono ?_
  rintro e w5 (⟨hfl, rfl, ⟨K5, X5, s5⟩, C5⟩ | ⟨hfl, rfl, X5, C5⟩)
  · clear CR
    go_wp2
    go_ret
    have e : appendF r T d = .cut d := by unfold appendF rawO; rw [if_pos hfl]
    rw [e]
    exact ⟨rfl, K5, X5, fun b hb => .inl (s5 b hb), (ChgL.of_below T0.bel).trans (C5.mono (fun b hb => by simp at hb; simp [hb]))⟩
  · have HFL : Hid (¬ (d.stop ≠ -1 ∧ d.stop ≤ d.writes)) := hfl
    have z5 := C5.size
    have sA : (w.alloc (.cells #[.int .i64 r.kind, .int .i64 r.seq, .string r.name, .int .i64 r.length, .int .i64 r.group, .int .i64 r.row, .slice o6 r.rows.1 k6, .slice o7 r.data.1 k7, .slice o8 r.delta.1 k8] 43)).heap.size = w.heap.size + 1 := by simp
    have HC5 : Hid (ChgL (B :: K) w w5) := (ChgL.of_below T0.bel).trans (C5.mono (fun b hb => by simp at hb; simp [hb]))
    have Q5 := T0.b1.chgl C5 (by simp; omega)
    have bB5 : Below hi w w5 := (T0.bel.mono hhi).trans (C5.bel (fun b hb => by simp at hb; omega) (by omega))
    clear CR hfl C5
    obtain ⟨cs5, B5, O5⟩ := X5
    have O5d : EncO w5.drew B { d with writes := d.writes + 1 } cs5 K := O5.chg (ChgL.refl [B] _).drew
    obtain ⟨p1, c1, p2, c2, p3, c3, K1', K2', K3', rfl, rfl, WO⟩ := O5d.open
    have two := HF.out.two
    obtain ⟨gt, cap, ce, Ls, e3, eL, S3⟩ := slice_form WO.t (by show d.tapes.1 ≠ 0; omega)
    simp only [List.cons.injEq, Value.slice.injEq, and_true, true_and] at e3
    obtain ⟨rfl, rfl⟩ := e3
    subst eL
    have hT : T < d.tapes.1 := by omega
    have hn : (d.tapes.2 T).recs.1 ≤ 1048576 := by have := HF.out.few T hT2; omega
    have nd3 : (gt :: catN d.tapes.1 Ls).Nodup := (List.nodup_append.1 (List.nodup_append.1 WO.nd).2.1).2.1
    obtain ⟨ao9, cap9, K9, e9, eK9, o9⟩ := Tape_own (S3.each T hT)
    have nd9 : K9.Nodup := by rw [← eK9]; exact catN_each (List.nodup_cons.1 nd3).2 hT
    have inK : ∀ b, b ∈ gt :: catN d.tapes.1 Ls → b ∈ K1' ++ (K2' ++ (gt :: catN d.tapes.1 Ls)) := fun b hb => List.mem_append_right _ (List.mem_append_right _ hb)
    have in9 : ∀ b, b ∈ K9 → b ∈ gt :: catN d.tapes.1 Ls := fun b hb => SlO.sub T hT b (by rw [eK9]; exact hb)
    have hgt : gt ∉ K9 := fun hb => (List.nodup_cons.1 nd3).1 (mem_catN.2 ⟨T, hT, by rw [eK9]; exact hb⟩)
    have hB9 : B ∉ K9 := fun hb => O5.ne (inK _ (in9 _ hb))
    have hq9 : w.heap.size ∉ K9 := fun hb => by have := HK.out _ (inK _ (in9 _ hb)); omega
    have x11 : w5.drew.cell? ⟨B, 11, none⟩ = some (.slice (some ⟨gt, 0, none⟩) d.tapes.1 c3) := B5.cell 11
    have y0 : w5.drew.cell? ⟨gt, T * 2, none⟩ = some (.bool (d.tapes.2 T).wiped) := (S3.cell hT (j := 0) (by decide)).trans (by rw [e9]; rfl)
    have y1 : w5.drew.cell? ⟨gt, T * 2 + 1, none⟩ = some (.slice ao9 (d.tapes.2 T).recs.1 cap9) := (S3.cell hT (j := 1) (by decide)).trans (by rw [e9]; rfl)
    have hgl : gt < w5.drew.heap.size := S3.lt
    have hbl : B < w5.drew.heap.size := B5.lt
    have hql : w.heap.size < w5.drew.heap.size := Q5.lt
    have KS : ∀ w', ChgL K9 w5.drew w' → (w'.cell? ⟨B, 11, none⟩ = some (.slice (some ⟨gt, 0, none⟩) d.tapes.1 c3) ∧ w'.cell? ⟨gt, T * 2 + 1, none⟩ = some (.slice ao9 (d.tapes.2 T).recs.1 cap9) ∧ w'.cell? ⟨w.heap.size, 0, none⟩ = some (.int .i64 r.kind) ∧ w'.cell? ⟨w.heap.size, 1, none⟩ = some (.int .i64 r.seq) ∧ w'.cell? ⟨w.heap.size, 2, none⟩ = some (.string r.name) ∧ w'.cell? ⟨w.heap.size, 3, none⟩ = some (.int .i64 r.length) ∧ w'.cell? ⟨w.heap.size, 4, none⟩ = some (.int .i64 r.group) ∧ w'.cell? ⟨w.heap.size, 5, none⟩ = some (.int .i64 r.row) ∧ w'.cell? ⟨w.heap.size, 6, none⟩ = some (.slice o6 r.rows.1 k6) ∧ w'.cell? ⟨w.heap.size, 7, none⟩ = some (.slice o7 r.data.1 k7) ∧ w'.cell? ⟨w.heap.size, 8, none⟩ = some (.slice o8 r.delta.1 k8)) := fun w' hc => ⟨(World.cell?_of_block (hc.block B hbl hB9)).trans x11, (World.cell?_of_block (hc.block gt hgl hgt)).trans y1, (World.cell?_of_block (hc.block w.heap.size hql hq9)).trans (Q5.cell 0), (World.cell?_of_block (hc.block w.heap.size hql hq9)).trans (Q5.cell 1), (World.cell?_of_block (hc.block w.heap.size hql hq9)).trans (Q5.cell 2), (World.cell?_of_block (hc.block w.heap.size hql hq9)).trans (Q5.cell 3), (World.cell?_of_block (hc.block w.heap.size hql hq9)).trans (Q5.cell 4), (World.cell?_of_block (hc.block w.heap.size hql hq9)).trans (Q5.cell 5), (World.cell?_of_block (hc.block w.heap.size hql hq9)).trans (Q5.cell 6), (World.cell?_of_block (hc.block w.heap.size hql hq9)).trans (Q5.cell 7), (World.cell?_of_block (hc.block w.heap.size hql hq9)).trans (Q5.cell 8)⟩
    have CC := (l5CopyRec_is [.int .i64 r.kind, .int .i64 r.seq, .string r.name, .int .i64 r.length, .int .i64 r.group, .int .i64 r.row, .slice o6 r.rows.1 k6, .slice o7 r.data.1 k7, .slice o8 r.delta.1 k8] r hi w5.drew (layRec.rd_below HRR.out (⟨bB5.os, bB5.tape, bB5.output, bB5.size, bB5.block⟩ : Below hi w w5.drew) (Nat.le_refl _)) (Nat.le_trans hhi bB5.size) hsr).mono (R' := fun e w' => ∃ s6 m6 s7 m7 s8 m8, e = .returned (.agg #[.int .i64 r.kind, .int .i64 r.seq, .string r.name, .int .i64 r.length, .int .i64 r.group, .int .i64 r.row, .slice s6 r.rows.1 m6, .slice s7 r.data.1 m7, .slice s8 r.delta.1 m8]) ∧ OwnT layRec w' w5.drew.heap.size w'.heap.size r [.int .i64 r.kind, .int .i64 r.seq, .string r.name, .int .i64 r.length, .int .i64 r.group, .int .i64 r.row, .slice s6 r.rows.1 m6, .slice s7 r.data.1 m7, .slice s8 r.delta.1 m8] ∧ Below w5.drew.heap.size w5.drew w') (fun e w' ⟨cs', he, o5, b5⟩ => by
      obtain ⟨s6, m6, s7, m7, s8, m8, rfl⟩ := Rec_cellsT o5
      exact ⟨s6, m6, s7, m7, s8, m8, he, o5, b5⟩)
    have AP := fun (W : World) (hW : Below w5.drew.heap.size w5.drew W) (La : List Nat) (cs : List Value) (ha : layRec.own W r cs La) => app_rec o9 nd9 (Nat.le_trans hn (by decide)) hW ha
    have i1 : (0 : Int) ≤ (T : Int) := by omega
    have i2 : (T : Int) < (d.tapes.1 : Int) := by omega
    have HNE : Hid (B ∉ K1' ++ (K2' ++ (gt :: catN d.tapes.1 Ls))) := O5.ne
    have HBX : Hid (Box w5.drew B _ 38) := B5
    clear two O5d O5 B5
    go_upto_region 3 with fail
    refine wp_region_L 19 (fun w' => w'.cell? ⟨B, 11, none⟩ = some (.slice (some ⟨gt, 0, none⟩) d.tapes.1 c3) ∧ w'.cell? ⟨gt, T * 2 + 1, none⟩ = some (.slice ao9 (d.tapes.2 T).recs.1 cap9) ∧ w'.cell? ⟨w.heap.size, 0, none⟩ = some (.int .i64 r.kind) ∧ w'.cell? ⟨w.heap.size, 1, none⟩ = some (.int .i64 r.seq) ∧ w'.cell? ⟨w.heap.size, 2, none⟩ = some (.string r.name) ∧ w'.cell? ⟨w.heap.size, 3, none⟩ = some (.int .i64 r.length) ∧ w'.cell? ⟨w.heap.size, 4, none⟩ = some (.int .i64 r.group) ∧ w'.cell? ⟨w.heap.size, 5, none⟩ = some (.int .i64 r.row) ∧ w'.cell? ⟨w.heap.size, 6, none⟩ = some (.slice o6 r.rows.1 k6) ∧ w'.cell? ⟨w.heap.size, 7, none⟩ = some (.slice o7 r.data.1 k7) ∧ w'.cell? ⟨w.heap.size, 8, none⟩ = some (.slice o8 r.delta.1 k8)) (by kernel_rfl) (KS _ (ChgL.refl _ _)) (fun hHeld => ?_)
    refine wpAnyL_take (i := 0) (oi := _) (v := ?_) 16 rfl (by kernel_rfl) (fun _ _ _ h => h) (Or.inl ⟨by rfl, ?_⟩) (by assumption) ?_
    rotate_left
    · intro w' hSw
      try dsimp only at hSw
      obtain ⟨hq0, hq1, hq2, hq3, hq4, hq5, hq6, hq7, hq8, hq9, hq10⟩ := hSw
      go_simp
      try with_reducible rfl
    try simp only [Act.put, List.setIfInBounds_toArray, List.set_cons_zero, List.set_cons_succ]
    refine wpAnyL_take (i := 1) (oi := _) (v := ?_) 16 rfl (by kernel_rfl) (fun _ _ _ h => h) (Or.inl ⟨by rfl, ?_⟩) (by assumption) ?_
    rotate_left
    · intro w' hSw
      try dsimp only at hSw
      obtain ⟨hq0, hq1, hq2, hq3, hq4, hq5, hq6, hq7, hq8, hq9, hq10⟩ := hSw
      go_simp
      try with_reducible rfl
    try simp only [Act.put, List.setIfInBounds_toArray, List.set_cons_zero, List.set_cons_succ]
    refine wpAnyL_take (i := 2) (oi := _) (v := ?_) 16 rfl (by kernel_rfl) (fun _ _ _ h => h) (Or.inl ⟨by rfl, ?_⟩) (by assumption) ?_
    rotate_left
    · intro w' hSw
      try dsimp only at hSw
      obtain ⟨hq0, hq1, hq2, hq3, hq4, hq5, hq6, hq7, hq8, hq9, hq10⟩ := hSw
      go_simp
      try with_reducible rfl
    try simp only [Act.put, List.setIfInBounds_toArray, List.set_cons_zero, List.set_cons_succ]
    refine wpAnyL_take (i := 3) (oi := _) (v := ?_) 16 rfl (by kernel_rfl) (fun _ _ _ h => h) (Or.inl ⟨by rfl, ?_⟩) (by assumption) ?_
    rotate_left
    · intro w' hSw
      try dsimp only at hSw
      obtain ⟨hq0, hq1, hq2, hq3, hq4, hq5, hq6, hq7, hq8, hq9, hq10⟩ := hSw
      go_simp
      try with_reducible rfl
    try simp only [Act.put, List.setIfInBounds_toArray, List.set_cons_zero, List.set_cons_succ]
    refine wpAnyL_take (i := 4) (oi := _) (v := ?_) 16 rfl (by kernel_rfl) (fun _ _ _ h => h) (Or.inl ⟨by rfl, ?_⟩) (by assumption) ?_
    rotate_left
    · intro w' hSw
      try dsimp only at hSw
      obtain ⟨hq0, hq1, hq2, hq3, hq4, hq5, hq6, hq7, hq8, hq9, hq10⟩ := hSw
      go_simp
      try with_reducible rfl
    try simp only [Act.put, List.setIfInBounds_toArray, List.set_cons_zero, List.set_cons_succ]
    refine wpAnyL_take (i := 5) (oi := _) (v := ?_) 16 rfl (by kernel_rfl) (fun _ _ _ h => h) (Or.inl ⟨by rfl, ?_⟩) (by assumption) ?_
    rotate_left
    · intro w' hSw
      try dsimp only at hSw
      obtain ⟨hq0, hq1, hq2, hq3, hq4, hq5, hq6, hq7, hq8, hq9, hq10⟩ := hSw
      go_simp
      try with_reducible rfl
    try simp only [Act.put, List.setIfInBounds_toArray, List.set_cons_zero, List.set_cons_succ]
    refine wpAnyL_take (i := 6) (oi := _) (v := ?_) 16 rfl (by kernel_rfl) (fun _ _ _ h => h) (Or.inl ⟨by rfl, ?_⟩) (by assumption) ?_
    rotate_left
    · intro w' hSw
      try dsimp only at hSw
      obtain ⟨hq0, hq1, hq2, hq3, hq4, hq5, hq6, hq7, hq8, hq9, hq10⟩ := hSw
      go_simp
      try with_reducible rfl
    try simp only [Act.put, List.setIfInBounds_toArray, List.set_cons_zero, List.set_cons_succ]
    refine wpAnyL_take (i := 7) (oi := _) (v := ?_) 16 rfl (by kernel_rfl) (fun _ _ _ h => h) (Or.inl ⟨by rfl, ?_⟩) (by assumption) ?_
    rotate_left
    · intro w' hSw
      try dsimp only at hSw
      obtain ⟨hq0, hq1, hq2, hq3, hq4, hq5, hq6, hq7, hq8, hq9, hq10⟩ := hSw
      go_simp
      try with_reducible rfl
    try simp only [Act.put, List.setIfInBounds_toArray, List.set_cons_zero, List.set_cons_succ]
    refine wpAnyL_take (i := 8) (oi := _) (v := ?_) 16 rfl (by kernel_rfl) (fun _ _ _ h => h) (Or.inl ⟨by rfl, ?_⟩) (by assumption) ?_
    rotate_left
    · intro w' hSw
      try dsimp only at hSw
      obtain ⟨hq0, hq1, hq2, hq3, hq4, hq5, hq6, hq7, hq8, hq9, hq10⟩ := hSw
      go_simp
      try with_reducible rfl
    try simp only [Act.put, List.setIfInBounds_toArray, List.set_cons_zero, List.set_cons_succ]
    refine wpAnyL_take (i := 9) (oi := _) (v := ?_) 16 rfl (by kernel_rfl) (fun _ _ _ h => h) (Or.inl ⟨by rfl, ?_⟩) (by assumption) ?_
    rotate_left
    · intro w' hSw
      try dsimp only at hSw
      obtain ⟨hq0, hq1, hq2, hq3, hq4, hq5, hq6, hq7, hq8, hq9, hq10⟩ := hSw
      go_simp
      try with_reducible rfl
    try simp only [Act.put, List.setIfInBounds_toArray, List.set_cons_zero, List.set_cons_succ]
    refine wpAnyL_take (i := 10) (oi := _) (v := ?_) 16 rfl (by kernel_rfl) (fun _ _ _ h => h) (Or.inl ⟨by rfl, ?_⟩) (by assumption) ?_
    rotate_left
    · intro w' hSw
      try dsimp only at hSw
      obtain ⟨hq0, hq1, hq2, hq3, hq4, hq5, hq6, hq7, hq8, hq9, hq10⟩ := hSw
      go_simp
      try with_reducible rfl
    try simp only [Act.put, List.setIfInBounds_toArray, List.set_cons_zero, List.set_cons_succ]
    refine wpAnyL_take (i := 11) (oi := _) (v := ?_) 16 rfl (by kernel_rfl) (fun _ _ _ h => h) (Or.inl ⟨by rfl, ?_⟩) (by assumption) ?_
    rotate_left
    · intro w' hSw
      try dsimp only at hSw
      obtain ⟨hq0, hq1, hq2, hq3, hq4, hq5, hq6, hq7, hq8, hq9, hq10⟩ := hSw
      go_simp
      try with_reducible rfl
    try simp only [Act.put, List.setIfInBounds_toArray, List.set_cons_zero, List.set_cons_succ]
    refine wpAnyL_take (i := 12) (oi := _) (v := ?_) 16 rfl (by kernel_rfl) (fun _ _ _ h => h) (Or.inl ⟨by rfl, ?_⟩) (by assumption) ?_
    rotate_left
    · intro w' hSw
      try dsimp only at hSw
      obtain ⟨hq0, hq1, hq2, hq3, hq4, hq5, hq6, hq7, hq8, hq9, hq10⟩ := hSw
      go_simp
      try with_reducible rfl
    try simp only [Act.put, List.setIfInBounds_toArray, List.set_cons_zero, List.set_cons_succ]
    refine wpAnyL_take (i := 13) (oi := _) (v := ?_) 16 rfl (by kernel_rfl) (fun _ _ _ h => h) (Or.inl ⟨by rfl, ?_⟩) (by assumption) ?_
    rotate_left
    · intro w' hSw
      try dsimp only at hSw
      obtain ⟨hq0, hq1, hq2, hq3, hq4, hq5, hq6, hq7, hq8, hq9, hq10⟩ := hSw
      go_simp
      try with_reducible rfl
    try simp only [Act.put, List.setIfInBounds_toArray, List.set_cons_zero, List.set_cons_succ]
    refine wpAnyL_one (i := 14) (o := _) rfl (by kernel_rfl) (fun KC hKC => ?_)
    refine step_call rfl 119 _ _ rfl #[.agg #[.int .i64 r.kind, .int .i64 r.seq, .string r.name, .int .i64 r.length, .int .i64 r.group, .int .i64 r.row, .slice o6 r.rows.1 k6, .slice o7 r.data.1 k7, .slice o8 r.delta.1 k8]] ?_ Tryz.func119 (by kernel_rfl) (by kernel_rfl) CC ?_; (simp [Act.eval, Act.put]); rintro ee w5a ⟨s6, m6, s7, m7, s8, m8, rfl, o5, b5⟩; have k5 := KS w5a (ChgL.of_below b5); have bA : Below w5a.heap.size w5a (w5a.alloc (.cells #[.int .i64 r.kind, .int .i64 r.seq, .string r.name, .int .i64 r.length, .int .i64 r.group, .int .i64 r.row, .slice s6 r.rows.1 m6, .slice s7 r.data.1 m7, .slice s8 r.delta.1 m8] 43)) := (Below.refl _ _).alloc (Nat.le_refl _) _; have kA := KS _ (ChgL.of_below (b5.trans (bA.mono b5.size))); obtain ⟨La, a1, a2, a3⟩ := o5; have e1 : Below w5.drew.heap.size w5.drew (w5a.alloc (.cells #[.int .i64 r.kind, .int .i64 r.seq, .string r.name, .int .i64 r.length, .int .i64 r.group, .int .i64 r.row, .slice s6 r.rows.1 m6, .slice s7 r.data.1 m7, .slice s8 r.delta.1 m8] 43)) := b5.trans (bA.mono b5.size); have e2 : layRec.own (w5a.alloc (.cells #[.int .i64 r.kind, .int .i64 r.seq, .string r.name, .int .i64 r.length, .int .i64 r.group, .int .i64 r.row, .slice s6 r.rows.1 m6, .slice s7 r.data.1 m7, .slice s8 r.delta.1 m8] 43)) r [.int .i64 r.kind, .int .i64 r.seq, .string r.name, .int .i64 r.length, .int .i64 r.group, .int .i64 r.row, .slice s6 r.rows.1 m6, .slice s7 r.data.1 m7, .slice s8 r.delta.1 m8] La := layRec.own_kept a1 (fun b hb => bA.block b (a3 b hb).2); have e3 : ∀ b, b ∈ La → w5.drew.heap.size ≤ b := fun b hb => (a3 b hb).1; have e4 := cells_new w5a [.int .i64 r.kind, .int .i64 r.seq, .string r.name, .int .i64 r.length, .int .i64 r.group, .int .i64 r.row, .slice s6 r.rows.1 m6, .slice s7 r.data.1 m7, .slice s8 r.delta.1 m8] 43; have e5 := AP (w5a.alloc (.cells #[.int .i64 r.kind, .int .i64 r.seq, .string r.name, .int .i64 r.length, .int .i64 r.group, .int .i64 r.row, .slice s6 r.rows.1 m6, .slice s7 r.data.1 m7, .slice s8 r.delta.1 m8] 43)) e1 La [.int .i64 r.kind, .int .i64 r.seq, .string r.name, .int .i64 r.length, .int .i64 r.group, .int .i64 r.row, .slice s6 r.rows.1 m6, .slice s7 r.data.1 m7, .slice s8 r.delta.1 m8] e2 a2 e3 w5a.heap.size e4; clear e1 e2 e3 e4; obtain ⟨s9, m9, w6, L', hrun, TT⟩ := e5; have k6' := KS w6 TT.chg; have f0 : w6.frozen? ⟨gt, T * 2, none⟩ = false := (World.frozen?_of_block (a := ⟨gt, T * 2, none⟩) (TT.chg.block gt S3.lt hgt)).trans (S3.frozen _); have f1 : w6.frozen? ⟨gt, T * 2 + 1, none⟩ = false := (World.frozen?_of_block (a := ⟨gt, T * 2 + 1, none⟩) (TT.chg.block gt S3.lt hgt)).trans (S3.frozen _); have t0 : w6.cell? ⟨gt, T * 2, none⟩ = some (.bool (d.tapes.2 T).wiped) := (World.cell?_of_block (a := ⟨gt, T * 2, none⟩) (TT.chg.block gt S3.lt hgt)).trans y0; have t1 : w6.cell? ⟨gt, T * 2 + 1, none⟩ = some (.slice ao9 (d.tapes.2 T).recs.1 cap9) := k6'.2.1; refine ⟨_, rfl, ?_⟩
    refine hKC.out _ _ (k5) (fun hHeld => ?_)
    clear hKC KC
    try simp only [Act.put, List.setIfInBounds_toArray, List.set_cons_zero, List.set_cons_succ]
    refine wpAnyL_one (i := 15) (o := _) rfl (by kernel_rfl) (fun KC hKC => ?_)
    go_simp
    refine hKC.out _ _ (kA) (fun hHeld => ?_)
    clear hKC KC
    try simp only [Act.put, List.setIfInBounds_toArray, List.set_cons_zero, List.set_cons_succ]
    refine wpAnyL_one (i := 16) (o := _) rfl (by kernel_rfl) (fun KC hKC => ?_)
    refine step_run2 rfl (.tmp 22) (.tmp 25) rfl ?_ ?_ hrun ?_; (simp [Act.eval, Act.put]); (simp [Act.eval, Act.put])
    refine hKC.out _ _ (k6') (fun hHeld => ?_)
    clear hKC KC
    try simp only [Act.put, List.setIfInBounds_toArray, List.set_cons_zero, List.set_cons_succ]
    refine wpAnyL_take (i := 17) (oi := _) (v := ?_) 16 rfl (by kernel_rfl) (fun _ _ _ h => h) (Or.inl ⟨by rfl, ?_⟩) (by assumption) ?_
    rotate_left
    · intro w' hSw
      try dsimp only at hSw
      obtain ⟨hq0, hq1, hq2, hq3, hq4, hq5, hq6, hq7, hq8, hq9, hq10⟩ := hSw
      go_simp
      try with_reducible rfl
    try simp only [Act.put, List.setIfInBounds_toArray, List.set_cons_zero, List.set_cons_succ]
    refine wpAnyL_take (i := 18) (oi := _) (v := ?_) 16 rfl (by kernel_rfl) (fun _ _ _ h => h) (Or.inl ⟨by rfl, ?_⟩) (by assumption) ?_
    rotate_left
    · intro w' hSw
      try dsimp only at hSw
      obtain ⟨hq0, hq1, hq2, hq3, hq4, hq5, hq6, hq7, hq8, hq9, hq10⟩ := hSw
      go_simp
      try with_reducible rfl
    try simp only [Act.put, List.setIfInBounds_toArray, List.set_cons_zero, List.set_cons_succ]
    refine wpAnyL_last (o := _) rfl (by kernel_rfl) (fun KC hKC => ?_)
    go_simp
    refine hKC.out _ _ ?_
    clear hKC KC
    try simp only [Act.put, List.setIfInBounds_toArray, List.set_cons_zero, List.set_cons_succ]
    refine wpAnyL_done (by kernel_rfl) ?_ _
    have TK : Turn layTape w5.drew (Ls T) w6 (laidT (d.tapes.2 T) r) [.bool false, (.slice s9 ((d.tapes.2 T).recs.1 + 1) m9)] L' := by
      rw [eK9]
      exact ⟨Tape_mk (laidT (d.tapes.2 T) r) TT.own, TT.nd, TT.sub, TT.chg⟩
    have T7 := S3.turn_at nd3 hT TK (w' := (stN w6 gt (T * layTape.sz) [.bool false, (.slice s9 ((d.tapes.2 T).recs.1 + 1) m9)])) rfl
    have WO7 := WO.tapes (Nat.le_refl _) (Nat.zero_le _) T7
    have hin : ∀ b, b ∈ gt :: catN d.tapes.1 Ls → b ≠ B := fun b hb he => HNE.out (by rw [← he]; exact inK b hb)
    have X7 := HBX.out.chgl T7.chg (fun hb => hin B hb rfl)
    have sub7 : ∀ b, b ∈ K1' ++ (K2' ++ (gt :: catN d.tapes.1 (upd Ls T L'))) → b ∈ K1' ++ (K2' ++ (gt :: catN d.tapes.1 Ls)) ∨ w5.heap.size ≤ b := fun b hb => by
      rcases List.mem_append.1 hb with h | h
      · exact .inl (List.mem_append_left _ h)
      · rcases List.mem_append.1 h with h | h
        · exact .inl (List.mem_append_right _ (List.mem_append_left _ h))
        · rcases T7.sub b h with h | h
          · exact .inl (inK b h)
          · exact .inr h.1
    have hE7 : B ∉ K1' ++ (K2' ++ (gt :: catN d.tapes.1 (upd Ls T L'))) := fun hm => by
      rcases sub7 B hm with h | h
      · exact HNE.out h
      · have : B < w5.heap.size := hbl
        omega
    have O7 := WO7.encO hE7
    rw [List.append_nil] at O7
    have S7 : SpB (stN w6 gt (T * layTape.sz) [.bool false, (.slice s9 ((d.tapes.2 T).recs.1 + 1) m9)]) B ({ appendW d T r with writes := d.writes + 1 }) (K1' ++ (K2' ++ (gt :: catN d.tapes.1 (upd Ls T L')))) := by refine ⟨_, ?_, O7⟩; exact X7
    have C7 : ChgL (B :: (K1' ++ (K2' ++ (gt :: catN d.tapes.1 Ls)))) w (stN w6 gt (T * layTape.sz) [.bool false, (.slice s9 ((d.tapes.2 T).recs.1 + 1) m9)]) := (HC5.out.trans ((ChgL.refl _ _).drew)).trans (T7.chg.mono (fun b hb => List.mem_cons_of_mem _ (inK b hb)))
    have in0 : gt ≠ B := hin gt (List.mem_cons_self ..)
    have x11' : (w6.setCell ⟨gt, T * 2 + 1, none⟩ (.slice s9 ((d.tapes.2 T).recs.1 + 1) m9)).cell? ⟨B, 11, none⟩ = some (.slice (some ⟨gt, 0, none⟩) d.tapes.1 c3) := (World.cell?_of_block (heap_setCell_other w6 _ _ _ (fun h => in0 h.symm))).trans k6'.1
    have y0' : (w6.setCell ⟨gt, T * 2 + 1, none⟩ (.slice s9 ((d.tapes.2 T).recs.1 + 1) m9)).cell? ⟨gt, T * 2, none⟩ = some (.bool (d.tapes.2 T).wiped) := (cell_off w6 gt (T * 2 + 1) (T * 2) _ (by omega)).trans t0
    have f0' : (w6.setCell ⟨gt, T * 2 + 1, none⟩ (.slice s9 ((d.tapes.2 T).recs.1 + 1) m9)).frozen? ⟨gt, T * 2, none⟩ = false := (frozen_off w6 _ _ _).trans f0
    have e8 : (w6.setCell ⟨gt, T * 2 + 1, none⟩ (.slice s9 ((d.tapes.2 T).recs.1 + 1) m9)).setCell ⟨gt, T * 2, none⟩ (.bool false) = (stN w6 gt (T * layTape.sz) [.bool false, (.slice s9 ((d.tapes.2 T).recs.1 + 1) m9)]) := setCell_comm w6 gt (T * 2 + 1) (T * 2) _ _ (by omega)
    have HS8 : Hid (∀ b, b ∈ K1' ++ (K2' ++ (gt :: catN d.tapes.1 (upd Ls T L'))) → b ∈ K1' ++ (K2' ++ (gt :: catN d.tapes.1 Ls)) ∨ w.heap.size ≤ b) := fun b hb => by
      rcases sub7 b hb with h | h
      · exact .inl h
      · exact .inr (by omega)
    have HE : Hid (appendF r T d = .done 0 { appendW d T r with writes := d.writes + 1 }) := by show _ = _; unfold appendF rawO; rw [if_neg HFL.out]
    clear WO7 T7 TK TT WO S3 nd3 e9 eK9 o9 KS CC AP k5 kA k6' hrun nd9 t0 t1 f0 f1 y0 y1 O7 X7
    obtain ⟨W8, hW8⟩ : ∃ x, x = (w6.setCell ⟨gt, T * 2 + 1, none⟩ (.slice s9 ((d.tapes.2 T).recs.1 + 1) m9)) := ⟨_, rfl⟩
    obtain ⟨W7, hW7⟩ : ∃ x, x = (stN w6 gt (T * layTape.sz) [.bool false, (.slice s9 ((d.tapes.2 T).recs.1 + 1) m9)]) := ⟨_, rfl⟩
    rw [← hW8] at x11' y0' f0' e8 ⊢
    rw [← hW7] at S7 C7 e8
    have HS7 : Hid (SpB W7 B ({ appendW d T r with writes := d.writes + 1 }) (K1' ++ (K2' ++ (gt :: catN d.tapes.1 (upd Ls T L'))))) := S7
    have HC7 : Hid (ChgL (B :: (K1' ++ (K2' ++ (gt :: catN d.tapes.1 Ls)))) w W7) := C7
    clear hW8 hW7 S7 C7
    go_wp2
    go_ret
    rw [HE.out]
    exact ⟨rfl, _, HS7.out, HS8.out, HC7.out⟩
end Go.Proofs.YthdknhjaohhfiaaGreat

namespace Go.Proofs.YthdknhjaohhfiaaGreat
open Go.RowKit F256
set_option linter.unusedVariables false
set_option linter.unusedSimpArgs false
set_option maxHeartbeats 8000000 in
set_option maxRecDepth 20000 in
theorem l7Told_is (v0 v1 v2 v3 v4 v5 v6 v7 v8 vp0 vl0 vq0 vp1 vl1 vq1 vp2 vl2 vq2 v9 v10 vb : _) (b : Bool) (w : World) (h1 : ∀ x, x ∈ ([.int .i64 v0, .int .i64 v1, .int .i64 v2, .int .i64 v3, .int .i64 v4, .int .i64 v5, .int .i64 v6, .int .i64 v7, .int .i64 v8, .slice vp0 vl0 vq0, .slice vp1 vl1 vq1, .slice vp2 vl2 vq2, .int .i64 v9, .int .i64 v10, .bool vb] : List Value) → x.oneCell' = true) :
    Calls Tryz.prog 31 #[.agg #[.int .i64 v0, .int .i64 v1, .int .i64 v2, .int .i64 v3, .int .i64 v4, .int .i64 v5, .int .i64 v6, .int .i64 v7, .int .i64 v8, .slice vp0 vl0 vq0, .slice vp1 vl1 vq1, .slice vp2 vl2 vq2, .int .i64 v9, .int .i64 v10, .bool vb], .bool b] w fun e w' => e = .returned (.agg #[.int .i64 (if b = true then 0 else 9), .int .i64 v0, .int .i64 v1, .int .i64 v2, .int .i64 v3, .int .i64 v4, .int .i64 v5, .int .i64 v6, .int .i64 v7, .int .i64 v8, .slice vp0 vl0 vq0, .slice vp1 vl1 vq1, .slice vp2 vl2 vq2, .int .i64 v9, .int .i64 v10, .bool vb]) ∧ Below w.heap.size w w' := by
  have T0 := two_newb w #[.int .i64 v0, .int .i64 v1, .int .i64 v2, .int .i64 v3, .int .i64 v4, .int .i64 v5, .int .i64 v6, .int .i64 v7, .int .i64 v8, .slice vp0 vl0 vq0, .slice vp1 vl1 vq1, .slice vp2 vl2 vq2, .int .i64 v9, .int .i64 v10, .bool vb] #[.int .i64 0, .int .i64 0, .int .i64 0, .int .i64 0, .int .i64 0, .int .i64 0, .int .i64 0, .int .i64 0, .int .i64 0, .int .i64 0, .slice none 0 0, .slice none 0 0, .slice none 0 0, .int .i64 0, .int .i64 0, .bool false] 38 40
  have o0 : ∀ c : Int, ∀ x, x ∈ ([.int .i64 c, .int .i64 v0, .int .i64 v1, .int .i64 v2, .int .i64 v3, .int .i64 v4, .int .i64 v5, .int .i64 v6, .int .i64 v7, .int .i64 v8, .slice vp0 vl0 vq0, .slice vp1 vl1 vq1, .slice vp2 vl2 vq2, .int .i64 v9, .int .i64 v10, .bool vb] : List Value) → x.oneCell' = true := fun c x hx => by
    rcases List.mem_cons.1 hx with rfl | h
    · rfl
    · exact h1 x h
  clear h1
  cases b with
  | true =>
    go_enter Tryz.func31, Tryz.ntmps31
    go_wp2_with (first | (refine wp_loadBox 38 (.tmp 2) rfl rfl (w.heap.size) rfl (cs := [.int .i64 v0, .int .i64 v1, .int .i64 v2, .int .i64 v3, .int .i64 v4, .int .i64 v5, .int .i64 v6, .int .i64 v7, .int .i64 v8, .slice vp0 vl0 vq0, .slice vp1 vl1 vq1, .slice vp2 vl2 vq2, .int .i64 v9, .int .i64 v10, .bool vb]) (T0.b1) Tryz.underlying38 size_W rfl ?_) | (refine wp_storeBox 40 _ _ rfl rfl (w.heap.size + 1) rfl (cs := [.int .i64 0, .int .i64 v0, .int .i64 v1, .int .i64 v2, .int .i64 v3, .int .i64 v4, .int .i64 v5, .int .i64 v6, .int .i64 v7, .int .i64 v8, .slice vp0 vl0 vq0, .slice vp1 vl1 vq1, .slice vp2 vl2 vq2, .int .i64 v9, .int .i64 v10, .bool vb]) (old := [.int .i64 0, .int .i64 0, .int .i64 0, .int .i64 0, .int .i64 0, .int .i64 0, .int .i64 0, .int .i64 0, .int .i64 0, .int .i64 0, .slice none 0 0, .slice none 0 0, .slice none 0 0, .int .i64 0, .int .i64 0, .bool false]) rfl T0.b2 size_WR rfl rfl (o0 0) ?_; intro w9 X9 C9 z9))
    refine ret_box Tryz.results31 rfl X9 Tryz.underlying40 size_WR rfl rfl ?_
    exact ⟨rfl, T0.bel.trans (C9.bel (fun b hb => by simp at hb; omega) T0.bel.size)⟩
  | false =>
    go_enter Tryz.func31, Tryz.ntmps31
    go_wp2_with (first | (refine wp_loadBox 38 (.tmp 2) rfl rfl (w.heap.size) rfl (cs := [.int .i64 v0, .int .i64 v1, .int .i64 v2, .int .i64 v3, .int .i64 v4, .int .i64 v5, .int .i64 v6, .int .i64 v7, .int .i64 v8, .slice vp0 vl0 vq0, .slice vp1 vl1 vq1, .slice vp2 vl2 vq2, .int .i64 v9, .int .i64 v10, .bool vb]) (T0.b1) Tryz.underlying38 size_W rfl ?_) | (refine wp_storeBox 40 _ _ rfl rfl (w.heap.size + 1) rfl (cs := [.int .i64 9, .int .i64 v0, .int .i64 v1, .int .i64 v2, .int .i64 v3, .int .i64 v4, .int .i64 v5, .int .i64 v6, .int .i64 v7, .int .i64 v8, .slice vp0 vl0 vq0, .slice vp1 vl1 vq1, .slice vp2 vl2 vq2, .int .i64 v9, .int .i64 v10, .bool vb]) (old := [.int .i64 0, .int .i64 0, .int .i64 0, .int .i64 0, .int .i64 0, .int .i64 0, .int .i64 0, .int .i64 0, .int .i64 0, .int .i64 0, .slice none 0 0, .slice none 0 0, .slice none 0 0, .int .i64 0, .int .i64 0, .bool false]) rfl T0.b2 size_WR rfl rfl (o0 9) ?_; intro w9 X9 C9 z9))
    refine ret_box Tryz.results31 rfl X9 Tryz.underlying40 size_WR rfl rfl ?_
    exact ⟨rfl, T0.bel.trans (C9.bel (fun b hb => by simp at hb; omega) T0.bel.size)⟩
end Go.Proofs.YthdknhjaohhfiaaGreat

namespace Go.Proofs.YthdknhjaohhfiaaGreat
open Go.RowKit F256
set_option linter.unusedVariables false
set_option linter.unusedSimpArgs false
theorem SpP.after {o : Outc} {B : Nat} {w w1 w2 : World} {K K1 : List Nat} {e : Ending} (hk : ∀ b, b ∈ K1 → b ∈ K ∨ w.heap.size ≤ b) (hc : ChgL (B :: K) w w1) (h : SpP o B w1 K1 e w2) : SpP o B w K e w2 := by
  have hz := hc.size
  cases o with
  | done c d =>
    obtain ⟨h1, K', h2, h3, h4⟩ := h
    exact ⟨h1, K', h2, fun b hb => by
      rcases h3 b hb with h | h
      · exact hk b h
      · exact .inr (by omega), chg_more hc hk h4⟩
  | cut d =>
    obtain ⟨h1, K', h2, h3, h4⟩ := h
    exact ⟨h1, K', h2, fun b hb => by
      rcases h3 b hb with h | h
      · exact hk b h
      · exact .inr (by omega), chg_more hc hk h4⟩
theorem SpB.below {w w' : World} {B : Nat} {d : WorldD} {K : List Nat} (h : SpB w B d K) (hb : Below w.heap.size w w') : SpB w' B d K := by
  obtain ⟨cs, h1, h2⟩ := h
  exact ⟨cs, h1.below hb h1.lt, Lay.own_kept _ h2.own (fun b hk => hb.block b (layWorld.own_lt h2.own b hk)), h2.nd, h2.ne⟩
theorem SpB.Klt {w : World} {B : Nat} {d : WorldD} {K : List Nat} (h : SpB w B d K) : ∀ b, b ∈ K → b < w.heap.size := by
  obtain ⟨cs, _, h2⟩ := h
  exact fun b hb => layWorld.own_lt h2.own b hb
set_option maxHeartbeats 8000000 in
set_option maxRecDepth 20000 in
theorem l7Full_any (d : WorldD) (cs : List Value) (hi Bx : Nat) (w : World) (h : layWorld.rd w hi d cs) (hhi : hi ≤ w.heap.size) (hB : Box w Bx cs.toArray 38) (two : d.tapes.1 = 2) (few : ∀ T, T < 2 → (d.tapes.2 T).recs.1 ≤ 1000000) :
    Calls Tryz.prog 53 #[.pointer (some ⟨Bx, 0, none⟩), .int .i64 1] w fun e w' => ∃ t, e = .returned (.bool t) ∧ (t = true ↔ (200 < ((d.tapes.2 0).recs.1 : Int) + 1 ∨ 200 < ((d.tapes.2 1).recs.1 : Int) + 1)) ∧ w' = w := by
  obtain ⟨ao1, cap1, ao2, cap2, ao3, cap3, rfl, g1, g2, g3, k0, k4, k5⟩ := World_rd h
  obtain ⟨_, _, e3, hm3, hc3⟩ := g3
  cases e3
  obtain ⟨b3, off3, he3, hb3, hel3⟩ := hc3 (by omega)
  subst he3
  obtain ⟨ct0, hrt0, hct0⟩ := hel3 0 (by omega)
  obtain ⟨ct1, hrt1, hct1⟩ := hel3 1 (by omega)
  obtain ⟨ap, cp, rfl, -⟩ := Tape_rd hrt0
  obtain ⟨aq, cq, rfl, -⟩ := Tape_rd hrt1
  have x11 : w.cell? ⟨Bx, 11, none⟩ = some (.slice (some ⟨b3, off3, none⟩) d.tapes.1 cap3) := hB.cell 11
  have y0 : w.cell? ⟨b3, off3 + 1, none⟩ = some (.slice ap (d.tapes.2 0).recs.1 cp) := by have := hct0 1 (by decide); rw [show off3 + (0 * layTape.sz + 1) = off3 + 1 by simp] at this; exact this
  have y1 : w.cell? ⟨b3, off3 + 2 + 1, none⟩ = some (.slice aq (d.tapes.2 1).recs.1 cq) := by have := hct1 1 (by decide); rw [show off3 + (1 * layTape.sz + 1) = off3 + 2 + 1 by show off3 + (1 * 2 + 1) = _; omega] at this; exact this
  have f0 := few 0 (by decide)
  have f1 := few 1 (by decide)
  obtain ⟨n0, hn0⟩ : ∃ n, n = (d.tapes.2 0).recs.1 := ⟨_, rfl⟩
  obtain ⟨n1, hn1⟩ : ∃ n, n = (d.tapes.2 1).recs.1 := ⟨_, rfl⟩
  rw [← hn0] at y0 f0 ⊢
  rw [← hn1] at y1 f1 ⊢
  obtain ⟨nt, hnt⟩ : ∃ n, n = d.tapes.1 := ⟨_, rfl⟩
  rw [← hnt] at x11 two
  have j0 : (0 : Int) < (nt : Int) := by omega
  have j1 : (1 : Int) < (nt : Int) := by omega
  have w0 : IntKind.i64.wrap ((n0 : Int) + 1) = (n0 : Int) + 1 := by rw [IntKind.wrap_i64]; omega
  have w1 : IntKind.i64.wrap ((n1 : Int) + 1) = (n1 : Int) + 1 := by rw [IntKind.wrap_i64]; omega
  clear hn0 hn1 hnt g1 g2 k0 k4 k5 h hB hct0 hct1 hrt0 hrt1 hel3 hc3 hm3 two few
  obtain ⟨P, hP⟩ : ∃ P : Prop, P = (200 < (n0 : Int) + 1 ∨ 200 < (n1 : Int) + 1) := ⟨_, rfl⟩
  have HP : Hid (P = (200 < (n0 : Int) + 1 ∨ 200 < (n1 : Int) + 1)) := hP
  rw [← hP]
  clear hP
  by_cases c0 : 200 < (n0 : Int) + 1
  · have d0 : decide (200 < (n0 : Int) + 1) = true := decide_eq_true c0
    have HQ : Hid P := by rw [HP.out]; exact .inl c0
    clear c0
    go_enter Tryz.func53, Tryz.ntmps53
    go_wp2
    go_ret
    exact ⟨true, by simp [d0], ⟨fun _ => HQ.out, fun _ => rfl⟩, rfl⟩
  · have d0 : decide (200 < (n0 : Int) + 1) = false := decide_eq_false c0
    by_cases c1 : 200 < (n1 : Int) + 1
    · have d1 : decide (200 < (n1 : Int) + 1) = true := decide_eq_true c1
      have HQ : Hid P := by rw [HP.out]; exact .inr c1
      clear c0 c1
      go_enter Tryz.func53, Tryz.ntmps53
      go_wp2
      go_ret
      exact ⟨true, by simp [d1], ⟨fun _ => HQ.out, fun _ => rfl⟩, rfl⟩
    · have d1 : decide (200 < (n1 : Int) + 1) = false := decide_eq_false c1
      have HQ : Hid (¬ P) := by rw [HP.out]; exact fun h => h.elim c0 c1
      clear c0 c1
      go_enter Tryz.func53, Tryz.ntmps53
      go_wp2
      go_ret
      exact ⟨false, by simp [d1], ⟨fun h => (by cases h), fun h => absurd h HQ.out⟩, rfl⟩
set_option maxHeartbeats 8000000 in
set_option maxRecDepth 20000 in
theorem l7Lay_any (B : Nat) (d : WorldD) (K : List Nat) (r : RecD) (o6 o7 o8 : Option Addr) (k6 k7 k8 hi : Nat) (w : World) (hX : SpB w B d K) (hf : Fit3 2 d) (hr : layRec.rd w hi r [.int .i64 r.kind, .int .i64 r.seq, .string r.name, .int .i64 r.length, .int .i64 r.group, .int .i64 r.row, .slice o6 r.rows.1 k6, .slice o7 r.data.1 k7, .slice o8 r.delta.1 k8]) (hiB : hi ≤ B) (hiK : ∀ b, b ∈ K → hi ≤ b) (hhi : hi ≤ w.heap.size) (hsr : szRecD r ≤ 1048576) :
    Calls Tryz.prog 54 #[.pointer (some ⟨B, 0, none⟩), .agg #[.int .i64 r.kind, .int .i64 r.seq, .string r.name, .int .i64 r.length, .int .i64 r.group, .int .i64 r.row, .slice o6 r.rows.1 k6, .slice o7 r.data.1 k7, .slice o8 r.delta.1 k8]] w (SpP (runO (appendF r) 2 0 d) B w K) := by
  have T0 := one_new w #[.int .i64 r.kind, .int .i64 r.seq, .string r.name, .int .i64 r.length, .int .i64 r.group, .int .i64 r.row, .slice o6 r.rows.1 k6, .slice o7 r.data.1 k7, .slice o8 r.delta.1 k8] 43
  obtain ⟨W0, hW0⟩ : ∃ x, x = w.alloc (.cells #[.int .i64 r.kind, .int .i64 r.seq, .string r.name, .int .i64 r.length, .int .i64 r.group, .int .i64 r.row, .slice o6 r.rows.1 k6, .slice o7 r.data.1 k7, .slice o8 r.delta.1 k8] 43) := ⟨_, rfl⟩
  have sA : W0.heap.size = w.heap.size + 1 := by rw [hW0]; simp
  have C1 := l7Append_any B d K 0 (by decide) r o6 o7 o8 k6 k7 k8 hi W0 (by rw [hW0]; exact hX.below T0.bel) (hf.less (by decide)) (by rw [hW0]; exact layRec.rd_below hr T0.bel hhi) hiB (by omega) hsr
  have HX : Hid (SpB w B d K) := hX
  have HF : Hid (Fit3 2 d) := hf
  have HRR : Hid (layRec.rd w hi r [.int .i64 r.kind, .int .i64 r.seq, .string r.name, .int .i64 r.length, .int .i64 r.group, .int .i64 r.row, .slice o6 r.rows.1 k6, .slice o7 r.data.1 k7, .slice o8 r.delta.1 k8]) := hr
  have HIK : Hid (∀ b, b ∈ K → hi ≤ b) := hiK
  have hKl := hX.Klt
  have hBl := hX.lt
  clear hX hf hr hiK
  go_enter Tryz.func54, Tryz.ntmps54
  go_upto_region 1 with fail
  rw [← hW0] at T0 ⊢
  clear hW0
  obtain ⟨o1, ho1⟩ : ∃ x, x = appendF r 0 d := ⟨_, rfl⟩
  have HO1 : Hid (o1 = appendF r 0 d) := ho1
  rw [← ho1] at C1
  clear ho1
  cases o1 with
  | cut d2 =>
    have HE : Hid (runO (appendF r) 2 0 d = .cut d2) := by
      show (appendF r 0 d).next _ = _
      rw [← HO1.out]; rfl
    go_wp2_with (refine wp_loadBox 43 (.tmp 3) rfl rfl (w.heap.size) rfl (cs := [.int .i64 r.kind, .int .i64 r.seq, .string r.name, .int .i64 r.length, .int .i64 r.group, .int .i64 r.row, .slice o6 r.rows.1 k6, .slice o7 r.data.1 k7, .slice o8 r.delta.1 k8]) (T0.b1) Tryz.underlying43 size_Rc rfl ?_)
    refine C1.mono ?_
    rintro e w5 ⟨rfl, K5, X5, s5, C5⟩
    go_wp2
    go_ret
    rw [HE.out]
    exact SpP.after (o := .cut d2) (w1 := W0) (K1 := K) (e := .returned (.bool false)) (fun b hb => .inl hb) (ChgL.of_below T0.bel) ⟨rfl, K5, X5, s5, C5⟩
  | done c d2 =>
    have c0 : c = 0 := append_zero HO1.out.symm
    subst c0
    have HE : Hid (runO (appendF r) 2 0 d = appendF r 1 d2) := by
      show (appendF r 0 d).next (fun x => (appendF r 1 x).next (fun y => .done 0 y)) = _
      rw [← HO1.out]
      show (if (0 : Int) = 0 then (appendF r 1 d2).next (fun y => .done 0 y) else .done 0 d2) = _
      rw [if_pos rfl, next_done]
    have hf2 : Fit3 1 d2 := appendF_fit HF.out (by decide) HO1.out.symm
    have HF2 : Hid (Fit3 1 d2) := hf2
    clear hf2
    go_wp2_with (refine wp_loadBox 43 (.tmp 3) rfl rfl (w.heap.size) rfl (cs := [.int .i64 r.kind, .int .i64 r.seq, .string r.name, .int .i64 r.length, .int .i64 r.group, .int .i64 r.row, .slice o6 r.rows.1 k6, .slice o7 r.data.1 k7, .slice o8 r.delta.1 k8]) (T0.b1) Tryz.underlying43 size_Rc rfl ?_)
    refine C1.mono ?_
    rintro e w5 ⟨rfl, K5, X5, s5, C5⟩
    have Q5 := T0.b1.chgl C5 (fun hm => by
      rcases List.mem_cons.1 hm with h | h
      · omega
      · have := hKl _ h; omega)
    have z5 := C5.size
    have bh : Below hi w w5 := (T0.bel.mono hhi).trans (C5.bel (fun b hb => by
      rcases List.mem_cons.1 hb with h | h
      · omega
      · exact HIK.out b h) (by omega))
    have C2 := l7Append_any B d2 K5 1 (by decide) r o6 o7 o8 k6 k7 k8 hi w5 X5 HF2.out (layRec.rd_below HRR.out bh (Nat.le_refl _)) hiB (by omega) hsr
    have HS5 : Hid (∀ b, b ∈ K5 → b ∈ K ∨ W0.heap.size ≤ b) := s5
    have HC5 : Hid (ChgL (B :: K) W0 w5) := C5
    have HT0 : Hid (ChgL (B :: K) w W0) := ChgL.of_below T0.bel
    obtain ⟨o2, ho2⟩ : ∃ x, x = appendF r 1 d2 := ⟨_, rfl⟩
    have HO2 : Hid (o2 = appendF r 1 d2) := ho2
    rw [← ho2] at C2
    have q_0 : w5.cell? ⟨w.heap.size, 0, none⟩ = some (.int .i64 r.kind) := Q5.cell 0
    have q_1 : w5.cell? ⟨w.heap.size, 1, none⟩ = some (.int .i64 r.seq) := Q5.cell 1
    have q_2 : w5.cell? ⟨w.heap.size, 2, none⟩ = some (.string r.name) := Q5.cell 2
    have q_3 : w5.cell? ⟨w.heap.size, 3, none⟩ = some (.int .i64 r.length) := Q5.cell 3
    have q_4 : w5.cell? ⟨w.heap.size, 4, none⟩ = some (.int .i64 r.group) := Q5.cell 4
    have q_5 : w5.cell? ⟨w.heap.size, 5, none⟩ = some (.int .i64 r.row) := Q5.cell 5
    have q_6 : w5.cell? ⟨w.heap.size, 6, none⟩ = some (.slice o6 r.rows.1 k6) := Q5.cell 6
    have q_7 : w5.cell? ⟨w.heap.size, 7, none⟩ = some (.slice o7 r.data.1 k7) := Q5.cell 7
    have q_8 : w5.cell? ⟨w.heap.size, 8, none⟩ = some (.slice o8 r.delta.1 k8) := Q5.cell 8
    clear ho2 s5 C5 X5 C1 Q5 bh T0
    cases o2 with
    | cut d3 =>
      go_wp2_with (go_at_call 103; refine C2.mono ?_; rintro e w6 ⟨rfl, K6, X6, s6, C6⟩)
      go_ret
      rw [HE.out, ← HO2.out]
      exact SpP.after (o := .cut d3) (fun b hb => .inl hb) HT0.out (SpP.after (o := .cut d3) HS5.out HC5.out ⟨rfl, K6, X6, s6, C6⟩)
    | done c d3 =>
      go_wp2_with (go_at_call 103; refine C2.mono ?_; rintro e w6 ⟨rfl, K6, X6, s6, C6⟩)
      go_ret
      rw [HE.out, ← HO2.out]
      exact SpP.after (o := .done c d3) (fun b hb => .inl hb) HT0.out (SpP.after (o := .done c d3) HS5.out HC5.out ⟨rfl, K6, X6, s6, C6⟩)
end Go.Proofs.YthdknhjaohhfiaaGreat

namespace Go.Proofs.YthdknhjaohhfiaaGreat
open Go.RowKit F256
set_option linter.unusedVariables false
set_option linter.unusedSimpArgs false
theorem Three.chgK3 {w wc w' : World} {c1 c2 c3 : Array Value} {t1 t2 t3 : TypeId} {K : List Nat} (h : Three w wc c1 c2 c3 t1 t2 t3) (hc : ChgL K wc w') (hK : ∀ b, b ∈ K → w.heap.size + 1 + 1 < b) : Three w w' c1 c2 c3 t1 t2 t3 :=
  ⟨h.b1.chgl hc (fun hb => by have := hK _ hb; omega), h.b2.chgl hc (fun hb => by have := hK _ hb; omega), h.b3.chgl hc (fun hb => by have := hK _ hb; omega), h.bel.trans (hc.bel (fun b hb => by have := hK b hb; omega) h.bel.size)⟩
set_option maxHeartbeats 32000000 in
set_option maxRecDepth 20000 in
theorem specLay_any (d : WorldD) (r : RecD) (cs csr : List Value) (hi : Nat) (w : World) (h : layWorld.rd w hi d cs) (hr : layRec.rd w hi r csr) (hhi : hi ≤ w.heap.size) (hsz : szWorldD d ≤ 1048576) (hsr : szRecD r ≤ 1048576) :
    Calls Tryz.prog 19 #[.agg cs.toArray, .agg csr.toArray] w (ResPost (LyAns d r) w) := by
  have h' := h
  obtain ⟨ao1, cap1, ao2, cap2, ao3, cap3, rfl, g1, g2, g3, k0, k4, k5⟩ := World_rd h'
  obtain ⟨o6, k6, o7, k7, o8, k8, rfl, -⟩ := Rec_rd hr
  have HRD : Hid (layWorld.rd w hi d [.int .i64 (d.shape 0), .int .i64 (d.shape 1), .int .i64 (d.shape 2), .int .i64 (d.shape 3), .int .i64 (d.shape 4), .int .i64 (d.shape 5), .int .i64 (d.shape 6), .int .i64 (d.shape 7), .int .i64 (d.shape 8), .slice ao1 d.groups.1 cap1, .slice ao2 d.on.1 cap2, .slice ao3 d.tapes.1 cap3, .int .i64 d.writes, .int .i64 d.stop, .bool d.down]) := h
  have HRR : Hid (layRec.rd w hi r [.int .i64 r.kind, .int .i64 r.seq, .string r.name, .int .i64 r.length, .int .i64 r.group, .int .i64 r.row, .slice o6 r.rows.1 k6, .slice o7 r.data.1 k7, .slice o8 r.delta.1 k8]) := hr
  have HSZ : Hid (szWorldD d ≤ 1048576) := hsz
  have HSR : Hid (szRecD r ≤ 1048576) := hsr
  have hmf : ∀ (fn : Fn) (first cap : Array Value) (w : World), (Instr.makeFunc fn first cap).run Tryz.prog w = .ok (.func fn first cap) w := fun _ _ _ _ => rfl
  clear h h' hr hsz hsr g1 g2 g3 k0 k4 k5
  have T0 := three_newb w #[.int .i64 (d.shape 0), .int .i64 (d.shape 1), .int .i64 (d.shape 2), .int .i64 (d.shape 3), .int .i64 (d.shape 4), .int .i64 (d.shape 5), .int .i64 (d.shape 6), .int .i64 (d.shape 7), .int .i64 (d.shape 8), .slice ao1 d.groups.1 cap1, .slice ao2 d.on.1 cap2, .slice ao3 d.tapes.1 cap3, .int .i64 d.writes, .int .i64 d.stop, .bool d.down] #[.int .i64 r.kind, .int .i64 r.seq, .string r.name, .int .i64 r.length, .int .i64 r.group, .int .i64 r.row, .slice o6 r.rows.1 k6, .slice o7 r.data.1 k7, .slice o8 r.delta.1 k8] #[.int .i64 0, .int .i64 0, .int .i64 0, .int .i64 0, .int .i64 0, .int .i64 0, .int .i64 0, .int .i64 0, .int .i64 0, .int .i64 0, .slice none 0 0, .slice none 0 0, .slice none 0 0, .int .i64 0, .int .i64 0, .bool false] 38 43 40
  go_enter Tryz.func19, Tryz.ntmps19
  go_wp2_with (refine wp_loadBox 38 (.tmp 2) rfl rfl (w.heap.size) rfl (cs := [.int .i64 (d.shape 0), .int .i64 (d.shape 1), .int .i64 (d.shape 2), .int .i64 (d.shape 3), .int .i64 (d.shape 4), .int .i64 (d.shape 5), .int .i64 (d.shape 6), .int .i64 (d.shape 7), .int .i64 (d.shape 8), .slice ao1 d.groups.1 cap1, .slice ao2 d.on.1 cap2, .slice ao3 d.tapes.1 cap3, .int .i64 d.writes, .int .i64 d.stop, .bool d.down]) (T0.b1) Tryz.underlying38 size_W rfl ?_)
  refine (l5Asked_any d _ hi _ (layWorld.rd_below HRD.out T0.bel hhi) (Nat.le_trans hhi T0.bel.size) HSZ.out).mono ?_
  rintro e w1 ⟨x, rfl, hx, b1⟩
  have HT1 : Hid (Three w w1 #[.int .i64 (d.shape 0), .int .i64 (d.shape 1), .int .i64 (d.shape 2), .int .i64 (d.shape 3), .int .i64 (d.shape 4), .int .i64 (d.shape 5), .int .i64 (d.shape 6), .int .i64 (d.shape 7), .int .i64 (d.shape 8), .slice ao1 d.groups.1 cap1, .slice ao2 d.on.1 cap2, .slice ao3 d.tapes.1 cap3, .int .i64 d.writes, .int .i64 d.stop, .bool d.down] #[.int .i64 r.kind, .int .i64 r.seq, .string r.name, .int .i64 r.length, .int .i64 r.group, .int .i64 r.row, .slice o6 r.rows.1 k6, .slice o7 r.data.1 k7, .slice o8 r.delta.1 k8] #[.int .i64 0, .int .i64 0, .int .i64 0, .int .i64 0, .int .i64 0, .int .i64 0, .int .i64 0, .int .i64 0, .int .i64 0, .int .i64 0, .slice none 0 0, .slice none 0 0, .slice none 0 0, .int .i64 0, .int .i64 0, .bool false] 38 43 40) := T0.call b1
  have HX : Hid (AskAns d x) := hx
  have z1 : w.heap.size + 1 + 1 < w1.heap.size := HT1.out.b3.lt
  clear b1 T0 hx
  by_cases hx0 : x = 0
  case neg =>
    have hne : (x != 0) = true := by simp [hx0]
    go_wp2_with (refine wp_storeBox 40 _ _ rfl rfl (w.heap.size + 1 + 1) rfl (cs := [.int .i64 x, .int .i64 0, .int .i64 0, .int .i64 0, .int .i64 0, .int .i64 0, .int .i64 0, .int .i64 0, .int .i64 0, .int .i64 0, .slice none 0 0, .slice none 0 0, .slice none 0 0, .int .i64 0, .int .i64 0, .bool false]) (old := [.int .i64 0, .int .i64 0, .int .i64 0, .int .i64 0, .int .i64 0, .int .i64 0, .int .i64 0, .int .i64 0, .int .i64 0, .int .i64 0, .slice none 0 0, .slice none 0 0, .slice none 0 0, .int .i64 0, .int .i64 0, .bool false]) rfl (HT1.out.b3) size_WR rfl rfl (code_one _ (ask_small HX.out) w) ?_; intro w9 X9 C9 z9)
    refine ret_box Tryz.results19 rfl X9 Tryz.underlying40 size_WR rfl rfl ?_
    exact post_codeR (by omega) (ask_small HX.out) HT1.out.bel C9 (.inl ⟨x, hx0, HX.out, rfl⟩)
  subst hx0
  have HOK : Hid (OkWorld d) := ask_ok HX.out
  have x_0 : w1.cell? ⟨w.heap.size, 0, none⟩ = some (.int .i64 (d.shape 0)) := HT1.out.b1.cell 0
  have x_1 : w1.cell? ⟨w.heap.size, 1, none⟩ = some (.int .i64 (d.shape 1)) := HT1.out.b1.cell 1
  have x_2 : w1.cell? ⟨w.heap.size, 2, none⟩ = some (.int .i64 (d.shape 2)) := HT1.out.b1.cell 2
  have x_3 : w1.cell? ⟨w.heap.size, 3, none⟩ = some (.int .i64 (d.shape 3)) := HT1.out.b1.cell 3
  have x_4 : w1.cell? ⟨w.heap.size, 4, none⟩ = some (.int .i64 (d.shape 4)) := HT1.out.b1.cell 4
  have x_5 : w1.cell? ⟨w.heap.size, 5, none⟩ = some (.int .i64 (d.shape 5)) := HT1.out.b1.cell 5
  have x_6 : w1.cell? ⟨w.heap.size, 6, none⟩ = some (.int .i64 (d.shape 6)) := HT1.out.b1.cell 6
  have x_7 : w1.cell? ⟨w.heap.size, 7, none⟩ = some (.int .i64 (d.shape 7)) := HT1.out.b1.cell 7
  have x_8 : w1.cell? ⟨w.heap.size, 8, none⟩ = some (.int .i64 (d.shape 8)) := HT1.out.b1.cell 8
  have CRF := specRec_any d.shape r [.int .i64 r.kind, .int .i64 r.seq, .string r.name, .int .i64 r.length, .int .i64 r.group, .int .i64 r.row, .slice o6 r.rows.1 k6, .slice o7 r.data.1 k7, .slice o8 r.delta.1 k8] hi w1 (layRec.rd_below HRR.out HT1.out.bel hhi) (Nat.le_trans hhi HT1.out.bel.size) (rec_name HSR.out)
  unfold shapeV at CRF
  go_wp2_with (refine wp_loadBox 43 (.tmp 3) rfl rfl (w.heap.size + 1) rfl (cs := [.int .i64 r.kind, .int .i64 r.seq, .string r.name, .int .i64 r.length, .int .i64 r.group, .int .i64 r.row, .slice o6 r.rows.1 k6, .slice o7 r.data.1 k7, .slice o8 r.delta.1 k8]) (HT1.out.b2) Tryz.underlying43 size_Rc rfl ?_)
  refine CRF.mono ?_
  rintro e wA ⟨y, rfl, hy, bA⟩
  have HTA : Hid (Three w wA #[.int .i64 (d.shape 0), .int .i64 (d.shape 1), .int .i64 (d.shape 2), .int .i64 (d.shape 3), .int .i64 (d.shape 4), .int .i64 (d.shape 5), .int .i64 (d.shape 6), .int .i64 (d.shape 7), .int .i64 (d.shape 8), .slice ao1 d.groups.1 cap1, .slice ao2 d.on.1 cap2, .slice ao3 d.tapes.1 cap3, .int .i64 d.writes, .int .i64 d.stop, .bool d.down] #[.int .i64 r.kind, .int .i64 r.seq, .string r.name, .int .i64 r.length, .int .i64 r.group, .int .i64 r.row, .slice o6 r.rows.1 k6, .slice o7 r.data.1 k7, .slice o8 r.delta.1 k8] #[.int .i64 0, .int .i64 0, .int .i64 0, .int .i64 0, .int .i64 0, .int .i64 0, .int .i64 0, .int .i64 0, .int .i64 0, .int .i64 0, .slice none 0 0, .slice none 0 0, .slice none 0 0, .int .i64 0, .int .i64 0, .bool false] 38 43 40) := HT1.out.call bA
  have zA : w1.heap.size ≤ wA.heap.size := bA.size
  have HY : Hid (RecAns d.shape r y) := hy
  clear bA CRF hy x_0 x_1 x_2 x_3 x_4 x_5 x_6 x_7 x_8
  by_cases hy0 : y = 0
  case neg =>
    have hne : (y != 0) = true := by simp [hy0]
    go_wp2_with (refine wp_storeBox 40 _ _ rfl rfl (w.heap.size + 1 + 1) rfl (cs := [.int .i64 y, .int .i64 0, .int .i64 0, .int .i64 0, .int .i64 0, .int .i64 0, .int .i64 0, .int .i64 0, .int .i64 0, .int .i64 0, .slice none 0 0, .slice none 0 0, .slice none 0 0, .int .i64 0, .int .i64 0, .bool false]) (old := [.int .i64 0, .int .i64 0, .int .i64 0, .int .i64 0, .int .i64 0, .int .i64 0, .int .i64 0, .int .i64 0, .int .i64 0, .int .i64 0, .slice none 0 0, .slice none 0 0, .slice none 0 0, .int .i64 0, .int .i64 0, .bool false]) rfl (HTA.out.b3) size_WR rfl rfl (code_one _ (rec_wide HY.out) w) ?_; intro w9 X9 C9 z9)
    refine ret_box Tryz.results19 rfl X9 Tryz.underlying40 size_WR rfl rfl ?_
    exact post_codeR (by omega) (rec_wide HY.out) HTA.out.bel C9 (.inr ⟨HX.out, .inl ⟨y, hy0, HY.out, rfl⟩⟩)
  subst hy0
  have hf0 := fit3_ok HOK.out (ask_up HX.out)
  have CF := l7Full_any d [.int .i64 (d.shape 0), .int .i64 (d.shape 1), .int .i64 (d.shape 2), .int .i64 (d.shape 3), .int .i64 (d.shape 4), .int .i64 (d.shape 5), .int .i64 (d.shape 6), .int .i64 (d.shape 7), .int .i64 (d.shape 8), .slice ao1 d.groups.1 cap1, .slice ao2 d.on.1 cap2, .slice ao3 d.tapes.1 cap3, .int .i64 d.writes, .int .i64 d.stop, .bool d.down] hi w.heap.size wA (layWorld.rd_below HRD.out HTA.out.bel hhi) (Nat.le_trans hhi HTA.out.bel.size) HTA.out.b1 hf0.two (fun T hT => by have := hf0.few T hT; omega)
  have HF0 : Hid (Fit3 1000 d) := hf0
  clear hf0
  go_wp2_with fail
  refine CF.mono ?_
  rintro e wF ⟨t, rfl, ht, e1⟩
  have e2 := e1.symm
  subst e2
  have HTF : Hid (t = true ↔ (200 < ((d.tapes.2 0).recs.1 : Int) + 1 ∨ 200 < ((d.tapes.2 1).recs.1 : Int) + 1)) := ht
  clear CF ht
  cases t with
  | true =>
    have HQ : Hid (LyAns d r ⟨2, zeroW⟩) := .inr ⟨HX.out, .inr ⟨HY.out, by unfold layF; rw [if_pos (HTF.out.1 rfl)]; rfl⟩⟩
    go_wp2_with (refine wp_storeBox 40 _ _ rfl rfl (w.heap.size + 1 + 1) rfl (cs := [.int .i64 2, .int .i64 0, .int .i64 0, .int .i64 0, .int .i64 0, .int .i64 0, .int .i64 0, .int .i64 0, .int .i64 0, .int .i64 0, .slice none 0 0, .slice none 0 0, .slice none 0 0, .int .i64 0, .int .i64 0, .bool false]) (old := [.int .i64 0, .int .i64 0, .int .i64 0, .int .i64 0, .int .i64 0, .int .i64 0, .int .i64 0, .int .i64 0, .int .i64 0, .int .i64 0, .slice none 0 0, .slice none 0 0, .slice none 0 0, .int .i64 0, .int .i64 0, .bool false]) rfl (HTA.out.b3) size_WR rfl rfl (code_one _ (by decide) w) ?_; intro w9 X9 C9 z9)
    refine ret_box Tryz.results19 rfl X9 Tryz.underlying40 size_WR rfl rfl ?_
    exact post_codeR (by omega) (by decide) HTA.out.bel C9 (HQ.out)
  | false =>
  have HEQ : Hid (layF r d = runO (appendF r) 2 0 d) := by
    show layF r d = _
    unfold layF
    rw [if_neg (fun h => by have := HTF.out.2 h; cases this)]
  go_wp2_with (refine wp_loadBox 38 (.tmp 2) rfl rfl (w.heap.size) rfl (cs := [.int .i64 (d.shape 0), .int .i64 (d.shape 1), .int .i64 (d.shape 2), .int .i64 (d.shape 3), .int .i64 (d.shape 4), .int .i64 (d.shape 5), .int .i64 (d.shape 6), .int .i64 (d.shape 7), .int .i64 (d.shape 8), .slice ao1 d.groups.1 cap1, .slice ao2 d.on.1 cap2, .slice ao3 d.tapes.1 cap3, .int .i64 d.writes, .int .i64 d.stop, .bool d.down]) (HTA.out.b1) Tryz.underlying38 size_W rfl ?_)
  refine (l5Copy_is _ d hi _ (layWorld.rd_below HRD.out HTA.out.bel hhi) (Nat.le_trans hhi HTA.out.bel.size) HSZ.out).mono ?_
  rintro e w2 ⟨c2, rfl, o2, b2⟩
  obtain ⟨p1, c1, p2, c2, p3, c3, K1, K2, K3, rfl, WO2⟩ := world_open o2
  have z2 : wA.heap.size ≤ w2.heap.size := b2.size
  go_upto_region 10 with (refine wp_allocStore 38 7 (.tmp 26) [.int .i64 (d.shape 0), .int .i64 (d.shape 1), .int .i64 (d.shape 2), .int .i64 (d.shape 3), .int .i64 (d.shape 4), .int .i64 (d.shape 5), .int .i64 (d.shape 6), .int .i64 (d.shape 7), .int .i64 (d.shape 8), .slice p1 d.groups.1 c1, .slice p2 d.on.1 c2, .slice p3 d.tapes.1 c3, .int .i64 d.writes, .int .i64 d.stop, .bool d.down] _ 15 rfl rfl rfl rfl rfl rfl rfl rfl info_W rfl rfl o2.one ?_)
  have bA : Below w2.heap.size w2 (w2.alloc (.cells #[.int .i64 (d.shape 0), .int .i64 (d.shape 1), .int .i64 (d.shape 2), .int .i64 (d.shape 3), .int .i64 (d.shape 4), .int .i64 (d.shape 5), .int .i64 (d.shape 6), .int .i64 (d.shape 7), .int .i64 (d.shape 8), .slice p1 d.groups.1 c1, .slice p2 d.on.1 c2, .slice p3 d.tapes.1 c3, .int .i64 d.writes, .int .i64 d.stop, .bool d.down] 38)) := (Below.refl _ _).alloc (Nat.le_refl _) _
  have X3 : Box (w2.alloc (.cells #[.int .i64 (d.shape 0), .int .i64 (d.shape 1), .int .i64 (d.shape 2), .int .i64 (d.shape 3), .int .i64 (d.shape 4), .int .i64 (d.shape 5), .int .i64 (d.shape 6), .int .i64 (d.shape 7), .int .i64 (d.shape 8), .slice p1 d.groups.1 c1, .slice p2 d.on.1 c2, .slice p3 d.tapes.1 c3, .int .i64 d.writes, .int .i64 d.stop, .bool d.down] 38)) w2.heap.size #[.int .i64 (d.shape 0), .int .i64 (d.shape 1), .int .i64 (d.shape 2), .int .i64 (d.shape 3), .int .i64 (d.shape 4), .int .i64 (d.shape 5), .int .i64 (d.shape 6), .int .i64 (d.shape 7), .int .i64 (d.shape 8), .slice p1 d.groups.1 c1, .slice p2 d.on.1 c2, .slice p3 d.tapes.1 c3, .int .i64 d.writes, .int .i64 d.stop, .bool d.down] 38 := box_new _ _ _
  obtain ⟨W3, hW3⟩ : ∃ x, x = w2.alloc (.cells #[.int .i64 (d.shape 0), .int .i64 (d.shape 1), .int .i64 (d.shape 2), .int .i64 (d.shape 3), .int .i64 (d.shape 4), .int .i64 (d.shape 5), .int .i64 (d.shape 6), .int .i64 (d.shape 7), .int .i64 (d.shape 8), .slice p1 d.groups.1 c1, .slice p2 d.on.1 c2, .slice p3 d.tapes.1 c3, .int .i64 d.writes, .int .i64 d.stop, .bool d.down] 38) := ⟨_, rfl⟩
  rw [← hW3] at bA X3 ⊢
  have T3 := (HTA.out.call b2).call bA
  have WO := WO2.below bA (Nat.le_refl _)
  have z3 : w2.heap.size < W3.heap.size := X3.lt
  clear bA hW3 o2 b2 WO2
  have hin : ∀ b, b ∈ K1 ++ (K2 ++ (K3 ++ [])) → wA.heap.size ≤ b ∧ b < w2.heap.size := fun b hb => WO.inn b (by simpa using hb)
  have S3 : SpB W3 w2.heap.size d (K1 ++ (K2 ++ (K3 ++ []))) := ⟨_, X3, WO.encO (fun hm => by have := WO.inn _ hm; omega)⟩
  have hza := HTA.out.bel.size
  have CS := l7Lay_any w2.heap.size d _ r o6 o7 o8 k6 k7 k8 hi W3 S3 (HF0.out.less (by decide)) (layRec.rd_below HRR.out T3.bel hhi) (by omega) (fun b hb => by have := hin b hb; omega) (Nat.le_trans hhi T3.bel.size) HSR.out
  obtain ⟨oc, hoc⟩ : ∃ x, x = runO (appendF r) 2 0 d := ⟨_, rfl⟩
  have HOC : Hid (oc = runO (appendF r) 2 0 d) := hoc
  rw [← hoc] at CS
  clear hoc S3 X3 WO
  cases oc with
  | cut d2 =>
    have HQ : Hid (LyAns d r ⟨9, cutW d2⟩) := .inr ⟨HX.out, .inr ⟨HY.out, by rw [HEQ.out, ← HOC.out]; rfl⟩⟩
    go_wp2_with (refine wp_loadBox 43 (.tmp 3) rfl rfl (w.heap.size + 1) rfl (cs := [.int .i64 r.kind, .int .i64 r.seq, .string r.name, .int .i64 r.length, .int .i64 r.group, .int .i64 r.row, .slice o6 r.rows.1 k6, .slice o7 r.data.1 k7, .slice o8 r.delta.1 k8]) (T3.b2) Tryz.underlying43 size_Rc rfl ?_)
    refine CS.mono ?_
    rintro e w5 ⟨rfl, K5, S5, s5, C5⟩
    clear CS
    obtain ⟨cs5, X5, O5⟩ := S5
    obtain ⟨y0, y1, y2, y3, y4, y5, y6, y7, y8, yp0, yl0, yq0, yp1, yl1, yq1, yp2, yl2, yq2, y9, y10, yb, rfl⟩ := world15L O5.own
    have z5 := C5.size
    have T5 := T3.chgK3 C5 (fun b hb => by
      rcases List.mem_cons.1 hb with h | h
      · omega
      · have := hin b h; omega)
    have OO : OwnT layWorld w5 wA.heap.size w5.heap.size (cutW d2) [.int .i64 y0, .int .i64 y1, .int .i64 y2, .int .i64 y3, .int .i64 y4, .int .i64 y5, .int .i64 y6, .int .i64 y7, .int .i64 y8, .slice yp0 yl0 yq0, .slice yp1 yl1 yq1, .slice yp2 yl2 yq2, .int .i64 y9, .int .i64 y10, .bool yb] := ⟨K5, O5.own, O5.nd, fun b hb => ⟨by
      rcases s5 b hb with h | h
      · exact (hin b h).1
      · omega, layWorld.own_lt O5.own b hb⟩⟩
    have CL := l7Told_is y0 y1 y2 y3 y4 y5 y6 y7 y8 yp0 yl0 yq0 yp1 yl1 yq1 yp2 yl2 yq2 y9 y10 yb false w5 OO.one
    clear T3 C5 s5 O5
    go_wp2_with (first | (refine wp_loadBox 38 (.tmp 7) rfl rfl (w2.heap.size) rfl (cs := [.int .i64 y0, .int .i64 y1, .int .i64 y2, .int .i64 y3, .int .i64 y4, .int .i64 y5, .int .i64 y6, .int .i64 y7, .int .i64 y8, .slice yp0 yl0 yq0, .slice yp1 yl1 yq1, .slice yp2 yl2 yq2, .int .i64 y9, .int .i64 y10, .bool yb]) (X5) Tryz.underlying38 size_W rfl ?_) | (go_at_call 31; refine CL.mono ?_; rintro e w6 ⟨rfl, b6⟩; have T6 := T5.call b6; have O6 := OO.below b6 (Nat.le_refl _)) | (refine wp_storeBox 40 _ _ rfl rfl (w.heap.size + 1 + 1) rfl (cs := [.int .i64 9, .int .i64 y0, .int .i64 y1, .int .i64 y2, .int .i64 y3, .int .i64 y4, .int .i64 y5, .int .i64 y6, .int .i64 y7, .int .i64 y8, .slice yp0 yl0 yq0, .slice yp1 yl1 yq1, .slice yp2 yl2 yq2, .int .i64 y9, .int .i64 y10, .bool yb]) (old := [.int .i64 0, .int .i64 0, .int .i64 0, .int .i64 0, .int .i64 0, .int .i64 0, .int .i64 0, .int .i64 0, .int .i64 0, .int .i64 0, .slice none 0 0, .slice none 0 0, .slice none 0 0, .int .i64 0, .int .i64 0, .bool false]) rfl T6.b3 size_WR rfl rfl (own_resOf 9 (by decide) O6).one ?_; intro w9 X9 C9 z9))
    refine ret_box Tryz.results19 rfl X9 Tryz.underlying40 size_WR rfl rfl ?_
    exact ⟨⟨9, (cutW d2)⟩, _, rfl, HQ.out, (own_resOf 9 (by decide) (O6.chgk C9 (fun b hb => by simp at hb; omega))).weaken (by omega) (Nat.le_trans b6.size C9.size), T6.bel.trans (C9.bel (fun b hb => by simp at hb; omega) T6.bel.size)⟩
  | done c d2 =>
    have c0 : c = 0 := run_append (d := d) _ _ _ _ _ HOC.out.symm
    subst c0
    have HQ : Hid (LyAns d r ⟨0, d2⟩) := .inr ⟨HX.out, .inr ⟨HY.out, by rw [HEQ.out, ← HOC.out]; simp [Outc.final]⟩⟩
    go_wp2_with (refine wp_loadBox 43 (.tmp 3) rfl rfl (w.heap.size + 1) rfl (cs := [.int .i64 r.kind, .int .i64 r.seq, .string r.name, .int .i64 r.length, .int .i64 r.group, .int .i64 r.row, .slice o6 r.rows.1 k6, .slice o7 r.data.1 k7, .slice o8 r.delta.1 k8]) (T3.b2) Tryz.underlying43 size_Rc rfl ?_)
    refine CS.mono ?_
    rintro e w5 ⟨rfl, K5, S5, s5, C5⟩
    clear CS
    obtain ⟨cs5, X5, O5⟩ := S5
    obtain ⟨y0, y1, y2, y3, y4, y5, y6, y7, y8, yp0, yl0, yq0, yp1, yl1, yq1, yp2, yl2, yq2, y9, y10, yb, rfl⟩ := world15L O5.own
    have z5 := C5.size
    have T5 := T3.chgK3 C5 (fun b hb => by
      rcases List.mem_cons.1 hb with h | h
      · omega
      · have := hin b h; omega)
    have OO : OwnT layWorld w5 wA.heap.size w5.heap.size d2 [.int .i64 y0, .int .i64 y1, .int .i64 y2, .int .i64 y3, .int .i64 y4, .int .i64 y5, .int .i64 y6, .int .i64 y7, .int .i64 y8, .slice yp0 yl0 yq0, .slice yp1 yl1 yq1, .slice yp2 yl2 yq2, .int .i64 y9, .int .i64 y10, .bool yb] := ⟨K5, O5.own, O5.nd, fun b hb => ⟨by
      rcases s5 b hb with h | h
      · exact (hin b h).1
      · omega, layWorld.own_lt O5.own b hb⟩⟩
    have CL := l7Told_is y0 y1 y2 y3 y4 y5 y6 y7 y8 yp0 yl0 yq0 yp1 yl1 yq1 yp2 yl2 yq2 y9 y10 yb true w5 OO.one
    clear T3 C5 s5 O5
    go_wp2_with (first | (refine wp_loadBox 38 (.tmp 7) rfl rfl (w2.heap.size) rfl (cs := [.int .i64 y0, .int .i64 y1, .int .i64 y2, .int .i64 y3, .int .i64 y4, .int .i64 y5, .int .i64 y6, .int .i64 y7, .int .i64 y8, .slice yp0 yl0 yq0, .slice yp1 yl1 yq1, .slice yp2 yl2 yq2, .int .i64 y9, .int .i64 y10, .bool yb]) (X5) Tryz.underlying38 size_W rfl ?_) | (go_at_call 31; refine CL.mono ?_; rintro e w6 ⟨rfl, b6⟩; have T6 := T5.call b6; have O6 := OO.below b6 (Nat.le_refl _)) | (refine wp_storeBox 40 _ _ rfl rfl (w.heap.size + 1 + 1) rfl (cs := [.int .i64 0, .int .i64 y0, .int .i64 y1, .int .i64 y2, .int .i64 y3, .int .i64 y4, .int .i64 y5, .int .i64 y6, .int .i64 y7, .int .i64 y8, .slice yp0 yl0 yq0, .slice yp1 yl1 yq1, .slice yp2 yl2 yq2, .int .i64 y9, .int .i64 y10, .bool yb]) (old := [.int .i64 0, .int .i64 0, .int .i64 0, .int .i64 0, .int .i64 0, .int .i64 0, .int .i64 0, .int .i64 0, .int .i64 0, .int .i64 0, .slice none 0 0, .slice none 0 0, .slice none 0 0, .int .i64 0, .int .i64 0, .bool false]) rfl T6.b3 size_WR rfl rfl (own_resOf 0 (by decide) O6).one ?_; intro w9 X9 C9 z9))
    refine ret_box Tryz.results19 rfl X9 Tryz.underlying40 size_WR rfl rfl ?_
    exact ⟨⟨0, d2⟩, _, rfl, HQ.out, (own_resOf 0 (by decide) (O6.chgk C9 (fun b hb => by simp at hb; omega))).weaken (by omega) (Nat.le_trans b6.size C9.size), T6.bel.trans (C9.bel (fun b hb => by simp at hb; omega) T6.bel.size)⟩
end Go.Proofs.YthdknhjaohhfiaaGreat
