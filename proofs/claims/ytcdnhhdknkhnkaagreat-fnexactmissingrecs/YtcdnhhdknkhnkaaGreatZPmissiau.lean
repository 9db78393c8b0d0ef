/- Walks of the program's MissingRecs. -/
import Derived.Test.YtcdnhhdknkhnkaaGreatZPmissiar
import Derived.Test.YtcdnhhdknkhnkaaGreatZPmissias
import Derived.Test.YtcdnhhdknkhnkaaGreatZPmissiat
import Derived.Deep.DeepCutAuto
import Derived.Test.YtcdnhhdknkhnkaaGreatZPmissiai
import Derived.Test.YtcdnhhdknkhnkaaGreatZPmissian
import Derived.Test.YtcdnhhdknkhnkaaGreatZPmissiae
import Derived.Test.YtcdnhhdknkhnkaaGreatZPmissiaf
import Derived.Test.YtcdnhhdknkhnkaaGreatRows
import Derived.Test.YtcdnhhdknkhnkaaGreatZPmissiab
import Derived.Test.YtcdnhhdknkhnkaaGreatZPmissiag
import Derived.Test.YtcdnhhdknkhnkaaGreatZPmissiah
import Derived.Deep.RegionLaw
set_option linter.unusedVariables false
set_option linter.unusedSimpArgs false
namespace Go.Proofs.YtcdnhhdknkhnkaaGreat
open Go.RowKit F256
set_option maxHeartbeats 16000000 in
set_option maxRecDepth 20000 in
theorem missOne_any (T a0 a1 tb toff capt m rc : Nat) (rb : Option Addr) (y : Nat → RecD) (r : RecD) (cr : List Value) (hi : Nat) (w : World) (h0 : w.cell? ⟨a0, 0, none⟩ = some (.slice (some ⟨tb, toff, none⟩) 2 capt)) (h1 : w.cell? ⟨a1, 0, none⟩ = some (.int .i64 (T : Int))) (hT : w.cell? ⟨tb, toff + T * 2 + 1, none⟩ = some (.slice rb m rc)) (l0 : a0 < w.heap.size) (l1 : a1 < w.heap.size) (lt : tb < w.heap.size) (hT2 : T < 2)
    (hrs : (layRec.slice 92).rd w hi (m, y) [.slice rb m rc]) (hr : layRec.rd w hi r cr) (hhi : hi ≤ w.heap.size) (hm : m ≤ 1048576) :
    Calls Tryz.prog 84 #[.agg cr.toArray, .pointer (some ⟨a0, 0, none⟩), .pointer (some ⟨a1, 0, none⟩)] w (fun e w' => e = .returned (.bool (hasB m y r)) ∧ Below w.heap.size w w') := by
  have B0 := one_new w cr.toArray 92
  have XB : Box (w.alloc (.cells cr.toArray 92)) w.heap.size cr.toArray 92 := B0.b1
  have bA := B0.bel
  have hcr : cr.length = 9 := layRec.rd_len hr
  have c0 : (w.alloc (.cells cr.toArray 92)).cell? ⟨a0, 0, none⟩ = some (.slice (some ⟨tb, toff, none⟩) 2 capt) := (bA.cell (p := ⟨a0, 0, none⟩) l0).trans h0
  have c1 : (w.alloc (.cells cr.toArray 92)).cell? ⟨a1, 0, none⟩ = some (.int .i64 (T : Int)) := (bA.cell (p := ⟨a1, 0, none⟩) l1).trans h1
  have c2 : (w.alloc (.cells cr.toArray 92)).cell? ⟨tb, toff + T * 2 + 1, none⟩ = some (.slice rb m rc) := (bA.cell (p := ⟨tb, toff + T * 2 + 1, none⟩) lt).trans hT
  have rs := Lay.rd_below _ hrs bA hhi
  have rr := layRec.rd_below hr bA hhi
  have hz : hi ≤ (w.alloc (.cells cr.toArray 92)).heap.size := Nat.le_trans hhi bA.size
  obtain ⟨b6, bk6, b7, bk7, b8, bk8, rfl, -⟩ := Rec_rd hr
  clear h0 h1 hT hrs B0
  go_enter Tryz.func84, Tryz.ntmps84
  go_upto_region 1 with fail
  obtain ⟨W, hW⟩ : ∃ x, x = w.alloc (.cells #[.int .i64 r.kind, .int .i64 r.seq, .string r.name, .int .i64 r.length, .int .i64 r.group, .int .i64 r.row, .slice b6 r.rows.1 bk6, .slice b7 r.data.1 bk7, .slice b8 r.delta.1 bk8] 92) := ⟨_, rfl⟩
  have XB : Box W w.heap.size [.int .i64 r.kind, .int .i64 r.seq, .string r.name, .int .i64 r.length, .int .i64 r.group, .int .i64 r.row, .slice b6 r.rows.1 bk6, .slice b7 r.data.1 bk7, .slice b8 r.delta.1 bk8].toArray 92 := by rw [hW]; exact XB
  have c0 : W.cell? ⟨a0, 0, none⟩ = some (.slice (some ⟨tb, toff, none⟩) 2 capt) := by rw [hW]; exact c0
  have c1 : W.cell? ⟨a1, 0, none⟩ = some (.int .i64 (T : Int)) := by rw [hW]; exact c1
  have c2 : W.cell? ⟨tb, toff + T * 2 + 1, none⟩ = some (.slice rb m rc) := by rw [hW]; exact c2
  have rs : (layRec.slice 92).rd W hi (m, y) [.slice rb m rc] := by rw [hW]; exact rs
  have rr : layRec.rd W hi r [.int .i64 r.kind, .int .i64 r.seq, .string r.name, .int .i64 r.length, .int .i64 r.group, .int .i64 r.row, .slice b6 r.rows.1 bk6, .slice b7 r.data.1 bk7, .slice b8 r.delta.1 bk8] := by rw [hW]; exact rr
  have HBW : Hid (Below w.heap.size w W) := by rw [hW]; exact bA
  have hz : hi ≤ W.heap.size := by rw [hW]; exact hz
  rw [← hW]
  clear hW bA
  obtain ⟨cq, hcq⟩ : ∃ c : List Value, c = [.int .i64 r.kind, .int .i64 r.seq, .string r.name, .int .i64 r.length, .int .i64 r.group, .int .i64 r.row, .slice b6 r.rows.1 bk6, .slice b7 r.data.1 bk7, .slice b8 r.delta.1 bk8] := ⟨_, rfl⟩
  rw [← hcq] at XB rr hcr
  have bD : Below W.heap.size W W.drew := ⟨rfl, rfl, rfl, Nat.le_refl _, fun _ _ => rfl⟩
  have CC0 := hasRec_any (.slice rb m rc) m y r cq hi W.drew (Lay.rd_below _ rs bD hz) (layRec.rd_below rr bD hz) hz hm
  have CC : Calls Tryz.prog 73 (#[.slice rb m rc, .agg cq.toArray] ++ #[]) W.drew (BoolP (∃ i, i < m ∧ SameR (y i) r) W.drew) := by rw [Array.append_empty]; exact CC0
  have r6 : W.drew.rangeAt w.heap.size 0 cq := fun j v hv => by
    have := (XB.cell j).trans (by simpa using hv)
    rw [Nat.zero_add]
    exact this
  have i1 : (0 : Int) ≤ (T : Int) := by omega
  have i2 : (T : Int) < 2 := by omega
  clear CC0 rs rr XB hcq
  refine wp_region_M 6 (fun w' => w'.rangeAt w.heap.size 0 cq ∧ w'.cell? ⟨a0, 0, none⟩ = some (.slice (some ⟨tb, toff, none⟩) 2 capt) ∧ w'.cell? ⟨a1, 0, none⟩ = some (.int .i64 (T : Int)) ∧ w'.cell? ⟨tb, toff + T * 2 + 1, none⟩ = some (.slice rb m rc)) mixedO ⟨r6, c0, c1, c2⟩ (fun hHeld => ?_)
  refine wpAnyM_take (i := 0) (oi := _) (v := ?_) 16 rfl (by kernel_rfl) (fun _ _ _ h => h) (Or.inl ⟨by kernel_rfl, ?_⟩) (by assumption) ?_
  rotate_left
  · intro w' hSw
    try dsimp only at hSw
    obtain ⟨hq0, hq1, hq2, hq3⟩ := hSw
    go_simp
    try with_reducible rfl
  try simp only [Act.put, SL]
  refine wpAnyM_take (i := 1) (oi := _) (v := ?_) 16 rfl (by kernel_rfl) (fun _ _ _ h => h) (Or.inl ⟨by kernel_rfl, ?_⟩) (by assumption) ?_
  rotate_left
  · intro w' hSw
    try dsimp only at hSw
    obtain ⟨hq0, hq1, hq2, hq3⟩ := hSw
    go_simp
    try with_reducible rfl
  try simp only [Act.put, SL]
  refine wpAnyM_pure (i := 2) (oi := _) (v := ?_) rfl (by kernel_rfl) (fun _ _ _ h => h) (Or.inl ⟨by kernel_rfl, ?_⟩) (by assumption) ?_
  rotate_left
  · intro w' hSw; go_simp; try with_reducible rfl
  try simp only [Act.put, SL]
  refine wpAnyM_pure (i := 3) (oi := _) (v := ?_) rfl (by kernel_rfl) (fun _ _ _ h => h) (Or.inl ⟨by kernel_rfl, ?_⟩) (by assumption) ?_
  rotate_left
  · intro w' hSw; go_simp; try with_reducible rfl
  try simp only [Act.put, SL]
  refine wpAnyM_take (i := 4) (oi := _) (v := ?_) 16 rfl (by kernel_rfl) (fun _ _ _ h => h) (Or.inl ⟨by kernel_rfl, ?_⟩) (by assumption) ?_
  rotate_left
  · intro w' hSw
    try dsimp only at hSw
    obtain ⟨hq0, hq1, hq2, hq3⟩ := hSw
    go_simp
    try with_reducible rfl
  try simp only [Act.put, SL]
  refine wpAnyM_take (i := 5) (oi := _) (v := .agg cq.toArray) 16 rfl (by kernel_rfl) (fun _ _ _ h => h) (yieldsIf_load_mid (by kernel_rfl) 92 (.tmp 3) rfl w.heap.size (0) (by simp [Act.eval, Act.put]) cq _ (fun w h => h.1) Tryz.underlying92 rfl (info_Rec9 hcr)) (by assumption) ?_
  try simp only [Act.put, SL]
  refine wpAnyM_one (i := 6) (o := _) rfl (by kernel_rfl) (by kernel_rfl) (fun KC hKC => ?_)
  refine step_callv (by kernel_rfl) (.func 73) 73 #[] _ _ rfl (by simp [Act.eval, Act.put]) #[.slice rb m rc, .agg cq.toArray] (by simp [Act.eval, Act.put]) Tryz.func73 (by kernel_rfl) (by kernel_rfl) CC ?_
  rintro ee w5 ⟨t, rfl, ht, b5⟩
  refine ⟨_, rfl, ?_⟩
  refine hKC _ _ ?_
  clear hKC KC
  try simp only [Act.put, SL]
  refine wpAnyM_pureL (i := 7) (oi := _) (v := ?_) rfl (by kernel_rfl) (fun _ _ _ h => h) (Or.inl ⟨by kernel_rfl, ?_⟩) ?_
  rotate_left
  · intro w' hSw; go_simp; try with_reducible rfl
  try simp only [Act.put, SL]
  refine wpAnyM_done (by kernel_rfl) ?_ _
  have HT : Hid (t = hasB m y r) := hasB_is ht
  have HB5 : Hid (Below w.heap.size w w5) := HBW.out.trans ((bD.trans b5).mono HBW.out.size)
  clear ht b5 CC bD hHeld r6 c0 c1 c2
  go_wp2
  go_ret
  exact ⟨by rw [← HT.out]; rfl, HB5.out⟩
set_option maxHeartbeats 16000000 in
set_option maxRecDepth 20000 in
theorem index_missing0 (a0 a1 : Nat) (w : World) : Calls Tryz.prog 119 #[.slice none 0 0, .func (.func 84) #[] #[.pointer (some ⟨a0, 0, none⟩), .pointer (some ⟨a1, 0, none⟩)]] w fun e w' => e = .returned (.int .i64 (-1)) ∧ Below w.heap.size w w' := by
  go_enter Tryz.func119, Tryz.ntmps119
  go_wp2
  go_loopw [8] (fun z wr => z = .int .i64 0 ∧ Below w.heap.size w wr) (fun z _ => 0)
  case atStart => exact ⟨rfl, Below.refl _ _⟩
  case round =>
    obtain ⟨rfl, hb⟩ := hrel
    go_wp2
    go_ret
    exact ⟨rfl, hb⟩
theorem delete_missing0 (a0 a1 : Nat) (w : World) : Calls Tryz.prog 83 #[.slice none 0 0, .func (.func 84) #[] #[.pointer (some ⟨a0, 0, none⟩), .pointer (some ⟨a1, 0, none⟩)]] w fun e w' => e = .returned (.slice none 0 0) ∧ Below w.heap.size w w' := by
  have CI := index_missing0 a0 a1 w
  go_enter Tryz.func83, Tryz.ntmps83
  go_wp2_with fail
  refine CI.mono ?_
  rintro e w1 ⟨rfl, b1⟩
  have HB : Hid (Below w.heap.size w w1) := b1
  have te : ((-1 : Int) == -1) = true := by decide
  clear b1 CI
  go_wp2
  go_ret
  exact ⟨rfl, HB.out⟩
set_option maxHeartbeats 16000000 in
set_option maxRecDepth 20000 in
theorem missingOn_any (d : WorldD) (T : Nat) (ao3 : Option Addr) (cap3 : Nat) (hi : Nat) (w : World) (h : (layTape.slice 88).rd w hi (2, d.tapes.2) [.slice ao3 2 cap3]) (hhi : hi ≤ w.heap.size) (hT : T < 2) (hn0 : (d.tapes.2 0).recs.1 ≤ 400000) (hn1 : (d.tapes.2 1).recs.1 ≤ 400000) :
    Calls Tryz.prog 48 #[.slice ao3 2 cap3, .int .i64 (T : Int)] w (fun e w' => ∃ v' l, e = .returned v' ∧ Cnt (recT d.tapes.2 2) (lenT d.tapes.2 2) l ∧ (layRec.slice 92).rd w' w'.heap.size (missOf d T l) [v'] ∧ Below w.heap.size w w') := by
  have T0 := two_newb w #[.slice ao3 2 cap3] #[.int .i64 (T : Int)] 36 2
  obtain ⟨W, hW⟩ : ∃ x, x = (w.alloc (.cells #[.slice ao3 2 cap3] 36)).alloc (.cells #[.int .i64 (T : Int)] 2) := ⟨_, rfl⟩
  rw [← hW] at T0
  have x0 : W.cell? ⟨w.heap.size, 0, none⟩ = some (.slice ao3 2 cap3) := T0.b1.cell 0
  have zW : w.heap.size + 1 < W.heap.size := T0.b2.lt
  have HT0 : Hid (Two w W #[.slice ao3 2 cap3] #[.int .i64 (T : Int)] 36 2) := T0
  have hW3 := Lay.rd_below _ h T0.bel hhi
  have CC := countOnce_any d.tapes.2 (.slice ao3 2 cap3) hi W hW3 (by omega) hn0 hn1
  have HW3 : Hid ((layTape.slice 88).rd W hi (2, d.tapes.2) [.slice ao3 2 cap3]) := hW3
  clear T0 h hW3
  go_enter Tryz.func48, Tryz.ntmps48
  go_upto_region 1 with fail
  rw [← hW]
  clear hW
  go_wp2_with fail
  refine CC.mono ?_
  rintro e w2 ⟨v2, l, ce, lo, rfl, hCt, hlo, V, b2⟩
  have HL : Hid (Cnt (recT d.tapes.2 2) (lenT d.tapes.2 2) l) := hCt
  have z2 : W.heap.size ≤ w2.heap.size := b2.size
  have B2 := HT0.out.call b2
  have y0 : w2.cell? ⟨w.heap.size, 0, none⟩ = some (.slice ao3 2 cap3) := B2.b1.cell 0
  have y1 : w2.cell? ⟨w.heap.size + 1, 0, none⟩ = some (.int .i64 (T : Int)) := B2.b2.cell 0
  have HB2 : Hid (Below w.heap.size w w2) := B2.bel
  have hlen : l.length ≤ 1048576 := by
    have h1 := (hCt.sum (fun _ => 0)).2
    have e2 : lenT d.tapes.2 2 = (d.tapes.2 0).recs.1 + (d.tapes.2 1).recs.1 := by simp [lenT]
    omega
  have w2rd := Lay.rd_below _ HW3.out b2 (by omega)
  clear CC x0 b2 hCt HT0 B2
  rcases V.form2 with ⟨rfl, hl0⟩ | ⟨g, cap, rfl, hnc, hg⟩
  · have hnil : l = [] := List.eq_nil_of_length_eq_zero hl0
    have CD := delete_missing0 w.heap.size (w.heap.size + 1) w2
    clear V y0 y1 w2rd
    go_wp2_with fail
    refine CD.mono ?_
    rintro e w3 ⟨rfl, b3⟩
    have HB3 : Hid (Below w.heap.size w w3) := HB2.out.trans (b3.mono HB2.out.size)
    clear b3 CD
    go_wp2
    go_ret
    refine ⟨.slice none 0 0, l, rfl, HL.out, ?_, HB3.out⟩
    have e : (missOf d T l).1 = 0 := by unfold missOf; rw [hnil]; rfl
    exact ⟨none, 0, by rw [e], by rw [e]; decide, fun h => absurd e h⟩
  · have hglo := V.row.lt g rfl
    obtain ⟨ao, cp, e, hmm, hc⟩ := w2rd
    simp only [List.cons.injEq, Value.slice.injEq, true_and, and_true] at e
    obtain ⟨rfl, rfl⟩ := e
    obtain ⟨tb, toff, rfl, hbh, hel⟩ := hc (by simp)
    obtain ⟨ct, hy, hcell⟩ := hel T hT
    obtain ⟨aoT, capT, rfl, hrs⟩ := Tape_rd hy
    have hcT : w2.cell? ⟨tb, toff + T * 2 + 1, none⟩ = some (.slice aoT (d.tapes.2 T).recs.1 capT) := by have := hcell 1 (by decide); exact this
    have hmT : (d.tapes.2 T).recs.1 ≤ 1048576 := by
      have : T = 0 ∨ T = 1 := by omega
      rcases this with rfl | rfl <;> omega
    have hEach := V.each
    have CD := delete_missing g cap l.length lo hi (fun i => recT d.tapes.2 2 (l.getD i 0)) ce w.heap.size (w.heap.size + 1) (fun i => hasB (d.tapes.2 T).recs.1 (d.tapes.2 T).recs.2 (recT d.tapes.2 2 (l.getD i 0))) w2 V (by omega) (by omega) hlen (fun k hk w' hch => by
      have bl : Below W.heap.size w2 w' := hch.bel (fun b hb => by simp at hb; omega) (by omega)
      have hz := hch.size
      exact missOne_any T w.heap.size (w.heap.size + 1) tb toff cap3 (d.tapes.2 T).recs.1 capT aoT (d.tapes.2 T).recs.2 (recT d.tapes.2 2 (l.getD k 0)) (ce k) hi w' ((bl.cell (p := ⟨w.heap.size, 0, none⟩) (by show w.heap.size < _; omega)).trans y0) ((bl.cell (p := ⟨w.heap.size + 1, 0, none⟩) (by show w.heap.size + 1 < _; omega)).trans y1) ((bl.cell (p := ⟨tb, toff + T * 2 + 1, none⟩) (by show tb < _; omega)).trans hcT) (by omega) (by omega) (by omega) hT (Lay.rd_below _ hrs bl (by omega)) (layRec.rd_below (hEach k hk) bl (by omega)) (by omega) hmT)
    have HGLO : Hid (lo ≤ g ∧ g < w2.heap.size) := hglo
    clear V y0 y1 hEach hrs hcT hcell hel hc hy hglo
    go_wp2_with fail
    refine CD.mono ?_
    rintro e w3 ⟨rfl, V3, C3⟩
    have z3 := C3.size
    have hgl := HGLO.out
    have HB3 : Hid (Below w.heap.size w w3) := HB2.out.trans (C3.bel (fun b hb => by simp at hb; omega) HB2.out.size)
    have HR3 : Hid ((layRec.slice 92).rd w3 w3.heap.size (missOf d T l) [.slice (some ⟨g, 0, none⟩) (keptI (missP d T l) l.length).length cap]) := V3.rd (by omega)
    have eK : (keptI (fun i => !hasB (d.tapes.2 T).recs.1 (d.tapes.2 T).recs.2 (recT d.tapes.2 2 (l.getD i 0))) l.length).length = (keptI (missP d T l) l.length).length := rfl
    rw [eK]
    clear V3 C3 CD hgl eK
    go_wp2
    go_ret
    exact ⟨_, l, rfl, HL.out, HR3.out, HB3.out⟩
set_option maxHeartbeats 16000000 in
set_option maxRecDepth 20000 in
theorem implMiss_any (d : WorldD) (t : Int) (cs : List Value) (hi : Nat) (w : World) (h : layWorld.rd w hi d cs) (hhi : hi ≤ w.heap.size) (hsz : szWorldD d ≤ 1048576) :
    Calls Tryz.prog 19 #[.agg cs.toArray, .int .i64 t] w (RcPost (MissAns d t) w) := by
  have h' := h
  obtain ⟨ao1, cap1, ao2, cap2, ao3, cap3, rfl, g1, g2, g3, k0, k4, k5⟩ := World_rd h'
  have HRD : Hid (layWorld.rd w hi d [.int .i64 (d.shape 0), .int .i64 (d.shape 1), .int .i64 (d.shape 2), .int .i64 (d.shape 3), .int .i64 (d.shape 4), .int .i64 (d.shape 5), .int .i64 (d.shape 6), .int .i64 (d.shape 7), .int .i64 (d.shape 8), .slice ao1 d.groups.1 cap1, .slice ao2 d.on.1 cap2, .slice ao3 d.tapes.1 cap3, .int .i64 d.writes, .int .i64 d.stop, .bool d.down]) := h
  have HG3 : Hid ((layTape.slice 88).rd w hi d.tapes [.slice ao3 d.tapes.1 cap3]) := g3
  have HSZ : Hid (szWorldD d ≤ 1048576) := hsz
  clear h h' hsz g1 g2 g3 k0 k4 k5
  have T0 := two_newb w #[.int .i64 (d.shape 0), .int .i64 (d.shape 1), .int .i64 (d.shape 2), .int .i64 (d.shape 3), .int .i64 (d.shape 4), .int .i64 (d.shape 5), .int .i64 (d.shape 6), .int .i64 (d.shape 7), .int .i64 (d.shape 8), .slice ao1 d.groups.1 cap1, .slice ao2 d.on.1 cap2, .slice ao3 d.tapes.1 cap3, .int .i64 d.writes, .int .i64 d.stop, .bool d.down] #[.int .i64 0, .slice none 0 0] 38 32
  go_enter Tryz.func19, Tryz.ntmps19
  go_wp2_with (refine wp_loadBox 38 (.tmp 2) rfl rfl (w.heap.size) rfl (cs := [.int .i64 (d.shape 0), .int .i64 (d.shape 1), .int .i64 (d.shape 2), .int .i64 (d.shape 3), .int .i64 (d.shape 4), .int .i64 (d.shape 5), .int .i64 (d.shape 6), .int .i64 (d.shape 7), .int .i64 (d.shape 8), .slice ao1 d.groups.1 cap1, .slice ao2 d.on.1 cap2, .slice ao3 d.tapes.1 cap3, .int .i64 d.writes, .int .i64 d.stop, .bool d.down]) (T0.b1) Tryz.underlying38 size_W rfl ?_)
  refine (implWorld_any d _ hi _ (layWorld.rd_below HRD.out T0.bel hhi) (Nat.le_trans hhi T0.bel.size) (wld_ok_names HSZ.out)).mono ?_
  rintro e w1 ⟨x, rfl, hx, b1⟩
  have HT1 : Hid (Two w w1 #[.int .i64 (d.shape 0), .int .i64 (d.shape 1), .int .i64 (d.shape 2), .int .i64 (d.shape 3), .int .i64 (d.shape 4), .int .i64 (d.shape 5), .int .i64 (d.shape 6), .int .i64 (d.shape 7), .int .i64 (d.shape 8), .slice ao1 d.groups.1 cap1, .slice ao2 d.on.1 cap2, .slice ao3 d.tapes.1 cap3, .int .i64 d.writes, .int .i64 d.stop, .bool d.down] #[.int .i64 0, .slice none 0 0] 38 32) := T0.call b1
  have HX : Hid (WldAns d x) := hx
  have z1 : w.heap.size + 1 < w1.heap.size := HT1.out.b2.lt
  clear b1 T0 hx
  by_cases hx0 : x = 0
  case neg =>
    have hne : (x != 0) = true := by simp [hx0]
    go_wp2_with (refine wp_storeBox 32 _ _ rfl rfl (w.heap.size + 1) rfl (cs := [.int .i64 x, .slice none 0 0]) (old := [.int .i64 0, .slice none 0 0]) rfl (HT1.out.b2) size_Rc rfl rfl ((rcode_own w1 x (wld_small HX.out) 0 0).one) ?_; intro w9 X9 C9 z9)
    refine ret_box Tryz.results19 rfl X9 Tryz.underlying32 size_Rc rfl rfl ?_
    have zz := C9.size
    exact ⟨⟨x, (0, fun _ => rec0)⟩, [.int .i64 x, .slice none 0 0], rfl, .inl ⟨x, hx0, HX.out, rfl⟩, rcode_own w9 x (wld_small HX.out) _ _, HT1.out.bel.trans (C9.bel (fun b hb => by simp at hb; omega) HT1.out.bel.size)⟩
  subst hx0
  have HOK : Hid (OkWorld d) := WldAns.ok HX.out
  have h2 : d.tapes.1 = 2 := HOK.out.form.2.2
  have hn0 : (d.tapes.2 0).recs.1 ≤ 400000 := Nat.le_trans (HOK.out.few 0 (by omega)) (by decide)
  have hn1 : (d.tapes.2 1).recs.1 ≤ 400000 := Nat.le_trans (HOK.out.few 1 (by omega)) (by decide)
  obtain ⟨b, hb⟩ : ∃ b : Bool, (b = true ↔ InP t 0 1) := ⟨@decide (InP t 0 1) (Classical.propDecidable _), @decide_eq_true_iff _ (Classical.propDecidable _)⟩
  have CB := isTape_c hb w1
  have HBB : Hid (b = true ↔ InP t 0 1) := hb
  clear hb
  go_wp2_with fail
  refine CB.mono ?_
  rintro e wq ⟨rfl, eq⟩
  obtain rfl := eq.symm
  clear CB
  cases b with
  | false =>
    have HNT : Hid (¬ InP t 0 1) := fun h => absurd (HBB.out.2 h) (by simp)
    go_wp2_with (refine wp_storeBox 32 _ _ rfl rfl (w.heap.size + 1) rfl (cs := [.int .i64 3, .slice none 0 0]) (old := [.int .i64 0, .slice none 0 0]) rfl (HT1.out.b2) size_Rc rfl rfl ((rcode_own w1 3 (by decide) 0 0).one) ?_; intro w9 X9 C9 z9)
    refine ret_box Tryz.results19 rfl X9 Tryz.underlying32 size_Rc rfl rfl ?_
    have zz := C9.size
    exact ⟨⟨3, (0, fun _ => rec0)⟩, [.int .i64 3, .slice none 0 0], rfl, .inr (.inl ⟨HX.out, HNT.out, rfl⟩), rcode_own w9 3 (by decide) _ _, HT1.out.bel.trans (C9.bel (fun b hb => by simp at hb; omega) HT1.out.bel.size)⟩
  | true =>
  have hIn : InP t 0 1 := HBB.out.1 (by simp)
  obtain ⟨T, hTe⟩ : ∃ T : Nat, t = (T : Int) := ⟨t.toNat, by have := hIn.1; omega⟩
  subst hTe
  have hT2 : T < 2 := by have := hIn.2; omega
  have HIN : Hid (InP (T : Int) 0 1) := hIn
  clear hIn HBB
  have x11 : w1.cell? ⟨w.heap.size, 11, none⟩ = some (.slice ao3 2 cap3) := by have := HT1.out.b1.cell 11; rw [h2] at this; exact this
  have G3 : (layTape.slice 88).rd w1 hi (2, d.tapes.2) [.slice ao3 2 cap3] := by
    have := Lay.rd_below _ HG3.out HT1.out.bel hhi
    rw [h2] at this
    rw [show d.tapes = (2, d.tapes.2) from Prod.ext h2 rfl] at this
    exact this
  have CC := missingOn_any d T ao3 cap3 hi w1 G3 (by omega) hT2 hn0 hn1
  clear G3
  go_wp2_with fail
  refine CC.mono ?_
  rintro e w2 ⟨v2, l, rfl, hCt, hrd, b2⟩
  have HL : Hid (Cnt (recT d.tapes.2 2) (lenT d.tapes.2 2) l) := hCt
  have z2 : w1.heap.size ≤ w2.heap.size := b2.size
  have CT := tellRecs_any v2 (missOf d T l) w2.heap.size w2 hrd (Nat.le_refl _) (miss_size h2 HSZ.out hCt T)
  have HT2 : Hid (Two w w2 #[.int .i64 (d.shape 0), .int .i64 (d.shape 1), .int .i64 (d.shape 2), .int .i64 (d.shape 3), .int .i64 (d.shape 4), .int .i64 (d.shape 5), .int .i64 (d.shape 6), .int .i64 (d.shape 7), .int .i64 (d.shape 8), .slice ao1 d.groups.1 cap1, .slice ao2 d.on.1 cap2, .slice ao3 d.tapes.1 cap3, .int .i64 d.writes, .int .i64 d.stop, .bool d.down] #[.int .i64 0, .slice none 0 0] 38 32) := HT1.out.call b2
  obtain ⟨a2, c2, rfl⟩ : ∃ a2 c2, v2 = .slice a2 (missOf d T l).1 c2 := by
    obtain ⟨a2, c2, e, _⟩ := hrd
    exact ⟨a2, c2, by simpa using e⟩
  clear hrd b2 hCt CC HT1 x11
  go_wp2_with fail
  refine CT.mono ?_
  rintro e w3 ⟨cs3, rfl, O3, b3⟩
  have HT3 : Hid (Two w w3 #[.int .i64 (d.shape 0), .int .i64 (d.shape 1), .int .i64 (d.shape 2), .int .i64 (d.shape 3), .int .i64 (d.shape 4), .int .i64 (d.shape 5), .int .i64 (d.shape 6), .int .i64 (d.shape 7), .int .i64 (d.shape 8), .slice ao1 d.groups.1 cap1, .slice ao2 d.on.1 cap2, .slice ao3 d.tapes.1 cap3, .int .i64 d.writes, .int .i64 d.stop, .bool d.down] #[.int .i64 0, .slice none 0 0] 38 32) := HT2.out.call b3
  obtain ⟨a3, c3, rfl⟩ := RecsResult_cells O3
  have HO3 : Hid (OwnT layRecsResult w3 w2.heap.size w3.heap.size ⟨0, missOf d T l⟩ [.int .i64 0, .slice a3 (missOf d T l).1 c3]) := O3
  clear O3 b3 CT HT2
  go_wp2_with (refine wp_storeBox 32 _ _ rfl rfl (w.heap.size + 1) rfl (cs := [.int .i64 0, .slice a3 (missOf d T l).1 c3]) (old := [.int .i64 0, .slice none 0 0]) rfl (HT3.out.b2) size_Rc rfl rfl (HO3.out.one) ?_; intro w9 X9 C9 z9)
  refine ret_box Tryz.results19 rfl X9 Tryz.underlying32 size_Rc rfl rfl ?_
  have zz := C9.size
  have O9 := (HO3.out.chgk C9 (fun b hb => by simp at hb; omega)).weaken (lo' := w.heap.size) (hi' := w9.heap.size) (by omega) zz
  exact ⟨_, _, rfl, .inr (.inr ⟨HX.out, HIN.out, l, HL.out, rfl⟩), O9, HT3.out.bel.trans (C9.bel (fun b hb => by simp at hb; omega) HT3.out.bel.size)⟩
end Go.Proofs.YtcdnhhdknkhnkaaGreat
namespace Go.Proofs.YtcdnhhdknkhnkaaGreat
open Go.RowKit F256
theorem run_appendW {α : Type} {E : Lay α} {T e : TypeId} {by_ : Nat} {zs : List Value} (I : ElInfo E T e by_ zs) (R1 : RdOne E) (ty : TypeId) {W : World} {lo hi n : Nat} {v : Value} {x : Nat → α} {ce : Nat → List Value} (h : View E e W lo hi v n x ce)
    {ao : Option Addr} {m : Nat} (c : Nat) {y : Nat → α} {cy : Nat → List Value} (hs : Src E W hi ao m y cy) (hlo : lo ≤ W.heap.size) (hhi : hi ≤ lo) (hn : n + m ≤ 10000000) (hc0 : ao = none → c = 0 ∨ m = 0) :
    ∃ v' w', (Builtin.append_ #[T, T] ty #[v, .slice ao m c]).run Tryz.prog W = .ok v' w' ∧ View E e w' lo hi v' (n + m) (cat2 x n y) (cat2 ce n cy) ∧ W.grownBy w' v.ownBlock ∧ Below lo W w' ∧ (v'.ownBlock = v.ownBlock ∨ v'.ownBlock = some W.heap.size) := by
  obtain ⟨hz, hzs, hu, hinf, few⟩ := I
  obtain ⟨i0, hi0⟩ : ∃ i0, Tryz.prog.info? e = some i0 := by
    cases h : Tryz.prog.info? e with
    | none => rw [h] at hinf; cases hinf
    | some i0 => exact ⟨i0, rfl⟩
  rw [hi0] at hinf
  simp only [Option.map_some, Option.some.injEq, Prod.mk.injEq] at hinf
  obtain ⟨h1, h2, h3⟩ := hinf
  obtain ⟨z, hz0, hzc⟩ : ∃ z, i0.zero = some z ∧ z.cells = zs.toArray := by
    cases h : i0.zero with
    | none => rw [h] at h1; cases h1
    | some z => rw [h] at h1; exact ⟨z, rfl, by simpa using h1⟩
  obtain ⟨hcell, hrd⟩ := hs
  have hlen : (catN m cy).length = m * E.sz := catN_len (fun j hj => E.rd_len (hrd j hj))
  have big : ∀ ad, ao = some ad → (∀ j u, (catN m cy)[j]? = some u → W.cell? (ad.add j) = some u) → ∃ v' w', (Builtin.append_ #[T, T] ty #[v, .slice ao m c]).run Tryz.prog W = .ok v' w' ∧ View E e w' lo hi v' (n + m) (cat2 x n y) (cat2 ce n cy) ∧ W.grownBy w' v.ownBlock ∧ Below lo W w' ∧ (v'.ownBlock = v.ownBlock ∨ v'.ownBlock = some W.heap.size) := fun ad ha hc => by
    subst ha
    obtain ⟨v', w', hr, r1, r2, r3, r4⟩ := run_append_own_at (P := Tryz.prog) W lo T ty e i0 z E.sz by_ hu hi0 hz0 h2 h3 (by rw [hzc]; simpa using hzs) hz v n (catN n ce) h.row ad m c (catN m cy) hlen hc
      (fun u hu => by
        obtain ⟨i, hi, hm⟩ := mem_catN.1 hu
        exact R1 _ _ _ _ (hrd i hi) u hm) (by unfold maxLen; omega) (by
        have : (n + m) * by_ ≤ 10000000 * 1000 := Nat.mul_le_mul hn few
        omega) hlo
    have hb : Below lo W w' := (Below.refl _ _).grown r2 hlo (fun k hk => (h.row.lt k hk).1)
    refine ⟨v', w', hr, ⟨by rw [catN_cat2]; exact r1, fun i hi => ?_⟩, r2, hb, r4⟩
    by_cases c1 : i < n
    · rw [cat2_lt x y c1, cat2_lt ce cy c1]
      exact E.rd_below (h.each i c1) hb hhi
    · obtain ⟨k, rfl⟩ : ∃ k, i = n + k := ⟨i - n, by omega⟩
      rw [cat2_ge, cat2_ge]
      exact E.rd_below (hrd k (by omega)) hb hhi
  by_cases hm : m = 0
  · subst hm
    cases ao with
    | some ad => exact big ad rfl (fun j u hj => by rw [catN_zero] at hj; simp at hj)
    | none =>
      refine ⟨v, W, run_append_none' W lo T ty e i0 E.sz hu hi0 v n c _ h.row, ⟨by rw [catN_cat2, catN_zero, List.append_nil]; exact h.row, fun i hi => ?_⟩, ⟨rfl, rfl, rfl, Nat.le_refl _, fun _ _ _ => rfl⟩, Below.refl _ _, .inl rfl⟩
      have hi' : i < n := by omega
      rw [cat2_lt x y hi', cat2_lt ce cy hi']
      exact h.each i hi'
  · obtain ⟨b, off, rfl, hcc⟩ := hcell hm
    refine big _ rfl (fun j u hj => ?_)
    have hj' : j < m * E.sz := by rw [← hlen]; exact (List.getElem?_eq_some_iff.1 hj).1
    have e1 : j / E.sz < m := Nat.div_lt_of_lt_mul (by rw [Nat.mul_comm]; exact hj')
    have e2 : j % E.sz < E.sz := Nat.mod_lt _ hz
    have e3 : j / E.sz * E.sz + j % E.sz = j := by rw [Nat.mul_comm]; exact Nat.div_add_mod j E.sz
    rw [add_oo, ← e3, hcc _ e1 _ e2, ← catN_get (fun j hj => E.rd_len (hrd j hj)) e1 e2, e3]
    exact hj
theorem wp_build1R {ops : Array Oper} {rest : List Oper} {o : Oper} {a : Act} {W : World} {Q : Exit → Act → World → Prop} (hg : o.guard = none) (x : Operand) (hop : o.op = Op.buildSlice 30 1 #[(0, x)]) {w0 : World} {hi0 : Nat} {r : RecD} {cs : List Value} (hr : layRec.rd w0 hi0 r cs) (hx : a.eval x = .agg cs.toArray)
    (h : wpList Tryz.prog ops Q rest (a.put o.dst (.slice (some ⟨W.heap.size, 0, none⟩) 1 1)) (W.alloc (.cells cs.toArray 92))) : wpList Tryz.prog ops Q (o :: rest) a W := by
  refine wpList_plain hg fun K hK' => ?_
  have := step_build1R (ops := ops) (K := K) (Q := Q) (F := True) hg x hop hr hx (hK' _ _ h)
  rw [if_pos (by simp [Region.wanted, hg])] at this
  exact this
end Go.Proofs.YtcdnhhdknkhnkaaGreat
namespace Go.Proofs.YtcdnhhdknkhnkaaGreat
open Go.RowKit F256
theorem selF_here {p : Nat → Bool} {k n : Nat} (hk : k < n) (hp : p k = true) : selF p n (keptI p k).length = k ∧ ∀ m, m ≤ n → k < m → (keptI p k).length < (keptI p m).length := by
  have h2 : ∀ m, m ≤ n → k < m → (keptI p k).length < (keptI p m).length ∧ selF p m (keptI p k).length = k := fun m => by
    induction m with
    | zero => intro _ h; omega
    | succ m ih =>
      intro h1 h2
      by_cases c : k = m
      · subst c
        exact ⟨by rw [kept_succ, if_pos hp]; simp, selF_last hp⟩
      · obtain ⟨a, b⟩ := ih (by omega) (by omega)
        exact ⟨by rw [kept_succ, List.length_append]; omega, by rw [selF_more a]; exact b⟩
  exact ⟨(h2 n (Nat.le_refl _) hk).2, fun m h1 h3 => (h2 m h1 h3).1⟩
set_option maxHeartbeats 16000000 in
set_option maxRecDepth 20000 in
theorem l6Missing_any (d : WorldD) (cs : List Value) (T hi B : Nat) (w : World) (h : layWorld.rd w hi d cs) (hhi : hi ≤ w.heap.size) (hBX : Box w B cs.toArray 38) (h2 : d.tapes.1 = 2) (hT : T < 2) (hn0 : (d.tapes.2 0).recs.1 ≤ 400000) (hn1 : (d.tapes.2 1).recs.1 ≤ 400000) :
    Calls Tryz.prog 46 #[.pointer (some ⟨B, 0, none⟩), .int .i64 (T : Int)] w (fun e w' => ∃ v' l, e = .returned v' ∧ Cnt (recT d.tapes.2 2) (lenT d.tapes.2 2) l ∧ (layRec.slice 92).rd w' w'.heap.size (missOf d T l) [v'] ∧ Below w.heap.size w w') := by
  have bL : Below w.heap.size w (w.alloc (.cells #[] 92)) := (Below.refl _ _).alloc (Nat.le_refl _) _
  have hBlt := hBX.lt
  have CC := l6Counted_any d cs hi B (w.alloc (.cells #[] 92)) (layWorld.rd_below h bL hhi) (Nat.le_trans hhi bL.size) (hBX.below bL hBlt) h2 hn0 hn1
  obtain ⟨ao1, cap1, ao2, cap2, ao3, cap3, rfl, g1, g2, g3, k0, k4, k5⟩ := World_rd h
  obtain ⟨ao3', cap3', e, hmm, hc⟩ := g3
  simp only [List.cons.injEq, Value.slice.injEq, true_and, and_true] at e
  obtain ⟨rfl, rfl⟩ := e
  obtain ⟨tb, toff, rfl, hbh, hel⟩ := hc (by rw [h2]; simp)
  rw [h2] at hel
  obtain ⟨ct, hy, hcell⟩ := hel T hT
  obtain ⟨aoT, capT, rfl, hrs⟩ := Tape_rd hy
  have HcT : Hid (w.cell? ⟨tb, toff + T * 2 + 1, none⟩ = some (.slice aoT (d.tapes.2 T).recs.1 capT)) := by have := hcell 1 (by decide); exact this
  have HRS : Hid ((layRec.slice 92).rd w hi ((d.tapes.2 T).recs.1, (d.tapes.2 T).recs.2) [.slice aoT (d.tapes.2 T).recs.1 capT]) := hrs
  have hmT : (d.tapes.2 T).recs.1 ≤ 1048576 := by
    have : T = 0 ∨ T = 1 := by omega
    rcases this with rfl | rfl <;> omega
  have HBX : Hid (w.cell? ⟨B, 11, none⟩ = some (.slice (some ⟨tb, toff, none⟩) 2 cap3)) := by have := hBX.cell 11; rw [h2] at this; exact this
  have zL : w.heap.size < (w.alloc (.cells #[] 92)).heap.size := (box_new w #[] 92).lt
  clear h hc hmm g1 g2 k0 k4 k5 hel hBX hrs hcell hy
  go_enter Tryz.func46, Tryz.ntmps46
  go_wp2_with fail
  refine CC.mono ?_
  rintro e w2 ⟨v2, l, ce, lo2, rfl, hCt, hlo2, V, b2⟩
  have HL : Hid (Cnt (recT d.tapes.2 2) (lenT d.tapes.2 2) l) := hCt
  have hlen : l.length ≤ 1048576 := by
    have h1 := (hCt.sum (fun _ => 0)).2
    have e2 : lenT d.tapes.2 2 = (d.tapes.2 0).recs.1 + (d.tapes.2 1).recs.1 := by simp [lenT]
    omega
  have HB2 : Hid (Below w.heap.size w w2) := bL.trans (b2.mono (by omega))
  have z2 : w.heap.size < w2.heap.size := by have := b2.size; omega
  obtain ⟨P, hP⟩ : ∃ P, P = missP d T l := ⟨_, rfl⟩
  have HP : Hid (P = missP d T l) := hP
  obtain ⟨x0, hx0⟩ : ∃ x, x = recT d.tapes.2 2 := ⟨_, rfl⟩
  have HX0 : Hid (x0 = recT d.tapes.2 2) := hx0
  rw [← hx0] at V
  obtain ⟨n, hn⟩ : ∃ n, n = l.length := ⟨_, rfl⟩
  have HN : Hid (n = l.length) := hn
  rw [← hn] at V hlen
  have V0 : View layRec 92 w2 w.heap.size hi (.slice (some ⟨w.heap.size, 0, none⟩) 0 0) 0 (fun i => x0 (l.getD (selF P n i) 0)) (fun _ => []) := (View.lit0 (E := layRec) (t := 92) (fun i => x0 (l.getD (selF P n i) 0)) (fun _ => []) w hi).below b2 (by omega)
  have HV2 : Hid (View layRec 92 w2 lo2 hi v2 n (fun i => x0 (l.getD i 0)) ce) := V
  obtain ⟨aC, capC, hvC⟩ := V.form
  subst hvC
  clear V b2 hCt CC hP hx0 hn bL
  go_wp2
  go_loopw [5, 7] (fun vo vi wr => ∃ (k : Nat) (co : Nat → List Value), k ≤ n ∧ vi = .int .i64 k ∧ View layRec 92 wr w.heap.size hi vo (keptI P k).length (fun i => x0 (l.getD (selF P n i) 0)) co ∧ (∀ b, vo.ownBlock = some b → aC ≠ some ⟨b, 0, none⟩) ∧ View layRec 92 wr lo2 hi (.slice aC n capC) n (fun i => x0 (l.getD i 0)) ce ∧ Below w.heap.size w wr) (fun _ i _ => n - (intOf i).toNat)
  case atStart => exact ⟨0, fun _ => [], Nat.zero_le _, rfl, V0, fun b hb e => by
    simp [Value.ownBlock] at hb
    subst hb
    have := HV2.out.row.lt w.heap.size (by rw [e]; rfl)
    omega, HV2.out, HB2.out⟩
  case round =>
    clear V0
    obtain ⟨k, co, hk, rfl, VO, hap, VC, bw⟩ := hrel
    have HVO : Hid (View layRec 92 wr w.heap.size hi u5 (keptI P k).length (fun i => x0 (l.getD (selF P n i) 0)) co) := VO
    have HAP : Hid (∀ b, u5.ownBlock = some b → aC ≠ some ⟨b, 0, none⟩) := hap
    have HVC : Hid (View layRec 92 wr lo2 hi (.slice aC n capC) n (fun i => x0 (l.getD i 0)) ce) := VC
    have HBW : Hid (Below w.heap.size w wr) := bw
    have zr := bw.size
    by_cases hlt : k < n
    · obtain ⟨gC, cC', hgC⟩ := VC.form0 (by omega)
      have VCD := VC.drew
      have rgC : wr.drew.rangeAt gC (k * 9) (ce k) := by rw [hgC] at VCD; exact VCD.range hlt
      have rgC' : wr.rangeAt gC (k * 9) (ce k) := rgC
      obtain ⟨rfl, rfl⟩ : aC = some ⟨gC, 0, none⟩ ∧ capC = cC' := by simpa using hgC
      have hcK : (ce k).length = 9 := VCD.lens k hlt
      have rdK := VCD.each k hlt
      have bD : Below wr.heap.size wr wr.drew := ⟨rfl, rfl, rfl, Nat.le_refl _, fun _ _ => rfl⟩
      have CH0 := l6Holds_any (.slice aoT (d.tapes.2 T).recs.1 capT) (d.tapes.2 T).recs.1 (d.tapes.2 T).recs.2 (x0 (l.getD k 0)) (ce k) hi wr.drew (Lay.rd_below _ HRS.out (bw.trans (bD.mono zr)) hhi) rdK (by show hi ≤ wr.heap.size; omega) hmT
      obtain ⟨cK, hcKe⟩ : ∃ c, c = ce k := ⟨_, rfl⟩
      rw [← hcKe] at rgC rgC' hcK CH0
      have rdK' : layRec.rd wr hi (x0 (l.getD k 0)) cK := by rw [hcKe]; exact VC.each k hlt
      obtain ⟨mT, hmTe⟩ : ∃ m, m = (d.tapes.2 T).recs.1 := ⟨_, rfl⟩
      have HPK : Hid (P k = !(hasB mT (d.tapes.2 T).recs.2 (x0 (l.getD k 0)))) := by rw [HP.out, HX0.out, hmTe]; exact rfl
      rw [← hmTe] at CH0
      have CH : Calls Tryz.prog 57 (#[.slice aoT mT capT, .agg cK.toArray] ++ #[]) wr.drew (BoolP (∃ i, i < mT ∧ SameR ((d.tapes.2 T).recs.2 i) (x0 (l.getD k 0))) wr.drew) := by rw [Array.append_empty]; exact CH0
      have c0 : wr.drew.cell? ⟨B, 11, none⟩ = some (.slice (some ⟨tb, toff, none⟩) 2 cap3) := (bw.cell (p := ⟨B, 11, none⟩) hBlt).trans HBX.out
      have c1 : wr.drew.cell? ⟨tb, toff + T * 2 + 1, none⟩ = some (.slice aoT mT capT) := by rw [hmTe]; exact (bw.cell (p := ⟨tb, toff + T * 2 + 1, none⟩) (by show tb < _; omega)).trans HcT.out
      have i1 : (0 : Int) ≤ (k : Int) := by omega
      have i2 : (k : Int) < (n : Int) := by omega
      have i3 : (0 : Int) ≤ (T : Int) := by omega
      have i4 : (T : Int) < 2 := by omega
      obtain ⟨aO, cO, hvO⟩ := VO.form
      subst hvO
      have hkk : (keptI P k).length ≤ k := (kept_sum P (fun _ => 0) k).2
      obtain ⟨qk, hqk⟩ : ∃ q, q = (keptI P k).length := ⟨_, rfl⟩
      have HQK : Hid (qk = (keptI P k).length) := hqk
      rw [← hqk] at hkk HAP HVO ⊢
      clear CH0 VCD rdK hcKe hgC VO VC bw hap hmTe hqk
      go_upto_region 6 with fail
      refine wp_region_M 12 (fun w' => w'.rangeAt gC (k * 9) cK ∧ w'.cell? ⟨B, 11, none⟩ = some (.slice (some ⟨tb, toff, none⟩) 2 cap3) ∧ w'.cell? ⟨tb, toff + T * 2 + 1, none⟩ = some (.slice aoT mT capT)) mixedO ⟨rgC, c0, c1⟩ (fun hHeld => ?_)
      refine wpAnyM_pure (i := 0) (oi := _) (v := ?_) rfl (by kernel_rfl) (fun _ _ _ h => h) (Or.inl ⟨by kernel_rfl, ?_⟩) (by assumption) ?_
      rotate_left
      · intro w' hSw; go_simp; try with_reducible rfl
      try simp only [Act.put, SL]
      refine wpAnyM_pure (i := 1) (oi := _) (v := ?_) rfl (by kernel_rfl) (fun _ _ _ h => h) (Or.inl ⟨by kernel_rfl, ?_⟩) (by assumption) ?_
      rotate_left
      · intro w' hSw; go_simp; try with_reducible rfl
      try simp only [Act.put, SL]
      refine wpAnyM_pure (i := 2) (oi := _) (v := ?_) rfl (by kernel_rfl) (fun _ _ _ h => h) (Or.inl ⟨by kernel_rfl, ?_⟩) (by assumption) ?_
      rotate_left
      · intro w' hSw; go_simp; try with_reducible rfl
      try simp only [Act.put, SL]
      refine wpAnyM_take (i := 3) (oi := _) (v := ?_) 16 rfl (by kernel_rfl) (fun _ _ _ h => h) (Or.inl ⟨by kernel_rfl, ?_⟩) (by assumption) ?_
      rotate_left
      · intro w' hSw
        try dsimp only at hSw
        obtain ⟨hq0, hq1, hq2⟩ := hSw
        go_simp
        try with_reducible rfl
      try simp only [Act.put, SL]
      refine wpAnyM_pure (i := 4) (oi := _) (v := ?_) rfl (by kernel_rfl) (fun _ _ _ h => h) (Or.inl ⟨by kernel_rfl, ?_⟩) (by assumption) ?_
      rotate_left
      · intro w' hSw; go_simp; try with_reducible rfl
      try simp only [Act.put, SL]
      refine wpAnyM_pure (i := 5) (oi := _) (v := ?_) rfl (by kernel_rfl) (fun _ _ _ h => h) (Or.inl ⟨by kernel_rfl, ?_⟩) (by assumption) ?_
      rotate_left
      · intro w' hSw; go_simp; try with_reducible rfl
      try simp only [Act.put, SL]
      refine wpAnyM_pure (i := 6) (oi := _) (v := ?_) rfl (by kernel_rfl) (fun _ _ _ h => h) (Or.inl ⟨by kernel_rfl, ?_⟩) (by assumption) ?_
      rotate_left
      · intro w' hSw; go_simp; try with_reducible rfl
      try simp only [Act.put, SL]
      refine wpAnyM_take (i := 7) (oi := _) (v := ?_) 16 rfl (by kernel_rfl) (fun _ _ _ h => h) (Or.inl ⟨by kernel_rfl, ?_⟩) (by assumption) ?_
      rotate_left
      · intro w' hSw
        try dsimp only at hSw
        obtain ⟨hq0, hq1, hq2⟩ := hSw
        go_simp
        try with_reducible rfl
      try simp only [Act.put, SL]
      refine wpAnyM_pure (i := 8) (oi := _) (v := ?_) rfl (by kernel_rfl) (fun _ _ _ h => h) (Or.inl ⟨by kernel_rfl, ?_⟩) (by assumption) ?_
      rotate_left
      · intro w' hSw; go_simp; try with_reducible rfl
      try simp only [Act.put, SL]
      refine wpAnyM_pure (i := 9) (oi := _) (v := ?_) rfl (by kernel_rfl) (fun _ _ _ h => h) (Or.inl ⟨by kernel_rfl, ?_⟩) (by assumption) ?_
      rotate_left
      · intro w' hSw; go_simp; try with_reducible rfl
      try simp only [Act.put, SL]
      refine wpAnyM_pure (i := 10) (oi := _) (v := ?_) rfl (by kernel_rfl) (fun _ _ _ h => h) (Or.inl ⟨by kernel_rfl, ?_⟩) (by assumption) ?_
      rotate_left
      · intro w' hSw; go_simp; try with_reducible rfl
      try simp only [Act.put, SL]
      refine wpAnyM_take (i := 11) (oi := _) (v := .agg cK.toArray) 16 rfl (by kernel_rfl) (fun _ _ _ h => h) (yieldsIf_load_mid (by kernel_rfl) 92 (.tmp 27) rfl gC (k * 9) (by simp [Act.eval, Act.put]) cK _ (fun w h => h.1) Tryz.underlying92 rfl (info_Rec9 hcK)) (by assumption) ?_
      try simp only [Act.put, SL]
      refine wpAnyM_one (i := 12) (o := _) rfl (by kernel_rfl) (by kernel_rfl) (fun KC hKC => ?_)
      refine step_callv (by kernel_rfl) (.func 57) 57 #[] _ _ rfl (by simp [Act.eval, Act.put]) #[.slice aoT mT capT, .agg cK.toArray] (by simp [Act.eval, Act.put]) Tryz.func57 (by kernel_rfl) (by kernel_rfl) CH ?_
      rintro ee w5 ⟨t, rfl, ht, b5⟩
      refine ⟨_, rfl, ?_⟩
      refine hKC _ _ ?_
      clear hKC KC
      try simp only [Act.put, SL]
      refine wpAnyM_pureL (i := 13) (oi := _) (v := ?_) rfl (by kernel_rfl) (fun _ _ _ h => h) (Or.inl ⟨by kernel_rfl, ?_⟩) ?_
      rotate_left
      · intro w' hSw; go_simp; try with_reducible rfl
      try simp only [Act.put, SL]
      refine wpAnyM_done (by kernel_rfl) ?_ _
      have b5' : Below wr.heap.size wr w5 := bD.trans b5
      have z5 : wr.heap.size ≤ w5.heap.size := b5'.size
      have HTK : Hid (P k = !t) := by rw [HPK.out, hasB_is ht]; exact rfl
      have HVO5 : Hid (View layRec 92 w5 w.heap.size hi (.slice aO qk cO) qk (fun i => x0 (l.getD (selF P n i) 0)) co) := HVO.out.below b5' (by omega)
      have HVC5 : Hid (View layRec 92 w5 lo2 hi (.slice (some ⟨gC, 0, none⟩) n capC) n (fun i => x0 (l.getD i 0)) ce) := HVC.out.below b5' (by omega)
      have HB5 : Hid (Below w.heap.size w w5) := HBW.out.trans (b5'.mono zr)
      have r5 : w5.rangeAt gC (k * 9) cK := fun j v hv => (b5'.cell (p := ⟨gC, k * 9 + j, none⟩) (HVC.out.row.lt gC rfl).2).trans (rgC' j v hv)
      have rd5 : layRec.rd w5 hi (x0 (l.getD k 0)) cK := layRec.rd_below rdK' b5' (by omega)
      clear ht b5 b5' bD CH rgC rgC' c0 c1 hHeld HVO HVC HBW rdK'
      cases t with
      | true =>
        clear r5 rd5
        go_wp2
        go_roundw
        case rel => exact ⟨k + 1, co, by omega, by go_num, by rw [kept_skip HTK.out, ← HQK.out]; exact HVO5.out, HAP.out, HVC5.out, HB5.out⟩
        case measure => simp [intOf]; omega
      | false =>
        have hpk : P k = true := HTK.out
        have hsel := selF_here (p := P) hlt hpk
        have hqn : (keptI P (k + 1)).length = qk + 1 := by rw [kept_succ, if_pos hpk, List.length_append, ← HQK.out]; rfl
        have bA : Below w5.heap.size w5 (w5.alloc (.cells cK.toArray 92)) := (Below.refl _ _).alloc (Nat.le_refl _) _
        obtain ⟨v8, w8, hrun, V8, hgr, b8, how⟩ := run_appendW el_Rec rdOne_rec 30 (HVO5.out.below bA (by omega)) 1 (src_one (b := w5.heap.size) (hi := hi) (y := x0 (l.getD k 0)) (cs := cK) (fun j hj => by rw [(box_new w5 cK.toArray 92).cell j]; simp) (layRec.rd_below rd5 bA (by omega))) (by simp; omega) (by omega) (by omega) (fun h => by cases h)
        have HV8 : Hid (View layRec 92 w8 w.heap.size hi v8 (keptI P (k + 1)).length (fun i => x0 (l.getD (selF P n i) 0)) (cat2 co qk (fun _ => cK))) := by
          show View _ _ _ _ _ _ _ _ _
          rw [hqn]
          refine V8.congr (fun i hi' => ?_)
          by_cases c : i < qk
          · rw [cat2_lt _ _ c]
          · obtain rfl : i = qk := by omega
            have e1 := cat2_ge (fun i => x0 (l.getD (selF P n i) 0)) i (fun _ => x0 (l.getD k 0)) 0
            rw [Nat.add_zero] at e1
            rw [e1]
            show x0 (l.getD k 0) = x0 (l.getD (selF P n i) 0)
            rw [HQK.out, hsel.1]
        have gCl := HVC5.out.row.lt gC rfl
        have HVC8 : Hid (View layRec 92 w8 lo2 hi (.slice (some ⟨gC, 0, none⟩) n capC) n (fun i => x0 (l.getD i 0)) ce) := by
          have hb8 : Below w.heap.size w5 w8 := (bA.mono (by omega)).trans b8
          refine HVC5.out.kept (fun b hv => ?_) (hb8.mono (by omega))
          have eb : b = gC := by simpa [Value.ownBlock] using hv.symm
          subst eb
          have h1 := hgr.block b (by have := bA.size; omega) (fun h => HAP.out b h.symm rfl)
          exact h1.trans (bA.block b gCl.2)
        have HAP8 : Hid (∀ b, v8.ownBlock = some b → (some ⟨gC, 0, none⟩ : Option Addr) ≠ some ⟨b, 0, none⟩) := fun b hb e => by
          rcases how with h1 | h1
          · exact HAP.out b (by rw [← h1]; exact hb) e
          · rw [h1] at hb
            have e1 : b = (w5.alloc (.cells cK.toArray 92)).heap.size := by simpa using hb.symm
            have e2 : gC = b := by simpa using e
            have := bA.size
            omega
        have HB8 : Hid (Below w.heap.size w w8) := (HB5.out.trans (bA.mono (by omega))).trans b8
        clear V8 b8 bA hgr how gCl hqn hsel hpk
        go_wp2_with (first | (refine wpList_load_mid rfl 92 (.tmp 34) rfl gC (k * 9) (by simp [Act.eval]) cK _ r5 Tryz.underlying92 rfl (info_Rec9 hcK) ?_) | (refine wp_build1R rfl (.tmp 35) rfl rd5 (by simp [Act.eval, Act.put]) ?_) | (at_builtin; refine wp_run2 rfl (.tmp 31) (.tmp 36) rfl ?_ ?_ hrun ?_; (simp [Act.eval, Act.put]); (simp [Act.eval, Act.put])))
        clear hrun r5 rd5
        go_roundw
        case rel => exact ⟨k + 1, _, by omega, by go_num, HV8.out, HAP8.out, HVC8.out, HB8.out⟩
        case measure => simp [intOf]; omega
    · obtain rfl : k = n := by omega
      have HR : Hid ((layRec.slice 92).rd wr wr.heap.size (missOf d T l) [u5]) := by
        have := VO.rd (by omega)
        show (layRec.slice 92).rd wr wr.heap.size (missOf d T l) [u5]
        unfold missOf
        rw [← HP.out, ← HX0.out, ← HN.out]
        exact this
      clear VO VC bw hap hlt
      go_wp2
      go_ret
      exact ⟨_, l, rfl, HL.out, HR.out, HBW.out⟩
set_option maxHeartbeats 16000000 in
set_option maxRecDepth 20000 in
theorem specMiss_any (d : WorldD) (t : Int) (cs : List Value) (hi : Nat) (w : World) (h : layWorld.rd w hi d cs) (hhi : hi ≤ w.heap.size) (hsz : szWorldD d ≤ 1048576) :
    Calls Tryz.prog 18 #[.agg cs.toArray, .int .i64 t] w (RcPost (MissAns d t) w) := by
  have h' := h
  obtain ⟨ao1, cap1, ao2, cap2, ao3, cap3, rfl, g1, g2, g3, k0, k4, k5⟩ := World_rd h'
  have HRD : Hid (layWorld.rd w hi d [.int .i64 (d.shape 0), .int .i64 (d.shape 1), .int .i64 (d.shape 2), .int .i64 (d.shape 3), .int .i64 (d.shape 4), .int .i64 (d.shape 5), .int .i64 (d.shape 6), .int .i64 (d.shape 7), .int .i64 (d.shape 8), .slice ao1 d.groups.1 cap1, .slice ao2 d.on.1 cap2, .slice ao3 d.tapes.1 cap3, .int .i64 d.writes, .int .i64 d.stop, .bool d.down]) := h
  have HG3 : Hid ((layTape.slice 88).rd w hi d.tapes [.slice ao3 d.tapes.1 cap3]) := g3
  have HSZ : Hid (szWorldD d ≤ 1048576) := hsz
  clear h h' hsz g1 g2 g3 k0 k4 k5
  have T0 := two_newb w #[.int .i64 (d.shape 0), .int .i64 (d.shape 1), .int .i64 (d.shape 2), .int .i64 (d.shape 3), .int .i64 (d.shape 4), .int .i64 (d.shape 5), .int .i64 (d.shape 6), .int .i64 (d.shape 7), .int .i64 (d.shape 8), .slice ao1 d.groups.1 cap1, .slice ao2 d.on.1 cap2, .slice ao3 d.tapes.1 cap3, .int .i64 d.writes, .int .i64 d.stop, .bool d.down] #[.int .i64 0, .slice none 0 0] 38 32
  go_enter Tryz.func18, Tryz.ntmps18
  go_wp2_with (refine wp_loadBox 38 (.tmp 2) rfl rfl (w.heap.size) rfl (cs := [.int .i64 (d.shape 0), .int .i64 (d.shape 1), .int .i64 (d.shape 2), .int .i64 (d.shape 3), .int .i64 (d.shape 4), .int .i64 (d.shape 5), .int .i64 (d.shape 6), .int .i64 (d.shape 7), .int .i64 (d.shape 8), .slice ao1 d.groups.1 cap1, .slice ao2 d.on.1 cap2, .slice ao3 d.tapes.1 cap3, .int .i64 d.writes, .int .i64 d.stop, .bool d.down]) (T0.b1) Tryz.underlying38 size_W rfl ?_)
  refine (specWorld_any d _ hi _ (layWorld.rd_below HRD.out T0.bel hhi) (Nat.le_trans hhi T0.bel.size) (wld_ok_names HSZ.out)).mono ?_
  rintro e w1 ⟨x, rfl, hx, b1⟩
  have HT1 : Hid (Two w w1 #[.int .i64 (d.shape 0), .int .i64 (d.shape 1), .int .i64 (d.shape 2), .int .i64 (d.shape 3), .int .i64 (d.shape 4), .int .i64 (d.shape 5), .int .i64 (d.shape 6), .int .i64 (d.shape 7), .int .i64 (d.shape 8), .slice ao1 d.groups.1 cap1, .slice ao2 d.on.1 cap2, .slice ao3 d.tapes.1 cap3, .int .i64 d.writes, .int .i64 d.stop, .bool d.down] #[.int .i64 0, .slice none 0 0] 38 32) := T0.call b1
  have HX : Hid (WldAns d x) := hx
  have z1 : w.heap.size + 1 < w1.heap.size := HT1.out.b2.lt
  clear b1 T0 hx
  by_cases hx0 : x = 0
  case neg =>
    have hne : (x != 0) = true := by simp [hx0]
    go_wp2_with (refine wp_storeBox 32 _ _ rfl rfl (w.heap.size + 1) rfl (cs := [.int .i64 x, .slice none 0 0]) (old := [.int .i64 0, .slice none 0 0]) rfl (HT1.out.b2) size_Rc rfl rfl ((rcode_own w1 x (wld_small HX.out) 0 0).one) ?_; intro w9 X9 C9 z9)
    refine ret_box Tryz.results18 rfl X9 Tryz.underlying32 size_Rc rfl rfl ?_
    have zz := C9.size
    exact ⟨⟨x, (0, fun _ => rec0)⟩, [.int .i64 x, .slice none 0 0], rfl, .inl ⟨x, hx0, HX.out, rfl⟩, rcode_own w9 x (wld_small HX.out) _ _, HT1.out.bel.trans (C9.bel (fun b hb => by simp at hb; omega) HT1.out.bel.size)⟩
  subst hx0
  have HOK : Hid (OkWorld d) := WldAns.ok HX.out
  have h2 : d.tapes.1 = 2 := HOK.out.form.2.2
  have hn0 : (d.tapes.2 0).recs.1 ≤ 400000 := Nat.le_trans (HOK.out.few 0 (by omega)) (by decide)
  have hn1 : (d.tapes.2 1).recs.1 ≤ 400000 := Nat.le_trans (HOK.out.few 1 (by omega)) (by decide)
  obtain ⟨b, hb⟩ : ∃ b : Bool, (b = true ↔ InP t 0 1) := ⟨@decide (InP t 0 1) (Classical.propDecidable _), @decide_eq_true_iff _ (Classical.propDecidable _)⟩
  have CB := l1In_b (v := t) (a := 0) (b := 1) hb w1
  have HBB : Hid (b = true ↔ InP t 0 1) := hb
  clear hb
  go_wp2_with fail
  refine CB.mono ?_
  rintro e wq ⟨rfl, eq⟩
  obtain rfl := eq.symm
  clear CB
  cases b with
  | false =>
    have HNT : Hid (¬ InP t 0 1) := fun h => absurd (HBB.out.2 h) (by simp)
    go_wp2_with (refine wp_storeBox 32 _ _ rfl rfl (w.heap.size + 1) rfl (cs := [.int .i64 3, .slice none 0 0]) (old := [.int .i64 0, .slice none 0 0]) rfl (HT1.out.b2) size_Rc rfl rfl ((rcode_own w1 3 (by decide) 0 0).one) ?_; intro w9 X9 C9 z9)
    refine ret_box Tryz.results18 rfl X9 Tryz.underlying32 size_Rc rfl rfl ?_
    have zz := C9.size
    exact ⟨⟨3, (0, fun _ => rec0)⟩, [.int .i64 3, .slice none 0 0], rfl, .inr (.inl ⟨HX.out, HNT.out, rfl⟩), rcode_own w9 3 (by decide) _ _, HT1.out.bel.trans (C9.bel (fun b hb => by simp at hb; omega) HT1.out.bel.size)⟩
  | true =>
  have hIn : InP t 0 1 := HBB.out.1 (by simp)
  obtain ⟨T, hTe⟩ : ∃ T : Nat, t = (T : Int) := ⟨t.toNat, by have := hIn.1; omega⟩
  subst hTe
  have hT2 : T < 2 := by have := hIn.2; omega
  have HIN : Hid (InP (T : Int) 0 1) := hIn
  clear hIn HBB
  have CC := l6Missing_any d [.int .i64 (d.shape 0), .int .i64 (d.shape 1), .int .i64 (d.shape 2), .int .i64 (d.shape 3), .int .i64 (d.shape 4), .int .i64 (d.shape 5), .int .i64 (d.shape 6), .int .i64 (d.shape 7), .int .i64 (d.shape 8), .slice ao1 d.groups.1 cap1, .slice ao2 d.on.1 cap2, .slice ao3 d.tapes.1 cap3, .int .i64 d.writes, .int .i64 d.stop, .bool d.down] T hi w.heap.size w1 (layWorld.rd_below HRD.out HT1.out.bel hhi) (by omega) HT1.out.b1 h2 hT2 hn0 hn1
  go_wp2_with fail
  refine CC.mono ?_
  rintro e w2 ⟨v2, l, rfl, hCt, hrd, b2⟩
  have HL : Hid (Cnt (recT d.tapes.2 2) (lenT d.tapes.2 2) l) := hCt
  have z2 : w1.heap.size ≤ w2.heap.size := b2.size
  have CT := l5CopyRecs_is v2 (missOf d T l) w2.heap.size w2 hrd (Nat.le_refl _) (miss_size h2 HSZ.out hCt T)
  have HT2 : Hid (Two w w2 #[.int .i64 (d.shape 0), .int .i64 (d.shape 1), .int .i64 (d.shape 2), .int .i64 (d.shape 3), .int .i64 (d.shape 4), .int .i64 (d.shape 5), .int .i64 (d.shape 6), .int .i64 (d.shape 7), .int .i64 (d.shape 8), .slice ao1 d.groups.1 cap1, .slice ao2 d.on.1 cap2, .slice ao3 d.tapes.1 cap3, .int .i64 d.writes, .int .i64 d.stop, .bool d.down] #[.int .i64 0, .slice none 0 0] 38 32) := HT1.out.call b2
  obtain ⟨a2, c2, rfl⟩ : ∃ a2 c2, v2 = .slice a2 (missOf d T l).1 c2 := by
    obtain ⟨a2, c2, e, _⟩ := hrd
    exact ⟨a2, c2, by simpa using e⟩
  clear hrd b2 hCt CC HT1
  go_wp2_with fail
  refine CT.mono ?_
  rintro e w3 ⟨v3, rfl, O3, b3⟩
  have HT3 : Hid (Two w w3 #[.int .i64 (d.shape 0), .int .i64 (d.shape 1), .int .i64 (d.shape 2), .int .i64 (d.shape 3), .int .i64 (d.shape 4), .int .i64 (d.shape 5), .int .i64 (d.shape 6), .int .i64 (d.shape 7), .int .i64 (d.shape 8), .slice ao1 d.groups.1 cap1, .slice ao2 d.on.1 cap2, .slice ao3 d.tapes.1 cap3, .int .i64 d.writes, .int .i64 d.stop, .bool d.down] #[.int .i64 0, .slice none 0 0] 38 32) := HT2.out.call b3
  obtain ⟨a3, c3, rfl⟩ := recs_form O3
  have HO3 : Hid (OwnT layRecsResult w3 w2.heap.size w3.heap.size ⟨0, missOf d T l⟩ [.int .i64 0, .slice a3 (missOf d T l).1 c3]) := rres_own (n := (missOf d T l).1) (f := (missOf d T l).2) O3 0 (by decide)
  clear O3 b3 CT HT2
  go_wp2_with (refine wp_storeBox 32 _ _ rfl rfl (w.heap.size + 1) rfl (cs := [.int .i64 0, .slice a3 (missOf d T l).1 c3]) (old := [.int .i64 0, .slice none 0 0]) rfl (HT3.out.b2) size_Rc rfl rfl (HO3.out.one) ?_; intro w9 X9 C9 z9)
  refine ret_box Tryz.results18 rfl X9 Tryz.underlying32 size_Rc rfl rfl ?_
  have zz := C9.size
  have O9 := (HO3.out.chgk C9 (fun b hb => by simp at hb; omega)).weaken (lo' := w.heap.size) (hi' := w9.heap.size) (by omega) zz
  exact ⟨_, _, rfl, .inr (.inr ⟨HX.out, HIN.out, l, HL.out, rfl⟩), O9, HT3.out.bel.trans (C9.bel (fun b hb => by simp at hb; omega) HT3.out.bel.size)⟩
end Go.Proofs.YtcdnhhdknkhnkaaGreat
namespace Go.Proofs.YtcdnhhdknkhnkaaGreat
open Go.RowKit
section
variable {ops : Array Oper} {Q : Exit → Act → World → Prop} {md : Region.Mode} {S : World → Prop} {L : Nat}
theorem load_yield {o : Oper} {a : Act} (T : TypeId) (x : Operand) (ho : o.op = .load T x) (hg : o.guard = none) (b : Nat) (hx : a.eval x = .pointer (some ⟨b, 0, none⟩)) {cs : List Value} (hB : ∀ w, S w → Box w b cs.toArray T) {fs : Array Field} (hu : Tryz.prog.underlying T = some (.struct fs)) {n : Nat} (hi : (Tryz.prog.info? T).map (·.size) = some n) (hl : cs.length = n) : YieldsIf Tryz.prog ops S o (.agg cs.toArray) a := by
  refine .inl ⟨by simp [Region.wanted, hg], fun w hS => ?_⟩
  unfold execOp
  simp only [ho, hx, Instr.loadAt, Instr.sureAddr, Sem.run_bind, Sem.run_pure, Result.andThen_ok, run_loadVar_row w b T T cs.toArray (0, 0) (.struct fs) (hB w hS) hu rfl (by rw [hi]; simp [hl])]
end
theorem below_drew (w : World) : Below w.heap.size w w.drew := ⟨rfl, rfl, rfl, Nat.le_refl _, fun _ _ => rfl⟩
end Go.Proofs.YtcdnhhdknkhnkaaGreat
namespace Go.Proofs.YtcdnhhdknkhnkaaGreat
open Go.RowKit F256
set_option maxHeartbeats 8000000 in
set_option maxRecDepth 20000 in
theorem eqRecsResult_is : EqV layRecsResult 10 := fun c1 c2 d h1 h2 w r1 r2 u1 u2 => by
  obtain ⟨ao1, cap1, rfl, g1, -⟩ := RecsResult_rd r1
  obtain ⟨bao1, bcap1, rfl, q1, -⟩ := RecsResult_rd r2
  clear r1 r2
  have G1 : Hid ((layRec.slice 92).rd w h1 d.recs [.slice ao1 d.recs.1 cap1]) := g1
  have E1 : Hid ((layRec.slice 92).rd w h2 d.recs [.slice bao1 d.recs.1 bcap1]) := q1
  clear g1 q1
  go_enter Tryz.func10, Tryz.ntmps10
  go_wp2_with fail
  have T0 := two_newb w #[.int .i64 d.code, .slice ao1 d.recs.1 cap1] #[.int .i64 d.code, .slice bao1 d.recs.1 bcap1] 32 32
  refine (eqRecS_is _ _ d.recs h1 h2 _ ((layRec.slice 92).rd_below G1.out T0.bel u1) ((layRec.slice 92).rd_below E1.out T0.bel u2) (Nat.le_trans u1 T0.bel.size) (Nat.le_trans u2 T0.bel.size)).mono ?_
  rintro e w1 ⟨rfl, b1⟩
  have T1 : Two w w1 #[.int .i64 d.code, .slice ao1 d.recs.1 cap1] #[.int .i64 d.code, .slice bao1 d.recs.1 bcap1] 32 32 := T0.call b1
  clear T0 b1
  have B : Hid (Below w.heap.size w w1) := T1.bel
  clear T1
  go_wp2
  go_ret
  exact ⟨rfl, B.out⟩
end Go.Proofs.YtcdnhhdknkhnkaaGreat
namespace Go.Proofs.YtcdnhhdknkhnkaaGreat
open Go.RowKit F256
set_option maxHeartbeats 4000000 in
theorem markRecsResult_is : MkV layRecsResult cvRecsResultD mkvRecsResultD 13 := fun cs d L j w h nd hj => by
  obtain ⟨ao1, cap1, K1, rfl, hLL, o1, k0⟩ := RecsResult_own h
  clear h
  have hLM := hLL.symm
  subst hLM
  unfold cvRecsResultD at hj ⊢
  have Z1 := (layRec.slice 92).own_lt o1
  have bz : Below w.heap.size w (w.alloc (.cells #[.int .i64 d.code, .slice ao1 d.recs.1 cap1] 32)) := (Below.refl _ _).alloc (Nat.le_refl _) _
  have B0 : Hid (Box (w.alloc (.cells #[.int .i64 d.code, .slice ao1 d.recs.1 cap1] 32)) w.heap.size #[.int .i64 d.code, .slice ao1 d.recs.1 cap1] 32) := box_new _ _ _
  have CH0 : Hid (ChgL (K1) w (w.alloc (.cells #[.int .i64 d.code, .slice ao1 d.recs.1 cap1] 32))) := ChgL.of_below bz
  have O0_1 : Hid ((layRec.slice 92).own (w.alloc (.cells #[.int .i64 d.code, .slice ao1 d.recs.1 cap1] 32)) d.recs [.slice ao1 d.recs.1 cap1] K1) := (layRec.slice 92).own_kept o1 (fun b hb => bz.block b (Z1 b hb))
  clear bz o1
  go_enter Tryz.func13, Tryz.ntmps13
  go_wp2_with fail
  refine (markRecS_is _ d.recs K1 (j) _ O0_1.out nd (by omega)).mono ?_
  rintro e w1 ⟨rfl, p1, q1⟩
  have O1_1 : Hid ((layRec.slice 92).own w1 ((mkSl cRecD mkRecD) (j) d.recs) [.slice ao1 d.recs.1 cap1] K1) := p1
  have B1 : Hid (Box w1 w.heap.size #[.int .i64 d.code, .slice ao1 d.recs.1 cap1] 32) := (q1.block w.heap.size B0.out.lt (fun hb => by have := Z1 _ hb; omega)).trans B0.out
  have CH1 : Hid (ChgL (K1) w w1) := CH0.out.sub q1 (fun b hb => hb)
  clear p1 q1
  go_wp2
  go_ret
  exact ⟨ret_eq (by omega), RecsResult_mk (mkvRecsResultD j d) O1_1.out k0, CH1.out⟩
end Go.Proofs.YtcdnhhdknkhnkaaGreat
namespace Go.Proofs.YtcdnhhdknkhnkaaGreat
open Go.RowKit F256
set_option maxHeartbeats 4000000 in
theorem heldRecsResult_is : HdV layRecsResult cvRecsResultD mkvRecsResultD 14 := fun cs d hi j w h hhi hj => by
  obtain ⟨ao1, cap1, rfl, r1, -⟩ := RecsResult_rd h
  clear h
  unfold cvRecsResultD at hj ⊢
  have R1 : Hid ((layRec.slice 92).rd w hi ((mkSl cRecD mkRecD) (j) d.recs) [.slice ao1 d.recs.1 cap1]) := r1
  clear r1
  change Calls Tryz.prog 14 #[.agg #[.int .i64 d.code, .slice ao1 d.recs.1 cap1], .int .i64 j] w _
  go_enter Tryz.func14, Tryz.ntmps14
  go_wp2_with fail
  have T0 := one_new w #[.int .i64 d.code, .slice ao1 d.recs.1 cap1] 32
  refine (heldRecS_is _ d.recs hi (j) _ ((layRec.slice 92).rd_below R1.out T0.bel hhi) (Nat.le_trans hhi T0.bel.size) (by omega)).mono ?_
  rintro e w1 ⟨rfl, b1⟩
  have T1 : One w w1 #[.int .i64 d.code, .slice ao1 d.recs.1 cap1] 32 := T0.call b1
  have hz1 : ¬ (((j + (cSl cRecD) d.recs : Nat) : Int) < 0) := by omega
  have HB : Hid (Below w.heap.size w w1) := T1.bel
  clear b1 T1
  go_wp2
  go_ret
  exact ⟨ret_eq (by omega), HB.out⟩
end Go.Proofs.YtcdnhhdknkhnkaaGreat
namespace Go.Proofs.YtcdnhhdknkhnkaaGreat
open Go.ChangeShapes Go.WideShapes Go.ChangeAt Go.RowKit F256
theorem res2_RecsResult {w : World} {hi : Nat} {d : RecsResultD} {cs : List Value} (h : layRecsResult.rd w hi d cs) : ∃ v0 vp vl vq, cs = [.int .i64 v0, .slice vp vl vq] := by
  obtain ⟨p1, pc1, rfl, -⟩ := RecsResult_rd h
  exact ⟨_, _, _, _, rfl⟩
theorem info_RecsResult : (Tryz.prog.info? 32).map (fun i => (i.zero.map (·.cells), i.size)) = some (some #[.int .i64 0, .slice none 0 0], 2) := by kernel_rfl
theorem miss_ex (d : WorldD) (t : Int) : ∃ q, MissAns d t q := by
  obtain ⟨x, hx⟩ := world_ex d
  by_cases h : x = 0
  · subst h
    by_cases ht : InP t 0 1
    · obtain ⟨l, hl⟩ := cnt_ex (recT d.tapes.2 2) (lenT d.tapes.2 2)
      exact ⟨_, .inr (.inr ⟨hx, ht, l, hl, rfl⟩)⟩
    · exact ⟨_, .inr (.inl ⟨hx, ht, rfl⟩)⟩
  · exact ⟨_, .inl ⟨x, h, hx, rfl⟩⟩
theorem miss_cv {d : WorldD} {t : Int} {q : RecsResultD} (hq : MissAns d t q) (hsz : szWorldD d ≤ 1048576) : cvRecsResultD q ≤ 90000000 := by
  rcases hq with ⟨x, _, _, rfl⟩ | ⟨_, _, rfl⟩ | ⟨h0, _, l, hl, rfl⟩
  · exact Nat.zero_le _
  · exact Nat.zero_le _
  · have h1 := cRecs_le (missOf d t.toNat l)
    have h2 := miss_size (WldAns.ok h0).form.2.2 hsz hl t.toNat
    show (cSl cRecD) (missOf d t.toNat l) ≤ _
    omega
theorem miss_det {d : WorldD} {t : Int} {q : RecsResultD} {w : World} {f : Nat} {args : Array Value} (hq : MissAns d t q) (h : Calls Tryz.prog f args w (RcPost (MissAns d t) w)) : Calls Tryz.prog f args w fun e w' => ∃ cs, e = .returned (.agg cs.toArray) ∧ OwnT layRecsResult w' w.heap.size w'.heap.size q cs ∧ Below w.heap.size w w' :=
  h.mono fun e w' ⟨d', cs, h1, h2, h3, h4⟩ => ⟨cs, h1, by rw [hq.one h2]; exact h3, h4⟩
theorem size_RR : (Tryz.prog.info? 32).map (·.size) = some 2 := by kernel_rfl
set_option maxHeartbeats 16000000 in
set_option maxRecDepth 20000 in
theorem fnExactMissingRecs_walk (d : WorldD) (cs : List Value) (i0 : Int) (w : World) (rd0 : layWorld.rd w w.heap.size d cs) (hi0 : -9223372036854775808 ≤ i0 ∧ i0 ≤ 9223372036854775807) :
    Calls Tryz.prog 5 #[.agg cs.toArray, .int .i64 i0] w fun e w' => e = .returned (.bool true) ∧ Below w.heap.size w w' := by
  obtain ⟨v0, v1, v2, v3, v4, v5, v6, v7, v8, vp0, vl0, vq0, vp1, vl1, vq1, vp2, vl2, vq2, v9, v10, vb, rfl⟩ := world15 rd0
  have HR : Hid (layWorld.rd w w.heap.size d [.int .i64 v0, .int .i64 v1, .int .i64 v2, .int .i64 v3, .int .i64 v4, .int .i64 v5, .int .i64 v6, .int .i64 v7, .int .i64 v8, .slice vp0 vl0 vq0, .slice vp1 vl1 vq1, .slice vp2 vl2 vq2, .int .i64 v9, .int .i64 v10, .bool vb]) := rd0
  skip
  clear rd0 hi0
  have T0 := one_new w #[.int .i64 v0, .int .i64 v1, .int .i64 v2, .int .i64 v3, .int .i64 v4, .int .i64 v5, .int .i64 v6, .int .i64 v7, .int .i64 v8, .slice vp0 vl0 vq0, .slice vp1 vl1 vq1, .slice vp2 vl2 vq2, .int .i64 v9, .int .i64 v10, .bool vb] 28
  go_enter Tryz.func5, Tryz.ntmps5
  go_wp2_with (refine wp_loadBox 28 (.tmp 2) rfl rfl (w.heap.size) rfl (cs := [.int .i64 v0, .int .i64 v1, .int .i64 v2, .int .i64 v3, .int .i64 v4, .int .i64 v5, .int .i64 v6, .int .i64 v7, .int .i64 v8, .slice vp0 vl0 vq0, .slice vp1 vl1 vq1, .slice vp2 vl2 vq2, .int .i64 v9, .int .i64 v10, .bool vb]) T0.b1 Tryz.underlying28 size_LW rfl ?_)
  refine (szWorld_is _ d w.heap.size 1048576 _ (layWorld.rd_below HR.out T0.bel (Nat.le_refl _)) T0.bel.size (by omega)).mono ?_
  rintro e w1 ⟨x, rfl, hx, b1⟩
  have T1 := T0.call b1
  have HT1 : Hid (One w w1 #[.int .i64 v0, .int .i64 v1, .int .i64 v2, .int .i64 v3, .int .i64 v4, .int .i64 v5, .int .i64 v6, .int .i64 v7, .int .i64 v8, .slice vp0 vl0 vq0, .slice vp1 vl1 vq1, .slice vp2 vl2 vq2, .int .i64 v9, .int .i64 v10, .bool vb] 28) := T1
  clear b1 T0
  rcases hx with rfl | ⟨hsz, hx⟩
  · clear T1
    go_wp2
    go_ret
    exact ⟨rfl, HT1.out.bel⟩
  have hx0 : ¬ x < 0 := by omega
  clear hx
  obtain ⟨q, hq⟩ := miss_ex d i0
  obtain ⟨N, hN⟩ : ∃ N, N = 1 + cvRecsResultD q := ⟨_, rfl⟩
  have hj : 1 + cvRecsResultD q ≤ 100000000 := by have := miss_cv hq hsz; omega
  obtain ⟨M, hM⟩ : ∃ M, M = 1 + cvWorldD d := ⟨_, rfl⟩
  have hk : 1 + cvWorldD d ≤ 100000000 := by have := cvWorld_le d; omega
  have CT : ∀ w', Below w1.heap.size w1 w' → Calls Tryz.prog 8 #[.agg #[.int .i64 v0, .int .i64 v1, .int .i64 v2, .int .i64 v3, .int .i64 v4, .int .i64 v5, .int .i64 v6, .int .i64 v7, .int .i64 v8, .slice vp0 vl0 vq0, .slice vp1 vl1 vq1, .slice vp2 vl2 vq2, .int .i64 v9, .int .i64 v10, .bool vb]] w' fun e w'' => ∃ cs', e = .returned (.agg cs'.toArray) ∧ OwnT layWorld w'' w'.heap.size w''.heap.size d cs' ∧ Below w'.heap.size w' w'' := fun w' hb =>
    toWorld_is _ d w.heap.size w' (layWorld.rd_below (layWorld.rd_below HR.out HT1.out.bel (Nat.le_refl _)) hb HT1.out.bel.size) (Nat.le_trans HT1.out.bel.size hb.size) hsz
  have CS := fun (cs' : List Value) (hi : Nat) (w' : World) (h1 : layWorld.rd w' hi d cs') (h2 : hi ≤ w'.heap.size) => miss_det hq (specMiss_any d i0 cs' hi w' h1 h2 hsz)
  have CI := fun (cs' : List Value) (hi : Nat) (w' : World) (h1 : layWorld.rd w' hi d cs') (h2 : hi ≤ w'.heap.size) => miss_det hq (implMiss_any d i0 cs' hi w' h1 h2 hsz)
  have CE := fun c1 c2 h1 h2 w' => eqRecsResult_is c1 c2 q h1 h2 w'
  have CW := fun c1 c2 h1 h2 w' => eqWorld_is c1 c2 d h1 h2 w'
  have CM := fun {w' : World} {lo hi : Nat} {cs : List Value} (h : OwnT layRecsResult w' lo hi q cs) => mark_T markRecsResult_is h 1 hj
  have CK := fun {w' : World} {lo hi : Nat} {cs : List Value} (h : OwnT layWorld w' lo hi d cs) => mark_T markWorld_is h 1 hk
  have CH := fun (cs : List Value) (hi : Nat) (w' : World) (h : layRecsResult.rd w' hi (mkvRecsResultD 1 q) cs) (hh : hi ≤ w'.heap.size) => heldRecsResult_is cs q hi 1 w' h hh hj
  rw [← hN] at CM CH
  rw [← hM] at CK
  clear hN hM hj hk hq hsz
  go_wp2_with (refine wp_loadBox 28 (.tmp 2) rfl rfl (w.heap.size) rfl (cs := [.int .i64 v0, .int .i64 v1, .int .i64 v2, .int .i64 v3, .int .i64 v4, .int .i64 v5, .int .i64 v6, .int .i64 v7, .int .i64 v8, .slice vp0 vl0 vq0, .slice vp1 vl1 vq1, .slice vp2 vl2 vq2, .int .i64 v9, .int .i64 v10, .bool vb]) T1.b1 Tryz.underlying28 size_LW rfl ?_)
  refine (CT _ (Below.refl _ _)).mono ?_
  rintro e w2 ⟨c2, rfl, o2, b2⟩
  have z1 : w.heap.size < w1.heap.size := T1.b1.lt
  clear T1
  go_wp2_with fail
  refine (CS _ _ _ o2.rd (Nat.le_refl _)).mono ?_
  rintro e w3 ⟨cS, rfl, oS, b3⟩
  obtain ⟨s0, sp, sl, sq, rfl⟩ := res2_RecsResult oS.rd
  have z2 : w1.heap.size ≤ w2.heap.size := b2.size
  have z3 : w2.heap.size ≤ w3.heap.size := b3.size
  have B3 : Below w1.heap.size w1 w3 := b2.trans (b3.mono b2.size)
  clear o2 b2 b3
  go_upto_region 6 with (refine wp_allocStore 32 6 (.tmp 21) [.int .i64 s0, .slice sp sl sq] _ 2 rfl rfl rfl rfl rfl rfl rfl rfl info_RecsResult rfl rfl oS.one ?_)
  have bA : Below w3.heap.size w3 (w3.alloc (.cells #[.int .i64 s0, .slice sp sl sq] 32)) := (Below.refl _ _).alloc (Nat.le_refl _) _
  have S4 : Box (w3.alloc (.cells #[.int .i64 s0, .slice sp sl sq] 32)) w3.heap.size #[.int .i64 s0, .slice sp sl sq] 32 := box_new _ _ _
  obtain ⟨W4, hW4⟩ : ∃ x, x = w3.alloc (.cells #[.int .i64 s0, .slice sp sl sq] 32) := ⟨_, rfl⟩
  rw [← hW4] at bA S4 ⊢
  have B4 := B3.trans (bA.mono (by omega))
  have P4 := HT1.out.call B4
  have OS4 := oS.call bA
  have z4 : w3.heap.size < W4.heap.size := S4.lt
  clear bA hW4 oS B3
  go_wp2_with (refine wp_loadBox 28 (.tmp 2) rfl rfl (w.heap.size) rfl (cs := [.int .i64 v0, .int .i64 v1, .int .i64 v2, .int .i64 v3, .int .i64 v4, .int .i64 v5, .int .i64 v6, .int .i64 v7, .int .i64 v8, .slice vp0 vl0 vq0, .slice vp1 vl1 vq1, .slice vp2 vl2 vq2, .int .i64 v9, .int .i64 v10, .bool vb]) P4.b1 Tryz.underlying28 size_LW rfl ?_)
  refine (CT _ B4).mono ?_
  rintro e w5 ⟨cX, rfl, oX, b5⟩
  obtain ⟨x0, x1, x2, x3, x4, x5, x6, x7, x8, xp0, xl0, xq0, xp1, xl1, xq1, xp2, xl2, xq2, x9, x10, xb, rfl⟩ := world15O oX
  have z5 : W4.heap.size ≤ w5.heap.size := b5.size
  have B5 := B4.trans (b5.mono (by omega))
  have S5 := S4.call b5
  have OS5 := OS4.call b5
  clear P4 b5 B4 S4 OS4
  go_upto_region 7 with (refine wp_allocStore 38 7 (.tmp 23) [.int .i64 x0, .int .i64 x1, .int .i64 x2, .int .i64 x3, .int .i64 x4, .int .i64 x5, .int .i64 x6, .int .i64 x7, .int .i64 x8, .slice xp0 xl0 xq0, .slice xp1 xl1 xq1, .slice xp2 xl2 xq2, .int .i64 x9, .int .i64 x10, .bool xb] _ 15 rfl rfl rfl rfl rfl rfl rfl rfl info_W rfl rfl oX.one ?_)
  have bA : Below w5.heap.size w5 (w5.alloc (.cells #[.int .i64 x0, .int .i64 x1, .int .i64 x2, .int .i64 x3, .int .i64 x4, .int .i64 x5, .int .i64 x6, .int .i64 x7, .int .i64 x8, .slice xp0 xl0 xq0, .slice xp1 xl1 xq1, .slice xp2 xl2 xq2, .int .i64 x9, .int .i64 x10, .bool xb] 38)) := (Below.refl _ _).alloc (Nat.le_refl _) _
  have X6 : Box (w5.alloc (.cells #[.int .i64 x0, .int .i64 x1, .int .i64 x2, .int .i64 x3, .int .i64 x4, .int .i64 x5, .int .i64 x6, .int .i64 x7, .int .i64 x8, .slice xp0 xl0 xq0, .slice xp1 xl1 xq1, .slice xp2 xl2 xq2, .int .i64 x9, .int .i64 x10, .bool xb] 38)) w5.heap.size #[.int .i64 x0, .int .i64 x1, .int .i64 x2, .int .i64 x3, .int .i64 x4, .int .i64 x5, .int .i64 x6, .int .i64 x7, .int .i64 x8, .slice xp0 xl0 xq0, .slice xp1 xl1 xq1, .slice xp2 xl2 xq2, .int .i64 x9, .int .i64 x10, .bool xb] 38 := box_new _ _ _
  obtain ⟨W6, hW6⟩ : ∃ x, x = w5.alloc (.cells #[.int .i64 x0, .int .i64 x1, .int .i64 x2, .int .i64 x3, .int .i64 x4, .int .i64 x5, .int .i64 x6, .int .i64 x7, .int .i64 x8, .slice xp0 xl0 xq0, .slice xp1 xl1 xq1, .slice xp2 xl2 xq2, .int .i64 x9, .int .i64 x10, .bool xb] 38) := ⟨_, rfl⟩
  rw [← hW6] at bA X6 ⊢
  have B6 := B5.trans (bA.mono (by omega))
  have S6 := S5.call bA
  have OS6 := OS5.call bA
  have OX6 := oX.call bA
  have z6 : w5.heap.size < W6.heap.size := X6.lt
  clear bA hW6 oX B5 S5 OS5
  go_wp2_with (refine wp_loadBox 38 (.tmp 7) rfl rfl (w5.heap.size) rfl (cs := [.int .i64 x0, .int .i64 x1, .int .i64 x2, .int .i64 x3, .int .i64 x4, .int .i64 x5, .int .i64 x6, .int .i64 x7, .int .i64 x8, .slice xp0 xl0 xq0, .slice xp1 xl1 xq1, .slice xp2 xl2 xq2, .int .i64 x9, .int .i64 x10, .bool xb]) X6 Tryz.underlying38 size_W rfl ?_)
  refine (CI _ _ _ OX6.rd (by omega)).mono ?_
  rintro e w7 ⟨cG, rfl, oG, b7⟩
  obtain ⟨g0, gp, gl, gq, rfl⟩ := res2_RecsResult oG.rd
  have z7 : W6.heap.size ≤ w7.heap.size := b7.size
  have B7 := B6.trans (b7.mono (by omega))
  have S7 := S6.call b7
  have OS7 := OS6.call b7
  have X7 := X6.call b7
  have OX7 := OX6.call b7
  clear b7 B6 S6 OS6 X6 OX6
  go_upto_region 8 with (refine wp_allocStore 32 8 (.tmp 26) [.int .i64 g0, .slice gp gl gq] _ 2 rfl rfl rfl rfl rfl rfl rfl rfl info_RecsResult rfl rfl oG.one ?_)
  have bA : Below w7.heap.size w7 (w7.alloc (.cells #[.int .i64 g0, .slice gp gl gq] 32)) := (Below.refl _ _).alloc (Nat.le_refl _) _
  have G8 : Box (w7.alloc (.cells #[.int .i64 g0, .slice gp gl gq] 32)) w7.heap.size #[.int .i64 g0, .slice gp gl gq] 32 := box_new _ _ _
  obtain ⟨W8, hW8⟩ : ∃ x, x = w7.alloc (.cells #[.int .i64 g0, .slice gp gl gq] 32) := ⟨_, rfl⟩
  rw [← hW8] at bA G8 ⊢
  have B8 := B7.trans (bA.mono (by omega))
  have S8 := S7.call bA
  have OS8 := OS7.call bA
  have X8 := X7.call bA
  have OX8 := OX7.call bA
  have OG8 := oG.call bA
  have z8 : w7.heap.size < W8.heap.size := G8.lt
  clear bA hW8 oG B7 S7 OS7 X7 OX7
  go_wp2_with (first | (refine wp_loadBox 32 (.tmp 8) rfl rfl (w7.heap.size) rfl (cs := [.int .i64 g0, .slice gp gl gq]) G8 Tryz.underlying32 size_RR rfl ?_) | (refine wp_loadBox 32 (.tmp 6) rfl rfl (w3.heap.size) rfl (cs := [.int .i64 s0, .slice sp sl sq]) S8 Tryz.underlying32 size_RR rfl ?_))
  refine (CE _ _ _ _ _ OG8.rd OS8.rd (by omega) (by omega)).mono ?_
  rintro e w9 ⟨rfl, b9⟩
  have z9 : W8.heap.size ≤ w9.heap.size := b9.size
  have B9 := B8.trans (b9.mono (by omega))
  have S9 : Hid (Box w9 w3.heap.size #[.int .i64 s0, .slice sp sl sq] 32) := S8.call b9
  have OS9 : Hid (OwnT layRecsResult w9 w2.heap.size w3.heap.size q [.int .i64 s0, .slice sp sl sq]) := OS8.call b9
  have X9 : Hid (Box w9 w5.heap.size #[.int .i64 x0, .int .i64 x1, .int .i64 x2, .int .i64 x3, .int .i64 x4, .int .i64 x5, .int .i64 x6, .int .i64 x7, .int .i64 x8, .slice xp0 xl0 xq0, .slice xp1 xl1 xq1, .slice xp2 xl2 xq2, .int .i64 x9, .int .i64 x10, .bool xb] 38) := X8.call b9
  have OX9 : Hid (OwnT layWorld w9 W4.heap.size w5.heap.size d [.int .i64 x0, .int .i64 x1, .int .i64 x2, .int .i64 x3, .int .i64 x4, .int .i64 x5, .int .i64 x6, .int .i64 x7, .int .i64 x8, .slice xp0 xl0 xq0, .slice xp1 xl1 xq1, .slice xp2 xl2 xq2, .int .i64 x9, .int .i64 x10, .bool xb]) := OX8.call b9
  have G9 : Hid (Box w9 w7.heap.size #[.int .i64 g0, .slice gp gl gq] 32) := G8.call b9
  have OG9 : Hid (OwnT layRecsResult w9 W6.heap.size w7.heap.size q [.int .i64 g0, .slice gp gl gq]) := OG8.call b9
  have HB9 : Hid (Below w1.heap.size w1 w9) := B9
  have P9 : Hid (One w w9 #[.int .i64 v0, .int .i64 v1, .int .i64 v2, .int .i64 v3, .int .i64 v4, .int .i64 v5, .int .i64 v6, .int .i64 v7, .int .i64 v8, .slice vp0 vl0 vq0, .slice vp1 vl1 vq1, .slice vp2 vl2 vq2, .int .i64 v9, .int .i64 v10, .bool vb] 28) := HT1.out.call B9
  have CTc := fun w' (hb : Below w9.heap.size w9 w') => CT w' (HB9.out.trans (hb.mono (by omega)))
  clear b9 B8 S8 OS8 X8 OX8 G8 OG8 B9
  go_upto_region 10 with fail
  go_cut [35] (fun v wx => v = .bool false ∧ Below w9.heap.size w9 wx)
  case first =>
    have KS : ∀ w', Below w9.heap.size w9 w' → (Box w' (w5.heap.size) #[.int .i64 x0, .int .i64 x1, .int .i64 x2, .int .i64 x3, .int .i64 x4, .int .i64 x5, .int .i64 x6, .int .i64 x7, .int .i64 x8, .slice xp0 xl0 xq0, .slice xp1 xl1 xq1, .slice xp2 xl2 xq2, .int .i64 x9, .int .i64 x10, .bool xb] 38 ∧ Box w' (w.heap.size) #[.int .i64 v0, .int .i64 v1, .int .i64 v2, .int .i64 v3, .int .i64 v4, .int .i64 v5, .int .i64 v6, .int .i64 v7, .int .i64 v8, .slice vp0 vl0 vq0, .slice vp1 vl1 vq1, .slice vp2 vl2 vq2, .int .i64 v9, .int .i64 v10, .bool vb] 28) := fun w' hb => ⟨(X9.out).call hb, (P9.out.b1).call hb⟩
    have B0 : Below w9.heap.size w9 w9.drew := below_drew _
    refine wp_region_L 4 (fun w' => Box w' (w5.heap.size) #[.int .i64 x0, .int .i64 x1, .int .i64 x2, .int .i64 x3, .int .i64 x4, .int .i64 x5, .int .i64 x6, .int .i64 x7, .int .i64 x8, .slice xp0 xl0 xq0, .slice xp1 xl1 xq1, .slice xp2 xl2 xq2, .int .i64 x9, .int .i64 x10, .bool xb] 38 ∧ Box w' (w.heap.size) #[.int .i64 v0, .int .i64 v1, .int .i64 v2, .int .i64 v3, .int .i64 v4, .int .i64 v5, .int .i64 v6, .int .i64 v7, .int .i64 v8, .slice vp0 vl0 vq0, .slice vp1 vl1 vq1, .slice vp2 vl2 vq2, .int .i64 v9, .int .i64 v10, .bool vb] 28) (by kernel_rfl) (KS _ B0) (fun hHeld => ?_)
    refine wpAnyL_take (i := 0) (oi := _) (v := .agg #[.int .i64 x0, .int .i64 x1, .int .i64 x2, .int .i64 x3, .int .i64 x4, .int .i64 x5, .int .i64 x6, .int .i64 x7, .int .i64 x8, .slice xp0 xl0 xq0, .slice xp1 xl1 xq1, .slice xp2 xl2 xq2, .int .i64 x9, .int .i64 x10, .bool xb]) 16 rfl (by kernel_rfl) (fun _ _ _ h => h) (load_yield 38 (.tmp 7) rfl rfl (w5.heap.size) rfl (cs := [.int .i64 x0, .int .i64 x1, .int .i64 x2, .int .i64 x3, .int .i64 x4, .int .i64 x5, .int .i64 x6, .int .i64 x7, .int .i64 x8, .slice xp0 xl0 xq0, .slice xp1 xl1 xq1, .slice xp2 xl2 xq2, .int .i64 x9, .int .i64 x10, .bool xb]) (fun w' h => h.1) Tryz.underlying38 size_W rfl) (by assumption) ?_
    try simp only [Act.put, SL]
    refine wpAnyL_take (i := 1) (oi := _) (v := .agg #[.int .i64 v0, .int .i64 v1, .int .i64 v2, .int .i64 v3, .int .i64 v4, .int .i64 v5, .int .i64 v6, .int .i64 v7, .int .i64 v8, .slice vp0 vl0 vq0, .slice vp1 vl1 vq1, .slice vp2 vl2 vq2, .int .i64 v9, .int .i64 v10, .bool vb]) 16 rfl (by kernel_rfl) (fun _ _ _ h => h) (load_yield 28 (.tmp 2) rfl rfl (w.heap.size) rfl (cs := [.int .i64 v0, .int .i64 v1, .int .i64 v2, .int .i64 v3, .int .i64 v4, .int .i64 v5, .int .i64 v6, .int .i64 v7, .int .i64 v8, .slice vp0 vl0 vq0, .slice vp1 vl1 vq1, .slice vp2 vl2 vq2, .int .i64 v9, .int .i64 v10, .bool vb]) (fun w' h => h.2) Tryz.underlying28 size_LW rfl) (by assumption) ?_
    try simp only [Act.put, SL]
    refine wpAnyL_one (i := 2) (o := _) rfl (by kernel_rfl) (fun KC hKC => ?_)
    refine step_call rfl 8 _ _ rfl #[.agg #[.int .i64 v0, .int .i64 v1, .int .i64 v2, .int .i64 v3, .int .i64 v4, .int .i64 v5, .int .i64 v6, .int .i64 v7, .int .i64 v8, .slice vp0 vl0 vq0, .slice vp1 vl1 vq1, .slice vp2 vl2 vq2, .int .i64 v9, .int .i64 v10, .bool vb]] ?_ Tryz.func8 (by kernel_rfl) (by kernel_rfl) (CTc _ B0) ?_
    · simp [Act.eval, Act.put]
    rintro ee wb ⟨cs', rfl, oR, bb⟩
    have bR : Below w9.heap.size w9 wb := B0.trans (bb.mono B0.size)
    refine ⟨_, rfl, ?_⟩
    refine hKC.out _ _ (KS _ bR) (fun hHeld => ?_)
    clear hKC KC
    try simp only [Act.put, SL]
    refine wpAnyL_one (i := 3) (o := _) rfl (by kernel_rfl) (fun KC hKC => ?_)
    refine step_call rfl 11 _ _ rfl #[.agg #[.int .i64 x0, .int .i64 x1, .int .i64 x2, .int .i64 x3, .int .i64 x4, .int .i64 x5, .int .i64 x6, .int .i64 x7, .int .i64 x8, .slice xp0 xl0 xq0, .slice xp1 xl1 xq1, .slice xp2 xl2 xq2, .int .i64 x9, .int .i64 x10, .bool xb], .agg cs'.toArray] ?_ Tryz.func11 (by kernel_rfl) (by kernel_rfl) (CW _ _ _ _ _ ((OX9.out).call bR).rd oR.rd (Nat.le_trans (by omega) bR.size) (Nat.le_refl _)) ?_
    · simp [Act.eval, Act.put]
    rintro ee wc' ⟨rfl, bc⟩
    have bC : Below w9.heap.size w9 wc' := bR.trans (bc.mono bR.size)
    refine ⟨_, rfl, ?_⟩
    refine hKC.out _ _ (KS _ bC) (fun hHeld => ?_)
    clear hKC KC
    try simp only [Act.put, SL]
    refine wpAnyL_last (o := _) rfl (by kernel_rfl) (fun KC hKC => ?_)
    go_simp
    refine hKC.out _ _ ?_
    clear hKC KC
    try simp only [Act.put, SL]
    refine wpAnyL_done (by kernel_rfl) ?_ _
    go_wp2
    go_meet
    exact ⟨rfl, bC⟩
  case rest =>
    obtain ⟨rfl, b10⟩ := hcut
    obtain ⟨w10, rfl⟩ : ∃ x, x = wc := ⟨_, rfl⟩
    clear CTc
    have z10 : w9.heap.size ≤ w10.heap.size := b10.size
    have B10 := HB9.out.trans (b10.mono (by omega))
    have S10 := S9.out.call b10
    have OS10 := OS9.out.call b10
    have X10 := X9.out.call b10
    have OX10 := OX9.out.call b10
    have G10 := G9.out.call b10
    have OG10 := OG9.out.call b10
    clear b10 HB9 S9 OS9 X9 OX9 G9 OG9 P9
    have hm0 : ¬ (M : Int) < 0 := by omega
    go_wp2_with (refine wp_loadBox 38 (.tmp 7) rfl rfl (w5.heap.size) rfl (cs := [.int .i64 x0, .int .i64 x1, .int .i64 x2, .int .i64 x3, .int .i64 x4, .int .i64 x5, .int .i64 x6, .int .i64 x7, .int .i64 x8, .slice xp0 xl0 xq0, .slice xp1 xl1 xq1, .slice xp2 xl2 xq2, .int .i64 x9, .int .i64 x10, .bool xb]) X10 Tryz.underlying38 size_W rfl ?_)
    refine (CK OX10).mono ?_
    rintro e w11 ⟨rfl, OX11, c11⟩
    have z11 : w10.heap.size ≤ w11.heap.size := c11.size
    have B11 := B10.trans (c11.bel (B := w1.heap.size) (by omega) (by omega))
    have S11 := S10.chg c11 (.inl (by omega))
    have OS11 := OS10.chg c11 (.inl (by omega))
    have G11 := G10.chg c11 (.inr (by omega))
    have OG11 := OG10.chg c11 (.inr (by omega))
    have u_0 : w11.cell? ⟨w7.heap.size, 0, none⟩ = some (.int .i64 g0) := G11.cell 0
    have u_1 : w11.cell? ⟨w7.heap.size, 1, none⟩ = some (.slice gp gl gq) := G11.cell 1
    have y_0 : w11.cell? ⟨w3.heap.size, 0, none⟩ = some (.int .i64 s0) := S11.cell 0
    have y_1 : w11.cell? ⟨w3.heap.size, 1, none⟩ = some (.slice sp sl sq) := S11.cell 1
    clear OX11 c11 B10 S10 OS10 X10 OX10 G10 OG10
    go_wp2_with fail
    refine (CE _ _ _ _ _ OG11.rd OS11.rd (by omega) (by omega)).mono ?_
    rintro e w12 ⟨rfl, b12⟩
    have z12 : w11.heap.size ≤ w12.heap.size := b12.size
    have B12 := B11.trans (b12.mono (by omega))
    have S12 := S11.call b12
    have OS12 := OS11.call b12
    have G12 := G11.call b12
    have OG12 := OG11.call b12
    clear b12 B11 S11 OS11 G11 OG11 u_0 u_1 y_0 y_1
    go_wp2_with (refine wp_loadBox 32 (.tmp 8) rfl rfl (w7.heap.size) rfl (cs := [.int .i64 g0, .slice gp gl gq]) G12 Tryz.underlying32 size_RR rfl ?_)
    refine (CM OG12).mono ?_
    rintro e w13 ⟨rfl, OG13, c13⟩
    have z13 : w12.heap.size ≤ w13.heap.size := c13.size
    have B13 := B12.trans (c13.bel (B := w1.heap.size) (by omega) (by omega))
    have S13 := S12.chg c13 (.inl (by omega))
    have OS13 := OS12.chg c13 (.inl (by omega))
    have G13 := G12.chg c13 (.inr (by omega))
    clear c13 B12 S12 OS12 G12 OG12
    go_wp2_with (refine wp_loadBox 32 (.tmp 8) rfl rfl (w7.heap.size) rfl (cs := [.int .i64 g0, .slice gp gl gq]) G13 Tryz.underlying32 size_RR rfl ?_)
    refine (CH _ _ _ OG13.rd (by omega)).mono ?_
    rintro e w14 ⟨rfl, b14⟩
    have z14 : w13.heap.size ≤ w14.heap.size := b14.size
    have B14 := B13.trans (b14.mono (by omega))
    have S14 := S13.call b14
    have OS14 := OS13.call b14
    have G14 := G13.call b14
    have OG14 := OG13.call b14
    have P14 := HT1.out.call B14
    clear b14 B13 S13 OS13 G13 OG13
    have hn0 : ¬ (N : Int) < 0 := by omega
    go_wp2_with (refine wp_loadBox 28 (.tmp 2) rfl rfl (w.heap.size) rfl (cs := [.int .i64 v0, .int .i64 v1, .int .i64 v2, .int .i64 v3, .int .i64 v4, .int .i64 v5, .int .i64 v6, .int .i64 v7, .int .i64 v8, .slice vp0 vl0 vq0, .slice vp1 vl1 vq1, .slice vp2 vl2 vq2, .int .i64 v9, .int .i64 v10, .bool vb]) P14.b1 Tryz.underlying28 size_LW rfl ?_)
    refine (CT _ B14).mono ?_
    rintro e w15 ⟨c15, rfl, o15, b15⟩
    go_wp2_with fail
    refine (CI _ _ _ o15.rd (Nat.le_refl _)).mono ?_
    rintro e w16 ⟨cH, rfl, oH, b16⟩
    obtain ⟨h0, hp, hl, hq, rfl⟩ := res2_RecsResult oH.rd
    have z15 : w14.heap.size ≤ w15.heap.size := b15.size
    have z16 : w15.heap.size ≤ w16.heap.size := b16.size
    have B16 := (B14.trans (b15.mono (by omega))).trans (b16.mono (by omega))
    have S16 := (S14.call b15).call b16
    have OS16 := (OS14.call b15).call b16
    have G16 := (G14.call b15).call b16
    have OG16 := (OG14.call b15).call b16
    clear P14 o15 b15 b16 B14 S14 OS14 G14 OG14
    go_upto_region 25 with (refine wp_allocStore 32 12 (.tmp 61) [.int .i64 h0, .slice hp hl hq] _ 2 rfl rfl rfl rfl rfl rfl rfl rfl info_RecsResult rfl rfl oH.one ?_)
    have bA : Below w16.heap.size w16 (w16.alloc (.cells #[.int .i64 h0, .slice hp hl hq] 32)) := (Below.refl _ _).alloc (Nat.le_refl _) _
    have H17 : Box (w16.alloc (.cells #[.int .i64 h0, .slice hp hl hq] 32)) w16.heap.size #[.int .i64 h0, .slice hp hl hq] 32 := box_new _ _ _
    obtain ⟨W17, hW17⟩ : ∃ x, x = w16.alloc (.cells #[.int .i64 h0, .slice hp hl hq] 32) := ⟨_, rfl⟩
    rw [← hW17] at bA H17 ⊢
    have B17 := B16.trans (bA.mono (by omega))
    have S17 := S16.call bA
    have OS17 := OS16.call bA
    have G17 := G16.call bA
    have OG17 := OG16.call bA
    have OH17 := oH.call bA
    have z17 : w16.heap.size < W17.heap.size := H17.lt
    clear bA hW17 oH B16 S16 OS16 G16 OG16
    go_wp2_with (first | (refine wp_loadBox 32 (.tmp 12) rfl rfl (w16.heap.size) rfl (cs := [.int .i64 h0, .slice hp hl hq]) H17 Tryz.underlying32 size_RR rfl ?_) | (refine wp_loadBox 32 (.tmp 6) rfl rfl (w3.heap.size) rfl (cs := [.int .i64 s0, .slice sp sl sq]) S17 Tryz.underlying32 size_RR rfl ?_))
    refine (CE _ _ _ _ _ OH17.rd OS17.rd (by omega) (by omega)).mono ?_
    rintro e w18 ⟨rfl, b18⟩
    have z18 : W17.heap.size ≤ w18.heap.size := b18.size
    have B18 := B17.trans (b18.mono (by omega))
    have G18 := G17.call b18
    have OG18 := OG17.call b18
    clear b18 B17 S17 OS17 G17 OG17 OH17 H17
    go_wp2_with (refine wp_loadBox 32 (.tmp 8) rfl rfl (w7.heap.size) rfl (cs := [.int .i64 g0, .slice gp gl gq]) G18 Tryz.underlying32 size_RR rfl ?_)
    refine (CH _ _ _ OG18.rd (by omega)).mono ?_
    rintro e w19 ⟨rfl, b19⟩
    have HB : Hid (Below w.heap.size w w19) := (HT1.out.call (B18.trans (b19.mono (by omega)))).bel
    clear b19 B18 G18 OG18
    go_wp2
    go_ret
    exact ⟨rfl, HB.out⟩
set_option maxRecDepth 100000 in
theorem fnExactMissingRecs_lifted (os : Os) (started : os.Started) (H : Type) (enc : TypeId × Value → H) :
    ReturnsInHanded {} Tryz.checked os 5 .any (Rows.fnExactMissingRecsSpec.pre6 enc Tryz.prog Tryz.f5 Rows.fnExactMissingRecsRow.domain false) (Rows.fnExactMissingRecsSpec.post enc Tryz.prog Tryz.f5 false true false false) := by
  refine returnsInHanded_of_change (C := Tryz.checked) frame_own started (by kernel_rfl) Tryz.func5
    (ChangeSpec.witness6 (enc := enc) (C := Tryz.checked) false ⟨#[], #[.agg #[.int .i64 0, .int .i64 0, .int .i64 0, .int .i64 0, .int .i64 0, .int .i64 0, .int .i64 0, .int .i64 0, .int .i64 0, .slice none 0 0, .slice none 0 0, .slice none 0 0, .int .i64 0, .int .i64 0, .bool false], .int .i64 0], []⟩ 8 (by kernel_rfl) (by kernel_rfl) (by kernel_rfl) (by kernel_rfl)) ?_
  intro W base args ds gs before hval0 hW hcnd _
  have hval : ∀ (j : Nat) t v, Tryz.f5.params[j]? = some t → args[j]? = some v → Value.okWide Tryz.prog W .any base t v := hval0
  have hW' := hW
  obtain ⟨p, q, hA0, hV, rfl, hfz, hnd⟩ := hW
  have hA : DataW.TrodAll enc Tryz.prog W 0 (fun _ => true) true Tryz.f5.params.toList args.toList ds p := hA0
  rw [Tryz.params5] at hA hval
  obtain ⟨v0, vs0, d0, ds0, p0, q0, hargs, rfl, rfl, h0, r0⟩ := trodAll_cons hA
  obtain ⟨v1, vs1, d1, ds1, p1, q1, rfl, rfl, rfl, h1, r1⟩ := trodAll_cons r0
  obtain ⟨rfl, rfl, rfl⟩ := trodAll_nil r1
  obtain rfl : args = #[v0, v1] := by cases args; simp_all
  obtain ⟨rfl, rfl⟩ := trodVars_none hV
  have k0 := h0
  have lt0 : ∀ x ∈ p0, x.block < W.heap.size := by obtain ⟨m, hm⟩ := k0; exact DataW.trod_lt m _ _ _ hm
  obtain ⟨cs0, a0, rfl, rd0⟩ := struct_of_trod opensWorld Tryz.underlying28 (hval 0 28 v0 rfl rfl) h0
  obtain ⟨n1, rfl, rfl, rfl, hn1⟩ := open_int Tryz.underlying2 (hval 1 2 v1 rfl rfl) h1
  clear hA0 hval0
  refine (fnExactMissingRecs_walk a0 cs0 n1 W rd0 (bounds_i64 hn1)).mono fun e W' ⟨he, bel⟩ => ?_
  subst he
  exact ⟨_, rfl, _, _, _, [], _, [], hW', trodAll_mk1 (shut_bool Tryz.underlying4 _), (trodAll_cons_mk (Below.trod frame_laid (by kernel_rfl) (of_decide_eq_true (by kernel_rfl)) k0 bel lt0) (trodAll_cons_mk (shut_int Tryz.underlying2 hn1) trodAll_mk0)), rfl, bel.frame _, fun h => by cases h⟩
end Go.Proofs.YtcdnhhdknkhnkaaGreat