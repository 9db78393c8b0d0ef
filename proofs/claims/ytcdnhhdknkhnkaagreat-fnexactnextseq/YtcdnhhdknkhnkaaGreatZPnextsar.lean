/- Walks of NextSeq, of both sides. -/
import Derived.Test.YtcdnhhdknkhnkaaGreatZPnextsaq
import Derived.Deep.DeepCutAuto
import Derived.Test.YtcdnhhdknkhnkaaGreatRows
import Derived.Test.YtcdnhhdknkhnkaaGreatZPnextsab
import Derived.Test.YtcdnhhdknkhnkaaGreatZPnextsae
import Derived.Test.YtcdnhhdknkhnkaaGreatZPnextsaf
import Derived.Test.YtcdnhhdknkhnkaaGreatZPnextsag
import Derived.Deep.RegionLaw
namespace Go.Proofs.YtcdnhhdknkhnkaaGreat
open Go.RowKit F256
set_option linter.unusedVariables false
set_option linter.unusedSimpArgs false
theorem size_Ir : (Tryz.prog.info? 46).map (·.size) = some 2 := by kernel_rfl
theorem two_one (a b : Int) : ∀ v, v ∈ ([.int .i64 a, .int .i64 b] : List Value) → v.oneCell' = true := fun v hv => by
  simp at hv
  rcases hv with rfl | rfl <;> rfl
def topOf (n : Nat) (y : Nat → RecD) : Int := if n = 0 then 0 else (y (n - 1)).seq
def nextOf (n : Nat) (y : Nat → RecD) : Int := IntKind.i64.wrap (topOf n y + 1)
def NxtAns (d : WorldD) (c v : Int) : Prop := (c ≠ 0 ∧ WldAns d c ∧ v = 0) ∨ (WldAns d 0 ∧ ∃ l, Cnt (recT d.tapes.2 2) (lenT d.tapes.2 2) l ∧ ((1000000000 < nextOf l.length (fun i => recT d.tapes.2 2 (l.getD i 0)) ∧ c = 2 ∧ v = 0) ∨ (¬ 1000000000 < nextOf l.length (fun i => recT d.tapes.2 2 (l.getD i 0)) ∧ c = 0 ∧ v = nextOf l.length (fun i => recT d.tapes.2 2 (l.getD i 0)))))
theorem NxtAns.one {d : WorldD} {c v c' v' : Int} (h : NxtAns d c v) (k : NxtAns d c' v') : c = c' ∧ v = v' := by
  rcases h with ⟨h1, h2, h3⟩ | ⟨h1, l, hl, h3⟩ <;> rcases k with ⟨k1, k2, k3⟩ | ⟨k1, m, hm, k3⟩
  · exact ⟨h2.one k2, by rw [h3, k3]⟩
  · exact absurd (h2.one k1) h1
  · exact absurd (k2.one h1) k1
  · obtain rfl := hl.uniq hm
    rcases h3 with ⟨a, rfl, rfl⟩ | ⟨a, rfl, rfl⟩ <;> rcases k3 with ⟨b, rfl, rfl⟩ | ⟨b, rfl, rfl⟩
    · exact ⟨rfl, rfl⟩
    · exact absurd a b
    · exact absurd b a
    · exact ⟨rfl, rfl⟩
def NqPost (tp : Nat → TapeD) (w : World) (e : Ending) (w' : World) : Prop := ∃ l c x, Cnt (recT tp 2) (lenT tp 2) l ∧ ((1000000000 < nextOf l.length (fun i => recT tp 2 (l.getD i 0)) ∧ c = 2 ∧ x = 0) ∨ (¬ 1000000000 < nextOf l.length (fun i => recT tp 2 (l.getD i 0)) ∧ c = 0 ∧ x = nextOf l.length (fun i => recT tp 2 (l.getD i 0)))) ∧ e = .returned (.agg #[.int .i64 c, .int .i64 x]) ∧ Below w.heap.size w w'
def NxPost (d : WorldD) (w : World) (e : Ending) (w' : World) : Prop := ∃ c v, e = .returned (.agg #[.int .i64 c, .int .i64 v]) ∧ NxtAns d c v ∧ Below w.heap.size w w'
set_option maxHeartbeats 16000000 in
set_option maxRecDepth 20000 in
theorem l6Top_any (v : Value) (n : Nat) (y : Nat → RecD) (hi : Nat) (w : World) (h : (layRec.slice 92).rd w hi (n, y) [v]) (hn : n ≤ 1000000000) :
    Calls Tryz.prog 43 #[v] w (fun e w' => e = .returned (.int .i64 (topOf n y)) ∧ w' = w) := by
  obtain ⟨ao, cap, e, hmm, hc⟩ := h
  obtain rfl : v = .slice ao n cap := by simpa using e
  have hc' : n ≠ 0 → ∃ b off, ao = some ⟨b, off, none⟩ ∧ b < hi ∧ ∀ i, i < n → ∃ ce, layRec.rd w hi (y i) ce ∧ ∀ j, j < layRec.sz → w.cell? ⟨b, off + (i * layRec.sz + j), none⟩ = ce[j]? := hc
  clear e hmm hc
  by_cases h0 : n = 0
  · subst h0
    have e1 : topOf 0 y = 0 := rfl
    rw [e1]
    clear hc' e1
    go_enter Tryz.func43, Tryz.ntmps43
    go_wp2
    go_ret
    exact ⟨rfl, rfl⟩
  · obtain ⟨b, off, rfl, hb, hel⟩ := hc' h0
    obtain ⟨m, rfl⟩ : ∃ m, n = m + 1 := ⟨n - 1, by omega⟩
    obtain ⟨ce, hr, hcell⟩ := hel m (by omega)
    obtain ⟨a6, ak6, a7, ak7, a8, ak8, rfl, -⟩ := Rec_rd hr
    have s1 : w.cell? ⟨b, off + m * 9 + 1, none⟩ = some (.int .i64 (y m).seq) := by have := hcell 1 (by decide); rw [← Nat.add_assoc] at this; exact this
    have e1 : topOf (m + 1) y = (y m).seq := rfl
    rw [e1]
    have wP : IntKind.i64.wrap (((m + 1 : Nat) : Int) - 1) = (m : Int) := by rw [IntKind.wrap_i64]; omega
    have wA : IntKind.i64.wrap (m : Int) = (m : Int) := by rw [IntKind.wrap_i64]; omega
    have i1 : (0 : Int) ≤ (m : Int) := by omega
    have i2 : (m : Int) < ((m + 1 : Nat) : Int) := by omega
    have i3 : m < m + 1 := by omega
    clear hc' hel hr hcell e1
    go_enter Tryz.func43, Tryz.ntmps43
    go_wp2
    go_ret
    exact ⟨rfl, rfl⟩
set_option maxHeartbeats 16000000 in
set_option maxRecDepth 20000 in
theorem greatestSeq_any (v : Value) (n : Nat) (y : Nat → RecD) (hi : Nat) (w : World) (h : (layRec.slice 92).rd w hi (n, y) [v]) (hn : n ≤ 1000000000) :
    Calls Tryz.prog 82 #[v] w (fun e w' => e = .returned (.int .i64 (topOf n y)) ∧ w' = w) := by
  obtain ⟨ao, cap, e, hmm, hc⟩ := h
  obtain rfl : v = .slice ao n cap := by simpa using e
  have hc' : n ≠ 0 → ∃ b off, ao = some ⟨b, off, none⟩ ∧ b < hi ∧ ∀ i, i < n → ∃ ce, layRec.rd w hi (y i) ce ∧ ∀ j, j < layRec.sz → w.cell? ⟨b, off + (i * layRec.sz + j), none⟩ = ce[j]? := hc
  clear e hmm hc
  by_cases h0 : n = 0
  · subst h0
    have e1 : topOf 0 y = 0 := rfl
    rw [e1]
    clear hc' e1
    go_enter Tryz.func82, Tryz.ntmps82
    go_wp2
    go_ret
    exact ⟨rfl, rfl⟩
  · obtain ⟨b, off, rfl, hb, hel⟩ := hc' h0
    obtain ⟨m, rfl⟩ : ∃ m, n = m + 1 := ⟨n - 1, by omega⟩
    obtain ⟨ce, hr, hcell⟩ := hel m (by omega)
    obtain ⟨a6, ak6, a7, ak7, a8, ak8, rfl, -⟩ := Rec_rd hr
    have s1 : w.cell? ⟨b, off + m * 9 + 1, none⟩ = some (.int .i64 (y m).seq) := by have := hcell 1 (by decide); rw [← Nat.add_assoc] at this; exact this
    have e1 : topOf (m + 1) y = (y m).seq := rfl
    rw [e1]
    have wP : IntKind.i64.wrap (((m + 1 : Nat) : Int) - 1) = (m : Int) := by rw [IntKind.wrap_i64]; omega
    have wA : IntKind.i64.wrap (m : Int) = (m : Int) := by rw [IntKind.wrap_i64]; omega
    have i1 : (0 : Int) ≤ (m : Int) := by omega
    have i2 : (m : Int) < ((m + 1 : Nat) : Int) := by omega
    have i3 : m < m + 1 := by omega
    clear hc' hel hr hcell e1
    go_enter Tryz.func82, Tryz.ntmps82
    go_wp2
    go_ret
    exact ⟨rfl, rfl⟩
set_option maxHeartbeats 16000000 in
set_option maxRecDepth 20000 in
theorem nextSeq_any (tp : Nat → TapeD) (v : Value) (hi : Nat) (w : World) (h : (layTape.slice 88).rd w hi (2, tp) [v]) (hhi : hi ≤ w.heap.size) (hn0 : (tp 0).recs.1 ≤ 400000) (hn1 : (tp 1).recs.1 ≤ 400000) :
    Calls Tryz.prog 44 #[v] w (NqPost tp w) := by
  have B0 := one_new w #[.int .i64 0, .int .i64 0] 46
  have CC := countOnce_any tp v hi (w.alloc (.cells #[.int .i64 0, .int .i64 0] 46)) (Lay.rd_below _ h B0.bel hhi) (Nat.le_trans hhi B0.bel.size) hn0 hn1
  clear h
  go_enter Tryz.func44, Tryz.ntmps44
  go_wp2_with fail
  refine CC.mono ?_
  rintro e w2 ⟨v2, l, ce, lo, rfl, hCt, hlo, V, b2⟩
  have HL : Hid (Cnt (recT tp 2) (lenT tp 2) l) := hCt
  have HO : Hid (One w w2 #[.int .i64 0, .int .i64 0] 46) := B0.call b2
  have z2 := HO.out.b1.lt
  have hlen : l.length ≤ 1000000000 := by
    have h1 := (hCt.sum (fun _ => 0)).2
    have e2 : lenT tp 2 = (tp 0).recs.1 + (tp 1).recs.1 := by simp [lenT]
    omega
  have CT := greatestSeq_any v2 l.length (fun i => recT tp 2 (l.getD i 0)) w2.heap.size w2 (V.rd (by have := b2.size; have := B0.bel.size; omega)) hlen
  obtain ⟨a2, c2, rfl⟩ := V.form
  clear V b2 hCt CC B0 hlo
  go_wp2_with fail
  refine CT.mono ?_
  rintro e w3 ⟨rfl, e3⟩
  obtain rfl := e3.symm
  obtain ⟨t, ht⟩ : ∃ t, t = topOf l.length (fun i => recT tp 2 (l.getD i 0)) := ⟨_, rfl⟩
  rw [← ht]
  obtain ⟨u, hu⟩ : ∃ u, u = IntKind.i64.wrap (t + 1) := ⟨_, rfl⟩
  have HU : Hid (u = nextOf l.length (fun i => recT tp 2 (l.getD i 0))) := by rw [hu, ht]; exact rfl
  have hu' : IntKind.i64.wrap (t + 1) = u := hu.symm
  clear CT ht hu
  by_cases hb : 1000000000 < u
  · go_wp2_with (refine wp_storeBox 46 _ _ rfl rfl (w.heap.size) rfl (cs := [.int .i64 2, .int .i64 0]) (old := [.int .i64 0, .int .i64 0]) rfl (HO.out.b1) size_Ir rfl rfl (two_one _ _) ?_; intro w9 X9 C9 z9)
    refine ret_box Tryz.results44 rfl X9 Tryz.underlying46 size_Ir rfl rfl ?_
    have zz := C9.size
    exact ⟨l, 2, 0, HL.out, .inl ⟨by rw [← HU.out]; exact hb, rfl, rfl⟩, rfl, HO.out.bel.trans (C9.bel (fun b hb => by simp at hb; omega) HO.out.bel.size)⟩
  · have hd : decide (1000000000 < u) = false := decide_eq_false hb
    go_wp2_with (refine wp_storeBox 46 _ _ rfl rfl (w.heap.size) rfl (cs := [.int .i64 0, .int .i64 u]) (old := [.int .i64 0, .int .i64 0]) rfl (HO.out.b1) size_Ir rfl rfl (two_one _ _) ?_; intro w9 X9 C9 z9)
    refine ret_box Tryz.results44 rfl X9 Tryz.underlying46 size_Ir rfl rfl ?_
    have zz := C9.size
    exact ⟨l, 0, u, HL.out, .inr ⟨by rw [← HU.out]; omega, rfl, HU.out⟩, rfl, HO.out.bel.trans (C9.bel (fun b hb => by simp at hb; omega) HO.out.bel.size)⟩
set_option maxHeartbeats 16000000 in
set_option maxRecDepth 20000 in
theorem implNext_any (d : WorldD) (cs : List Value) (hi : Nat) (w : World) (h : layWorld.rd w hi d cs) (hhi : hi ≤ w.heap.size) (hsz : szWorldD d ≤ 1048576) :
    Calls Tryz.prog 16 #[.agg cs.toArray] w (NxPost d w) := by
  have h' := h
  obtain ⟨ao1, cap1, ao2, cap2, ao3, cap3, rfl, g1, g2, g3, k0, k4, k5⟩ := World_rd h'
  have HRD : Hid (layWorld.rd w hi d [.int .i64 (d.shape 0), .int .i64 (d.shape 1), .int .i64 (d.shape 2), .int .i64 (d.shape 3), .int .i64 (d.shape 4), .int .i64 (d.shape 5), .int .i64 (d.shape 6), .int .i64 (d.shape 7), .int .i64 (d.shape 8), .slice ao1 d.groups.1 cap1, .slice ao2 d.on.1 cap2, .slice ao3 d.tapes.1 cap3, .int .i64 d.writes, .int .i64 d.stop, .bool d.down]) := h
  have HG3 : Hid ((layTape.slice 88).rd w hi d.tapes [.slice ao3 d.tapes.1 cap3]) := g3
  have HSZ : Hid (szWorldD d ≤ 1048576) := hsz
  clear h h' hsz g1 g2 g3 k0 k4 k5
  have T0 := two_newb w #[.int .i64 (d.shape 0), .int .i64 (d.shape 1), .int .i64 (d.shape 2), .int .i64 (d.shape 3), .int .i64 (d.shape 4), .int .i64 (d.shape 5), .int .i64 (d.shape 6), .int .i64 (d.shape 7), .int .i64 (d.shape 8), .slice ao1 d.groups.1 cap1, .slice ao2 d.on.1 cap2, .slice ao3 d.tapes.1 cap3, .int .i64 d.writes, .int .i64 d.stop, .bool d.down] #[.int .i64 0, .int .i64 0] 38 46
  go_enter Tryz.func16, Tryz.ntmps16
  go_wp2_with (refine wp_loadBox 38 (.tmp 1) rfl rfl (w.heap.size) rfl (cs := [.int .i64 (d.shape 0), .int .i64 (d.shape 1), .int .i64 (d.shape 2), .int .i64 (d.shape 3), .int .i64 (d.shape 4), .int .i64 (d.shape 5), .int .i64 (d.shape 6), .int .i64 (d.shape 7), .int .i64 (d.shape 8), .slice ao1 d.groups.1 cap1, .slice ao2 d.on.1 cap2, .slice ao3 d.tapes.1 cap3, .int .i64 d.writes, .int .i64 d.stop, .bool d.down]) (T0.b1) Tryz.underlying38 size_W rfl ?_)
  refine (implWorld_any d _ hi _ (layWorld.rd_below HRD.out T0.bel hhi) (Nat.le_trans hhi T0.bel.size) (wld_ok_names HSZ.out)).mono ?_
  rintro e w1 ⟨x, rfl, hx, b1⟩
  have HT1 : Hid (Two w w1 #[.int .i64 (d.shape 0), .int .i64 (d.shape 1), .int .i64 (d.shape 2), .int .i64 (d.shape 3), .int .i64 (d.shape 4), .int .i64 (d.shape 5), .int .i64 (d.shape 6), .int .i64 (d.shape 7), .int .i64 (d.shape 8), .slice ao1 d.groups.1 cap1, .slice ao2 d.on.1 cap2, .slice ao3 d.tapes.1 cap3, .int .i64 d.writes, .int .i64 d.stop, .bool d.down] #[.int .i64 0, .int .i64 0] 38 46) := T0.call b1
  have HX : Hid (WldAns d x) := hx
  have z1 : w.heap.size + 1 < w1.heap.size := HT1.out.b2.lt
  clear b1 T0 hx
  by_cases hx0 : x = 0
  case neg =>
    have hne : (x != 0) = true := by simp [hx0]
    go_wp2_with (refine wp_storeBox 46 _ _ rfl rfl (w.heap.size + 1) rfl (cs := [.int .i64 x, .int .i64 0]) (old := [.int .i64 0, .int .i64 0]) rfl (HT1.out.b2) size_Ir rfl rfl (two_one _ _) ?_; intro w9 X9 C9 z9)
    refine ret_box Tryz.results16 rfl X9 Tryz.underlying46 size_Ir rfl rfl ?_
    have zz := C9.size
    exact ⟨x, 0, rfl, .inl ⟨hx0, HX.out, rfl⟩, HT1.out.bel.trans (C9.bel (fun b hb => by simp at hb; omega) HT1.out.bel.size)⟩
  subst hx0
  have HOK : Hid (OkWorld d) := WldAns.ok HX.out
  have h2 : d.tapes.1 = 2 := HOK.out.form.2.2
  have hn0 : (d.tapes.2 0).recs.1 ≤ 400000 := Nat.le_trans (HOK.out.few 0 (by omega)) (by decide)
  have hn1 : (d.tapes.2 1).recs.1 ≤ 400000 := Nat.le_trans (HOK.out.few 1 (by omega)) (by decide)
  have x11 : w1.cell? ⟨w.heap.size, 11, none⟩ = some (.slice ao3 2 cap3) := by have := HT1.out.b1.cell 11; rw [h2] at this; exact this
  have G3 : (layTape.slice 88).rd w1 hi (2, d.tapes.2) [.slice ao3 2 cap3] := by
    have := Lay.rd_below _ HG3.out HT1.out.bel hhi
    rw [h2] at this
    rw [show d.tapes = (2, d.tapes.2) from Prod.ext h2 rfl] at this
    exact this
  have CC := nextSeq_any d.tapes.2 (.slice ao3 2 cap3) hi w1 G3 (by omega) hn0 hn1
  clear G3
  go_wp2_with fail
  refine CC.mono ?_
  rintro e w2 ⟨l, c, v, hl, hcv, rfl, b2⟩
  have HQ : Hid (NxtAns d c v) := .inr ⟨HX.out, l, hl, hcv⟩
  have HT2 : Hid (Two w w2 #[.int .i64 (d.shape 0), .int .i64 (d.shape 1), .int .i64 (d.shape 2), .int .i64 (d.shape 3), .int .i64 (d.shape 4), .int .i64 (d.shape 5), .int .i64 (d.shape 6), .int .i64 (d.shape 7), .int .i64 (d.shape 8), .slice ao1 d.groups.1 cap1, .slice ao2 d.on.1 cap2, .slice ao3 d.tapes.1 cap3, .int .i64 d.writes, .int .i64 d.stop, .bool d.down] #[.int .i64 0, .int .i64 0] 38 46) := HT1.out.call b2
  clear hcv hl b2 CC x11 HT1
  go_wp2_with (refine wp_storeBox 46 _ _ rfl rfl (w.heap.size + 1) rfl (cs := [.int .i64 c, .int .i64 v]) (old := [.int .i64 0, .int .i64 0]) rfl (HT2.out.b2) size_Ir rfl rfl (two_one _ _) ?_; intro w9 X9 C9 z9)
  refine ret_box Tryz.results16 rfl X9 Tryz.underlying46 size_Ir rfl rfl ?_
  have zz := C9.size
  exact ⟨c, v, rfl, HQ.out, HT2.out.bel.trans (C9.bel (fun b hb => by simp at hb; omega) HT2.out.bel.size)⟩
set_option maxHeartbeats 16000000 in
set_option maxRecDepth 20000 in
theorem specNext_any (d : WorldD) (cs : List Value) (hi : Nat) (w : World) (h : layWorld.rd w hi d cs) (hhi : hi ≤ w.heap.size) (hsz : szWorldD d ≤ 1048576) :
    Calls Tryz.prog 15 #[.agg cs.toArray] w (NxPost d w) := by
  have h' := h
  obtain ⟨ao1, cap1, ao2, cap2, ao3, cap3, rfl, g1, g2, g3, k0, k4, k5⟩ := World_rd h'
  have HRD : Hid (layWorld.rd w hi d [.int .i64 (d.shape 0), .int .i64 (d.shape 1), .int .i64 (d.shape 2), .int .i64 (d.shape 3), .int .i64 (d.shape 4), .int .i64 (d.shape 5), .int .i64 (d.shape 6), .int .i64 (d.shape 7), .int .i64 (d.shape 8), .slice ao1 d.groups.1 cap1, .slice ao2 d.on.1 cap2, .slice ao3 d.tapes.1 cap3, .int .i64 d.writes, .int .i64 d.stop, .bool d.down]) := h
  have HG3 : Hid ((layTape.slice 88).rd w hi d.tapes [.slice ao3 d.tapes.1 cap3]) := g3
  have HSZ : Hid (szWorldD d ≤ 1048576) := hsz
  clear h h' hsz g1 g2 g3 k0 k4 k5
  have T0 := two_newb w #[.int .i64 (d.shape 0), .int .i64 (d.shape 1), .int .i64 (d.shape 2), .int .i64 (d.shape 3), .int .i64 (d.shape 4), .int .i64 (d.shape 5), .int .i64 (d.shape 6), .int .i64 (d.shape 7), .int .i64 (d.shape 8), .slice ao1 d.groups.1 cap1, .slice ao2 d.on.1 cap2, .slice ao3 d.tapes.1 cap3, .int .i64 d.writes, .int .i64 d.stop, .bool d.down] #[.int .i64 0, .int .i64 0] 38 46
  go_enter Tryz.func15, Tryz.ntmps15
  go_wp2_with (refine wp_loadBox 38 (.tmp 1) rfl rfl (w.heap.size) rfl (cs := [.int .i64 (d.shape 0), .int .i64 (d.shape 1), .int .i64 (d.shape 2), .int .i64 (d.shape 3), .int .i64 (d.shape 4), .int .i64 (d.shape 5), .int .i64 (d.shape 6), .int .i64 (d.shape 7), .int .i64 (d.shape 8), .slice ao1 d.groups.1 cap1, .slice ao2 d.on.1 cap2, .slice ao3 d.tapes.1 cap3, .int .i64 d.writes, .int .i64 d.stop, .bool d.down]) (T0.b1) Tryz.underlying38 size_W rfl ?_)
  refine (specWorld_any d _ hi _ (layWorld.rd_below HRD.out T0.bel hhi) (Nat.le_trans hhi T0.bel.size) (wld_ok_names HSZ.out)).mono ?_
  rintro e w1 ⟨x, rfl, hx, b1⟩
  have HT1 : Hid (Two w w1 #[.int .i64 (d.shape 0), .int .i64 (d.shape 1), .int .i64 (d.shape 2), .int .i64 (d.shape 3), .int .i64 (d.shape 4), .int .i64 (d.shape 5), .int .i64 (d.shape 6), .int .i64 (d.shape 7), .int .i64 (d.shape 8), .slice ao1 d.groups.1 cap1, .slice ao2 d.on.1 cap2, .slice ao3 d.tapes.1 cap3, .int .i64 d.writes, .int .i64 d.stop, .bool d.down] #[.int .i64 0, .int .i64 0] 38 46) := T0.call b1
  have HX : Hid (WldAns d x) := hx
  have z1 : w.heap.size + 1 < w1.heap.size := HT1.out.b2.lt
  clear b1 T0 hx
  by_cases hx0 : x = 0
  case neg =>
    have hne : (x != 0) = true := by simp [hx0]
    go_wp2_with (refine wp_storeBox 46 _ _ rfl rfl (w.heap.size + 1) rfl (cs := [.int .i64 x, .int .i64 0]) (old := [.int .i64 0, .int .i64 0]) rfl (HT1.out.b2) size_Ir rfl rfl (two_one _ _) ?_; intro w9 X9 C9 z9)
    refine ret_box Tryz.results15 rfl X9 Tryz.underlying46 size_Ir rfl rfl ?_
    have zz := C9.size
    exact ⟨x, 0, rfl, .inl ⟨hx0, HX.out, rfl⟩, HT1.out.bel.trans (C9.bel (fun b hb => by simp at hb; omega) HT1.out.bel.size)⟩
  subst hx0
  have HOK : Hid (OkWorld d) := WldAns.ok HX.out
  have h2 : d.tapes.1 = 2 := HOK.out.form.2.2
  have hn0 : (d.tapes.2 0).recs.1 ≤ 400000 := Nat.le_trans (HOK.out.few 0 (by omega)) (by decide)
  have hn1 : (d.tapes.2 1).recs.1 ≤ 400000 := Nat.le_trans (HOK.out.few 1 (by omega)) (by decide)
  have CC := l6Counted_any d [.int .i64 (d.shape 0), .int .i64 (d.shape 1), .int .i64 (d.shape 2), .int .i64 (d.shape 3), .int .i64 (d.shape 4), .int .i64 (d.shape 5), .int .i64 (d.shape 6), .int .i64 (d.shape 7), .int .i64 (d.shape 8), .slice ao1 d.groups.1 cap1, .slice ao2 d.on.1 cap2, .slice ao3 d.tapes.1 cap3, .int .i64 d.writes, .int .i64 d.stop, .bool d.down] hi w.heap.size w1 (layWorld.rd_below HRD.out HT1.out.bel hhi) (by omega) HT1.out.b1 h2 hn0 hn1
  go_wp2_with fail
  refine CC.mono ?_
  rintro e w2 ⟨v2, l, ce, lo, rfl, hCt, hlo, V, b2⟩
  have HL : Hid (Cnt (recT d.tapes.2 2) (lenT d.tapes.2 2) l) := hCt
  have z2 : w1.heap.size ≤ w2.heap.size := b2.size
  have hlen : l.length ≤ 1000000000 := by
    have h1 := (hCt.sum (fun _ => 0)).2
    have e2 : lenT d.tapes.2 2 = (d.tapes.2 0).recs.1 + (d.tapes.2 1).recs.1 := by simp [lenT]
    omega
  have CT := l6Top_any v2 l.length (fun i => recT d.tapes.2 2 (l.getD i 0)) w2.heap.size w2 (V.rd (by omega)) hlen
  have HT2 : Hid (Two w w2 #[.int .i64 (d.shape 0), .int .i64 (d.shape 1), .int .i64 (d.shape 2), .int .i64 (d.shape 3), .int .i64 (d.shape 4), .int .i64 (d.shape 5), .int .i64 (d.shape 6), .int .i64 (d.shape 7), .int .i64 (d.shape 8), .slice ao1 d.groups.1 cap1, .slice ao2 d.on.1 cap2, .slice ao3 d.tapes.1 cap3, .int .i64 d.writes, .int .i64 d.stop, .bool d.down] #[.int .i64 0, .int .i64 0] 38 46) := HT1.out.call b2
  obtain ⟨a2, c2, rfl⟩ := V.form
  clear V b2 hCt CC HT1
  go_wp2_with fail
  refine CT.mono ?_
  rintro e w3 ⟨rfl, e3⟩
  obtain rfl := e3.symm
  obtain ⟨t, ht⟩ : ∃ t, t = topOf l.length (fun i => recT d.tapes.2 2 (l.getD i 0)) := ⟨_, rfl⟩
  rw [← ht]
  obtain ⟨u, hu⟩ : ∃ u, u = IntKind.i64.wrap (t + 1) := ⟨_, rfl⟩
  have HU : Hid (u = nextOf l.length (fun i => recT d.tapes.2 2 (l.getD i 0))) := by rw [hu, ht]; exact rfl
  have hu' : IntKind.i64.wrap (t + 1) = u := hu.symm
  clear CT ht hu
  by_cases hb : 1000000000 < u
  · go_wp2_with (refine wp_storeBox 46 _ _ rfl rfl (w.heap.size + 1) rfl (cs := [.int .i64 2, .int .i64 0]) (old := [.int .i64 0, .int .i64 0]) rfl (HT2.out.b2) size_Ir rfl rfl (two_one _ _) ?_; intro w9 X9 C9 z9)
    refine ret_box Tryz.results15 rfl X9 Tryz.underlying46 size_Ir rfl rfl ?_
    have zz := C9.size
    exact ⟨2, 0, rfl, .inr ⟨HX.out, l, HL.out, .inl ⟨by rw [← HU.out]; exact hb, rfl, rfl⟩⟩, HT2.out.bel.trans (C9.bel (fun b hb => by simp at hb; omega) HT2.out.bel.size)⟩
  · have hd : decide (1000000000 < u) = false := decide_eq_false hb
    go_wp2_with (refine wp_storeBox 46 _ _ rfl rfl (w.heap.size + 1) rfl (cs := [.int .i64 0, .int .i64 u]) (old := [.int .i64 0, .int .i64 0]) rfl (HT2.out.b2) size_Ir rfl rfl (two_one _ _) ?_; intro w9 X9 C9 z9)
    refine ret_box Tryz.results15 rfl X9 Tryz.underlying46 size_Ir rfl rfl ?_
    have zz := C9.size
    exact ⟨0, u, rfl, .inr ⟨HX.out, l, HL.out, .inr ⟨by rw [← HU.out]; omega, rfl, HU.out⟩⟩, HT2.out.bel.trans (C9.bel (fun b hb => by simp at hb; omega) HT2.out.bel.size)⟩
end Go.Proofs.YtcdnhhdknkhnkaaGreat

namespace Go.Proofs.YtcdnhhdknkhnkaaGreat
open Go.ChangeShapes Go.WideShapes Go.ChangeAt Go.RowKit F256
set_option linter.unusedVariables false
set_option linter.unusedSimpArgs false
theorem next_ex (d : WorldD) : ∃ c v, NxtAns d c v := by
  obtain ⟨x, hx⟩ := world_ex d
  by_cases h : x = 0
  · subst h
    obtain ⟨l, hl⟩ := cnt_ex (recT d.tapes.2 2) (lenT d.tapes.2 2)
    by_cases hb : 1000000000 < nextOf l.length (fun i => recT d.tapes.2 2 (l.getD i 0))
    · exact ⟨_, _, .inr ⟨hx, l, hl, .inl ⟨hb, rfl, rfl⟩⟩⟩
    · exact ⟨_, _, .inr ⟨hx, l, hl, .inr ⟨hb, rfl, rfl⟩⟩⟩
  · exact ⟨x, 0, .inl ⟨h, hx, rfl⟩⟩
theorem next_det {d : WorldD} {c v : Int} {w : World} {f : Nat} {args : Array Value} (hq : NxtAns d c v) (h : Calls Tryz.prog f args w (NxPost d w)) : Calls Tryz.prog f args w fun e w' => e = .returned (.agg #[.int .i64 c, .int .i64 v]) ∧ Below w.heap.size w w' :=
  h.mono fun e w' ⟨c', v', h1, h2, h3⟩ => ⟨by rw [h1, (hq.one h2).1, (hq.one h2).2], h3⟩
theorem info_Ir : (Tryz.prog.info? 46).map (fun i => (i.zero.map (·.cells), i.size)) = some (some #[.int .i64 0, .int .i64 0], 2) := by kernel_rfl
set_option maxHeartbeats 16000000 in
set_option maxRecDepth 20000 in
theorem fnExactNextSeq_walk (d : WorldD) (cs : List Value)  (w : World) (rd0 : layWorld.rd w w.heap.size d cs)  :
    Calls Tryz.prog 4 #[.agg cs.toArray] w fun e w' => e = .returned (.bool true) ∧ Below w.heap.size w w' := by
  obtain ⟨v0, v1, v2, v3, v4, v5, v6, v7, v8, vp0, vl0, vq0, vp1, vl1, vq1, vp2, vl2, vq2, v9, v10, vb, rfl⟩ := world15 rd0
  have HR : Hid (layWorld.rd w w.heap.size d [.int .i64 v0, .int .i64 v1, .int .i64 v2, .int .i64 v3, .int .i64 v4, .int .i64 v5, .int .i64 v6, .int .i64 v7, .int .i64 v8, .slice vp0 vl0 vq0, .slice vp1 vl1 vq1, .slice vp2 vl2 vq2, .int .i64 v9, .int .i64 v10, .bool vb]) := rd0
  clear rd0 
  have T0 := one_new w #[.int .i64 v0, .int .i64 v1, .int .i64 v2, .int .i64 v3, .int .i64 v4, .int .i64 v5, .int .i64 v6, .int .i64 v7, .int .i64 v8, .slice vp0 vl0 vq0, .slice vp1 vl1 vq1, .slice vp2 vl2 vq2, .int .i64 v9, .int .i64 v10, .bool vb] 28
  go_enter Tryz.func4, Tryz.ntmps4
  go_wp2_with (refine wp_loadBox 28 (.tmp 1) rfl rfl (w.heap.size) rfl (cs := [.int .i64 v0, .int .i64 v1, .int .i64 v2, .int .i64 v3, .int .i64 v4, .int .i64 v5, .int .i64 v6, .int .i64 v7, .int .i64 v8, .slice vp0 vl0 vq0, .slice vp1 vl1 vq1, .slice vp2 vl2 vq2, .int .i64 v9, .int .i64 v10, .bool vb]) T0.b1 Tryz.underlying28 size_LW rfl ?_)
  refine (szWorld_is _ d w.heap.size 1048576 _ (layWorld.rd_below HR.out T0.bel (Nat.le_refl _)) T0.bel.size (by omega)).mono ?_
  rintro e w1 ⟨x, rfl, hx, b1⟩
  have T1 := T0.call b1
  have HT1 : Hid (One w w1 #[.int .i64 v0, .int .i64 v1, .int .i64 v2, .int .i64 v3, .int .i64 v4, .int .i64 v5, .int .i64 v6, .int .i64 v7, .int .i64 v8, .slice vp0 vl0 vq0, .slice vp1 vl1 vq1, .slice vp2 vl2 vq2, .int .i64 v9, .int .i64 v10, .bool vb] 28) := T1
  clear b1 T0
  rcases hx with rfl | ⟨hsz, hx⟩
  · clear T1
    go_wp2
    go_ret
    exact ⟨rfl, HT1.out.bel⟩
  have hx0 : ¬ x < 0 := by omega
  clear hx
  obtain ⟨cc, vv, hq⟩ := next_ex d 
  have CT : ∀ w', Below w1.heap.size w1 w' → Calls Tryz.prog 8 #[.agg #[.int .i64 v0, .int .i64 v1, .int .i64 v2, .int .i64 v3, .int .i64 v4, .int .i64 v5, .int .i64 v6, .int .i64 v7, .int .i64 v8, .slice vp0 vl0 vq0, .slice vp1 vl1 vq1, .slice vp2 vl2 vq2, .int .i64 v9, .int .i64 v10, .bool vb]] w' fun e w'' => ∃ cs', e = .returned (.agg cs'.toArray) ∧ OwnT layWorld w'' w'.heap.size w''.heap.size d cs' ∧ Below w'.heap.size w' w'' := fun w' hb =>
    toWorld_is _ d w.heap.size w' (layWorld.rd_below (layWorld.rd_below HR.out HT1.out.bel (Nat.le_refl _)) hb HT1.out.bel.size) (Nat.le_trans HT1.out.bel.size hb.size) hsz
  have CS := fun (cs' : List Value) (hi : Nat) (w' : World) (h1 : layWorld.rd w' hi d cs') (h2 : hi ≤ w'.heap.size) => next_det hq (specNext_any d  cs' hi w' h1 h2 hsz)
  have CI := fun (cs' : List Value) (hi : Nat) (w' : World) (h1 : layWorld.rd w' hi d cs') (h2 : hi ≤ w'.heap.size) => next_det hq (implNext_any d  cs' hi w' h1 h2 hsz)
  have CE := fun w' => eqInt_same cc vv w'
  unfold intR at CE
  have CW := fun c1 c2 h1 h2 w' => eqWorld_is c1 c2 d h1 h2 w'
  clear hq hsz
  go_wp2_with (refine wp_loadBox 28 (.tmp 1) rfl rfl (w.heap.size) rfl (cs := [.int .i64 v0, .int .i64 v1, .int .i64 v2, .int .i64 v3, .int .i64 v4, .int .i64 v5, .int .i64 v6, .int .i64 v7, .int .i64 v8, .slice vp0 vl0 vq0, .slice vp1 vl1 vq1, .slice vp2 vl2 vq2, .int .i64 v9, .int .i64 v10, .bool vb]) T1.b1 Tryz.underlying28 size_LW rfl ?_)
  refine (CT _ (Below.refl _ _)).mono ?_
  rintro e w2 ⟨c2, rfl, o2, b2⟩
  have z1 : w.heap.size < w1.heap.size := T1.b1.lt
  clear T1
  go_wp2_with fail
  refine (CS _ _ _ o2.rd (Nat.le_refl _)).mono ?_
  rintro e w3 ⟨rfl, b3⟩
  have z2 : w1.heap.size ≤ w2.heap.size := b2.size
  have z3 : w2.heap.size ≤ w3.heap.size := b3.size
  have B3 : Below w1.heap.size w1 w3 := b2.trans (b3.mono b2.size)
  clear o2 b2 b3
  go_upto_region 6 with (refine wp_allocStore 46 4 (.tmp 14) [.int .i64 cc, .int .i64 vv] _ 2 rfl rfl rfl rfl rfl rfl rfl rfl info_Ir rfl rfl (two_one _ _) ?_)
  have bA : Below w3.heap.size w3 (w3.alloc (.cells #[.int .i64 cc, .int .i64 vv] 46)) := (Below.refl _ _).alloc (Nat.le_refl _) _
  have S4 : Box (w3.alloc (.cells #[.int .i64 cc, .int .i64 vv] 46)) w3.heap.size #[.int .i64 cc, .int .i64 vv] 46 := box_new _ _ _
  obtain ⟨W4, hW4⟩ : ∃ x, x = w3.alloc (.cells #[.int .i64 cc, .int .i64 vv] 46) := ⟨_, rfl⟩
  rw [← hW4] at bA S4 ⊢
  have B4 := B3.trans (bA.mono (by omega))
  have P4 := HT1.out.call B4
  have z4 : w3.heap.size < W4.heap.size := S4.lt
  clear bA hW4 B3
  go_wp2_with (refine wp_loadBox 28 (.tmp 1) rfl rfl (w.heap.size) rfl (cs := [.int .i64 v0, .int .i64 v1, .int .i64 v2, .int .i64 v3, .int .i64 v4, .int .i64 v5, .int .i64 v6, .int .i64 v7, .int .i64 v8, .slice vp0 vl0 vq0, .slice vp1 vl1 vq1, .slice vp2 vl2 vq2, .int .i64 v9, .int .i64 v10, .bool vb]) P4.b1 Tryz.underlying28 size_LW rfl ?_)
  refine (CT _ B4).mono ?_
  rintro e w5 ⟨cX, rfl, oX, b5⟩
  obtain ⟨x0, x1, x2, x3, x4, x5, x6, x7, x8, xp0, xl0, xq0, xp1, xl1, xq1, xp2, xl2, xq2, x9, x10, xb, rfl⟩ := world15O oX
  have z5 : W4.heap.size ≤ w5.heap.size := b5.size
  have B5 := B4.trans (b5.mono (by omega))
  have S5 := S4.call b5
  clear P4 b5 B4 S4
  go_upto_region 7 with (refine wp_allocStore 38 5 (.tmp 16) [.int .i64 x0, .int .i64 x1, .int .i64 x2, .int .i64 x3, .int .i64 x4, .int .i64 x5, .int .i64 x6, .int .i64 x7, .int .i64 x8, .slice xp0 xl0 xq0, .slice xp1 xl1 xq1, .slice xp2 xl2 xq2, .int .i64 x9, .int .i64 x10, .bool xb] _ 15 rfl rfl rfl rfl rfl rfl rfl rfl info_W rfl rfl oX.one ?_)
  have bA : Below w5.heap.size w5 (w5.alloc (.cells #[.int .i64 x0, .int .i64 x1, .int .i64 x2, .int .i64 x3, .int .i64 x4, .int .i64 x5, .int .i64 x6, .int .i64 x7, .int .i64 x8, .slice xp0 xl0 xq0, .slice xp1 xl1 xq1, .slice xp2 xl2 xq2, .int .i64 x9, .int .i64 x10, .bool xb] 38)) := (Below.refl _ _).alloc (Nat.le_refl _) _
  have X6 : Box (w5.alloc (.cells #[.int .i64 x0, .int .i64 x1, .int .i64 x2, .int .i64 x3, .int .i64 x4, .int .i64 x5, .int .i64 x6, .int .i64 x7, .int .i64 x8, .slice xp0 xl0 xq0, .slice xp1 xl1 xq1, .slice xp2 xl2 xq2, .int .i64 x9, .int .i64 x10, .bool xb] 38)) w5.heap.size #[.int .i64 x0, .int .i64 x1, .int .i64 x2, .int .i64 x3, .int .i64 x4, .int .i64 x5, .int .i64 x6, .int .i64 x7, .int .i64 x8, .slice xp0 xl0 xq0, .slice xp1 xl1 xq1, .slice xp2 xl2 xq2, .int .i64 x9, .int .i64 x10, .bool xb] 38 := box_new _ _ _
  obtain ⟨W6, hW6⟩ : ∃ x, x = w5.alloc (.cells #[.int .i64 x0, .int .i64 x1, .int .i64 x2, .int .i64 x3, .int .i64 x4, .int .i64 x5, .int .i64 x6, .int .i64 x7, .int .i64 x8, .slice xp0 xl0 xq0, .slice xp1 xl1 xq1, .slice xp2 xl2 xq2, .int .i64 x9, .int .i64 x10, .bool xb] 38) := ⟨_, rfl⟩
  rw [← hW6] at bA X6 ⊢
  have B6 := B5.trans (bA.mono (by omega))
  have S6 := S5.call bA
  have OX6 := oX.call bA
  have z6 : w5.heap.size < W6.heap.size := X6.lt
  clear bA hW6 oX B5 S5
  go_wp2_with (refine wp_loadBox 38 (.tmp 5) rfl rfl (w5.heap.size) rfl (cs := [.int .i64 x0, .int .i64 x1, .int .i64 x2, .int .i64 x3, .int .i64 x4, .int .i64 x5, .int .i64 x6, .int .i64 x7, .int .i64 x8, .slice xp0 xl0 xq0, .slice xp1 xl1 xq1, .slice xp2 xl2 xq2, .int .i64 x9, .int .i64 x10, .bool xb]) X6 Tryz.underlying38 size_W rfl ?_)
  refine (CI _ _ _ OX6.rd (by omega)).mono ?_
  rintro e w7 ⟨rfl, b7⟩
  have z7 : W6.heap.size ≤ w7.heap.size := b7.size
  have B7 := B6.trans (b7.mono (by omega))
  have S7 := S6.call b7
  have X7 := X6.call b7
  have OX7 := OX6.call b7
  clear b7 B6 S6 X6 OX6
  go_upto_region 8 with (refine wp_allocStore 46 6 (.tmp 18) [.int .i64 cc, .int .i64 vv] _ 2 rfl rfl rfl rfl rfl rfl rfl rfl info_Ir rfl rfl (two_one _ _) ?_)
  have bA : Below w7.heap.size w7 (w7.alloc (.cells #[.int .i64 cc, .int .i64 vv] 46)) := (Below.refl _ _).alloc (Nat.le_refl _) _
  have G8 : Box (w7.alloc (.cells #[.int .i64 cc, .int .i64 vv] 46)) w7.heap.size #[.int .i64 cc, .int .i64 vv] 46 := box_new _ _ _
  obtain ⟨W8, hW8⟩ : ∃ x, x = w7.alloc (.cells #[.int .i64 cc, .int .i64 vv] 46) := ⟨_, rfl⟩
  rw [← hW8] at bA G8 ⊢
  have B8 := B7.trans (bA.mono (by omega))
  have S8 := S7.call bA
  have X8 := X7.call bA
  have OX8 := OX7.call bA
  have z8 : w7.heap.size < W8.heap.size := G8.lt
  clear bA hW8 B7 S7 X7 OX7
  go_wp2_with (first | (refine wp_loadBox 46 (.tmp 6) rfl rfl (w7.heap.size) rfl (cs := [.int .i64 cc, .int .i64 vv]) G8 Tryz.underlying46 size_Ir rfl ?_) | (refine wp_loadBox 46 (.tmp 4) rfl rfl (w3.heap.size) rfl (cs := [.int .i64 cc, .int .i64 vv]) S8 Tryz.underlying46 size_Ir rfl ?_))
  refine (CE _).mono ?_
  rintro e w9 ⟨rfl, b9⟩
  have z9 : W8.heap.size ≤ w9.heap.size := b9.size
  have B9 := B8.trans (b9.mono (by omega))
  have X9 : Hid (Box w9 w5.heap.size #[.int .i64 x0, .int .i64 x1, .int .i64 x2, .int .i64 x3, .int .i64 x4, .int .i64 x5, .int .i64 x6, .int .i64 x7, .int .i64 x8, .slice xp0 xl0 xq0, .slice xp1 xl1 xq1, .slice xp2 xl2 xq2, .int .i64 x9, .int .i64 x10, .bool xb] 38) := X8.call b9
  have OX9 : Hid (OwnT layWorld w9 W4.heap.size w5.heap.size d [.int .i64 x0, .int .i64 x1, .int .i64 x2, .int .i64 x3, .int .i64 x4, .int .i64 x5, .int .i64 x6, .int .i64 x7, .int .i64 x8, .slice xp0 xl0 xq0, .slice xp1 xl1 xq1, .slice xp2 xl2 xq2, .int .i64 x9, .int .i64 x10, .bool xb]) := OX8.call b9
  have HB9 : Hid (Below w1.heap.size w1 w9) := B9
  have P9 : Hid (One w w9 #[.int .i64 v0, .int .i64 v1, .int .i64 v2, .int .i64 v3, .int .i64 v4, .int .i64 v5, .int .i64 v6, .int .i64 v7, .int .i64 v8, .slice vp0 vl0 vq0, .slice vp1 vl1 vq1, .slice vp2 vl2 vq2, .int .i64 v9, .int .i64 v10, .bool vb] 28) := HT1.out.call B9
  have CTc := fun w' (hb : Below w9.heap.size w9 w') => CT w' (HB9.out.trans (hb.mono (by omega)))
  clear b9 B8 S8 X8 OX8 G8 B9
  go_upto_region 10 with fail
  go_cut [27] (fun v wx => v = .bool false ∧ Below w9.heap.size w9 wx)
  case first =>
    have KS : ∀ w', Below w9.heap.size w9 w' → (Box w' (w5.heap.size) #[.int .i64 x0, .int .i64 x1, .int .i64 x2, .int .i64 x3, .int .i64 x4, .int .i64 x5, .int .i64 x6, .int .i64 x7, .int .i64 x8, .slice xp0 xl0 xq0, .slice xp1 xl1 xq1, .slice xp2 xl2 xq2, .int .i64 x9, .int .i64 x10, .bool xb] 38 ∧ Box w' (w.heap.size) #[.int .i64 v0, .int .i64 v1, .int .i64 v2, .int .i64 v3, .int .i64 v4, .int .i64 v5, .int .i64 v6, .int .i64 v7, .int .i64 v8, .slice vp0 vl0 vq0, .slice vp1 vl1 vq1, .slice vp2 vl2 vq2, .int .i64 v9, .int .i64 v10, .bool vb] 28) := fun w' hb => ⟨(X9.out).call hb, (P9.out.b1).call hb⟩
    have B0 : Below w9.heap.size w9 w9.drew := below_drew _
    refine wp_region_L 4 (fun w' => Box w' (w5.heap.size) #[.int .i64 x0, .int .i64 x1, .int .i64 x2, .int .i64 x3, .int .i64 x4, .int .i64 x5, .int .i64 x6, .int .i64 x7, .int .i64 x8, .slice xp0 xl0 xq0, .slice xp1 xl1 xq1, .slice xp2 xl2 xq2, .int .i64 x9, .int .i64 x10, .bool xb] 38 ∧ Box w' (w.heap.size) #[.int .i64 v0, .int .i64 v1, .int .i64 v2, .int .i64 v3, .int .i64 v4, .int .i64 v5, .int .i64 v6, .int .i64 v7, .int .i64 v8, .slice vp0 vl0 vq0, .slice vp1 vl1 vq1, .slice vp2 vl2 vq2, .int .i64 v9, .int .i64 v10, .bool vb] 28) (by kernel_rfl) (KS _ B0) (fun hHeld => ?_)
    refine wpAnyL_take (i := 0) (oi := _) (v := .agg #[.int .i64 x0, .int .i64 x1, .int .i64 x2, .int .i64 x3, .int .i64 x4, .int .i64 x5, .int .i64 x6, .int .i64 x7, .int .i64 x8, .slice xp0 xl0 xq0, .slice xp1 xl1 xq1, .slice xp2 xl2 xq2, .int .i64 x9, .int .i64 x10, .bool xb]) 16 rfl (by kernel_rfl) (fun _ _ _ h => h) (load_yield 38 (.tmp 5) rfl rfl (w5.heap.size) rfl (cs := [.int .i64 x0, .int .i64 x1, .int .i64 x2, .int .i64 x3, .int .i64 x4, .int .i64 x5, .int .i64 x6, .int .i64 x7, .int .i64 x8, .slice xp0 xl0 xq0, .slice xp1 xl1 xq1, .slice xp2 xl2 xq2, .int .i64 x9, .int .i64 x10, .bool xb]) (fun w' h => h.1) Tryz.underlying38 size_W rfl) (by assumption) ?_
    try simp only [List.getElem_toArray, List.getElem_cons_succ, List.getElem_cons_zero, Act.put, List.setIfInBounds_toArray, List.set_cons_zero, List.set_cons_succ]
    refine wpAnyL_take (i := 1) (oi := _) (v := .agg #[.int .i64 v0, .int .i64 v1, .int .i64 v2, .int .i64 v3, .int .i64 v4, .int .i64 v5, .int .i64 v6, .int .i64 v7, .int .i64 v8, .slice vp0 vl0 vq0, .slice vp1 vl1 vq1, .slice vp2 vl2 vq2, .int .i64 v9, .int .i64 v10, .bool vb]) 16 rfl (by kernel_rfl) (fun _ _ _ h => h) (load_yield 28 (.tmp 1) rfl rfl (w.heap.size) rfl (cs := [.int .i64 v0, .int .i64 v1, .int .i64 v2, .int .i64 v3, .int .i64 v4, .int .i64 v5, .int .i64 v6, .int .i64 v7, .int .i64 v8, .slice vp0 vl0 vq0, .slice vp1 vl1 vq1, .slice vp2 vl2 vq2, .int .i64 v9, .int .i64 v10, .bool vb]) (fun w' h => h.2) Tryz.underlying28 size_LW rfl) (by assumption) ?_
    try simp only [List.getElem_toArray, List.getElem_cons_succ, List.getElem_cons_zero, Act.put, List.setIfInBounds_toArray, List.set_cons_zero, List.set_cons_succ]
    refine wpAnyL_one (i := 2) (o := _) rfl (by kernel_rfl) (fun KC hKC => ?_)
    refine step_call rfl 8 _ _ rfl #[.agg #[.int .i64 v0, .int .i64 v1, .int .i64 v2, .int .i64 v3, .int .i64 v4, .int .i64 v5, .int .i64 v6, .int .i64 v7, .int .i64 v8, .slice vp0 vl0 vq0, .slice vp1 vl1 vq1, .slice vp2 vl2 vq2, .int .i64 v9, .int .i64 v10, .bool vb]] ?_ Tryz.func8 (by kernel_rfl) (by kernel_rfl) (CTc _ B0) ?_
    · simp [Act.eval, Act.put]
    rintro ee wb ⟨cs', rfl, oR, bb⟩
    have bR : Below w9.heap.size w9 wb := B0.trans (bb.mono B0.size)
    refine ⟨_, rfl, ?_⟩
    refine hKC.out _ _ (KS _ bR) (fun hHeld => ?_)
    clear hKC KC
    try simp only [List.getElem_toArray, List.getElem_cons_succ, List.getElem_cons_zero, Act.put, List.setIfInBounds_toArray, List.set_cons_zero, List.set_cons_succ]
    refine wpAnyL_one (i := 3) (o := _) rfl (by kernel_rfl) (fun KC hKC => ?_)
    refine step_call rfl 11 _ _ rfl #[.agg #[.int .i64 x0, .int .i64 x1, .int .i64 x2, .int .i64 x3, .int .i64 x4, .int .i64 x5, .int .i64 x6, .int .i64 x7, .int .i64 x8, .slice xp0 xl0 xq0, .slice xp1 xl1 xq1, .slice xp2 xl2 xq2, .int .i64 x9, .int .i64 x10, .bool xb], .agg cs'.toArray] ?_ Tryz.func11 (by kernel_rfl) (by kernel_rfl) (CW _ _ _ _ _ ((OX9.out).call bR).rd oR.rd (Nat.le_trans (by omega) bR.size) (Nat.le_refl _)) ?_
    · simp [Act.eval, Act.put]
    rintro ee wc' ⟨rfl, bc⟩
    have bC : Below w9.heap.size w9 wc' := bR.trans (bc.mono bR.size)
    refine ⟨_, rfl, ?_⟩
    refine hKC.out _ _ (KS _ bC) (fun hHeld => ?_)
    clear hKC KC
    try simp only [List.getElem_toArray, List.getElem_cons_succ, List.getElem_cons_zero, Act.put, List.setIfInBounds_toArray, List.set_cons_zero, List.set_cons_succ]
    refine wpAnyL_last (o := _) rfl (by kernel_rfl) (fun KC hKC => ?_)
    go_simp
    refine hKC.out _ _ ?_
    clear hKC KC
    try simp only [List.getElem_toArray, List.getElem_cons_succ, List.getElem_cons_zero, Act.put, List.setIfInBounds_toArray, List.set_cons_zero, List.set_cons_succ]
    refine wpAnyL_done (by kernel_rfl) ?_ _
    go_wp2
    go_meet
    exact ⟨rfl, bC⟩
  case rest =>
  obtain ⟨rfl, b10⟩ := hcut
  have HB : Hid (Below w.heap.size w wc) := (P9.out.call b10).bel
  clear b10 CTc
  go_wp2
  go_ret
  exact ⟨rfl, HB.out⟩

set_option maxRecDepth 100000 in
theorem fnExactNextSeq_lifted (os : Os) (started : os.Started) (H : Type) (enc : TypeId × Value → H) :
    ReturnsInHanded {} Tryz.checked os 4 .any (Rows.fnExactNextSeqSpec.pre6 enc Tryz.prog Tryz.f4 Rows.fnExactNextSeqRow.domain false) (Rows.fnExactNextSeqSpec.post enc Tryz.prog Tryz.f4 false true false false) := by
  refine returnsInHanded_of_change (C := Tryz.checked) frame_own started (by kernel_rfl) Tryz.func4
    (ChangeSpec.witness6 (enc := enc) (C := Tryz.checked) false ⟨#[], #[.agg #[.int .i64 0, .int .i64 0, .int .i64 0, .int .i64 0, .int .i64 0, .int .i64 0, .int .i64 0, .int .i64 0, .int .i64 0, .slice none 0 0, .slice none 0 0, .slice none 0 0, .int .i64 0, .int .i64 0, .bool false]], []⟩ 8 (by kernel_rfl) (by kernel_rfl) (by kernel_rfl) (by kernel_rfl)) ?_
  intro W base args ds gs before hval0 hW hcnd _
  have hval : ∀ (j : Nat) t v, Tryz.f4.params[j]? = some t → args[j]? = some v → Value.okWide Tryz.prog W .any base t v := hval0
  have hW' := hW
  obtain ⟨p, q, hA0, hV, rfl, hfz, hnd⟩ := hW
  have hA : DataW.TrodAll enc Tryz.prog W 0 (fun _ => true) true Tryz.f4.params.toList args.toList ds p := hA0
  rw [Tryz.params4] at hA hval
  obtain ⟨v0, vs0, d0, ds0, p0, q0, hargs, rfl, rfl, h0, r0⟩ := trodAll_cons hA
  obtain ⟨rfl, rfl, rfl⟩ := trodAll_nil r0
  obtain rfl : args = #[v0] := by cases args; simp_all
  obtain ⟨rfl, rfl⟩ := trodVars_none hV
  have k0 := h0
  have lt0 : ∀ x ∈ p0, x.block < W.heap.size := by obtain ⟨m, hm⟩ := k0; exact DataW.trod_lt m _ _ _ hm
  obtain ⟨cs0, a0, rfl, rd0⟩ := struct_of_trod opensWorld Tryz.underlying28 (hval 0 28 v0 rfl rfl) h0
  clear hA0 hval0
  refine (fnExactNextSeq_walk a0 cs0 W rd0).mono fun e W' ⟨he, bel⟩ => ?_
  subst he
  exact ⟨_, rfl, _, _, _, [], _, [], hW', trodAll_mk1 (shut_bool Tryz.underlying4 _), (trodAll_cons_mk (Below.trod frame_laid (by kernel_rfl) (of_decide_eq_true (by kernel_rfl)) k0 bel lt0) trodAll_mk0), rfl, bel.frame _, fun h => by cases h⟩

end Go.Proofs.YtcdnhhdknkhnkaaGreat
