/- The change that writes a block; its raw write. -/
import Derived.Test.YtfafbojaeedhfaaGreatZhQ
import Derived.Test.YtfafbojaeedhfaaGreatZgJ
import Derived.Deep.DeepCutAuto
import Derived.BigQuiet
import Derived.Deep.QuietTactic
namespace Go.Proofs.YtfafbojaeedhfaaGreat
open Go.RowKit F256
set_option linter.unusedVariables false
set_option linter.unusedSimpArgs false
def writtenD (x : DriveD) (R : Nat) (b : BlockD) : DriveD := { x with blocks := (x.blocks.1, upd x.blocks.2 R b) }
def writeW (d : WorldD) (G k R : Nat) (b : BlockD) : WorldD := { d with groups := (d.groups.1, upd d.groups.2 G ((d.groups.2 G).1, upd (d.groups.2 G).2 k (writtenD ((d.groups.2 G).2 k) R b))) }
theorem Block_cellsT {w : World} {lo hi : Nat} {b : BlockD} {cs : List Value} (h : OwnT layBlock w lo hi b cs) : ∃ s1 m1, cs = [.int .i64 b.stamp, .slice s1 b.bytes.1 m1] := by
  obtain ⟨M, h1, _⟩ := h
  obtain ⟨a, c, K1, rfl, _⟩ := Block_own h1
  exact ⟨a, c, rfl⟩
/-- a drive whose block R is turned, told in the drives' list -/
theorem drive_written {w w' : World} {x : DriveD} {cs : List Value} {gb cap9 R : Nat} {b : BlockD} {K K' : List Nat} (hc : cs = [.bool x.wiped, .slice (some ⟨gb, 0, none⟩) x.blocks.1 cap9]) (ht : Turn (layBlock.slice 39) w K w' (x.blocks.1, upd x.blocks.2 R b) [.slice (some ⟨gb, 0, none⟩) x.blocks.1 cap9] K') : Turn layDrive w K w' (writtenD x R b) cs K' := by
  subst hc
  exact ⟨Drive_mk (writtenD x R b) ht.own, ht.nd, ht.sub, ht.chg⟩
set_option maxHeartbeats 16000000 in
set_option maxRecDepth 20000 in
theorem writeChange (E : Nat) (d : WorldD) (cs : List Value) (K : List Nat) (q0 q1 q2 q3 G k R : Nat) (b : BlockD) (o1 : Option Addr) (k1 hi : Nat) (hG : G < d.groups.1) (hk : k < (d.groups.2 G).1) (hR : R < ((d.groups.2 G).2 k).blocks.1) (w : World) (hX : Box w E (([.int .i32 1, .int .u32 0, .int .u32 0, .int .i32 0, .int .u32 0] : List Value) ++ cs).toArray 166) (hO : EncO w E d cs K) (h0 : Box w q0 #[.int .i64 b.stamp, .slice o1 b.bytes.1 k1] 39) (h1 : w.cell? ⟨q1, 0, none⟩ = some (.int .i64 (G : Int))) (h2 : w.cell? ⟨q2, 0, none⟩ = some (.int .i64 (k : Int))) (h3 : w.cell? ⟨q3, 0, none⟩ = some (.int .i64 (R : Int))) (hr : layBlock.rd w hi b [.int .i64 b.stamp, .slice o1 b.bytes.1 k1]) (hhi : hi ≤ w.heap.size) (hsz : szBlockD b ≤ 1048576) (l1 : q1 < w.heap.size) (l2 : q2 < w.heap.size) (l3 : q3 < w.heap.size) :
    Calls Tryz.prog 155 #[.pointer (some ⟨E, 5, none⟩), .pointer (some ⟨q0, 0, none⟩), .pointer (some ⟨q1, 0, none⟩), .pointer (some ⟨q2, 0, none⟩), .pointer (some ⟨q3, 0, none⟩)] w fun e w' => e = .returned (.tuple #[]) ∧ ∃ cs' K', Box w' E (([.int .i32 1, .int .u32 0, .int .u32 0, .int .i32 0, .int .u32 0] : List Value) ++ cs').toArray 166 ∧ EncO w' E (writeW d G k R b) cs' K' ∧ (∀ b, b ∈ K' → b ∈ K ∨ w.heap.size ≤ b) ∧ ChgL (E :: K) w w' := by
  have O0 : EncO w.drew E d cs K := hO.chg (ChgL.refl [E] _).drew
  obtain ⟨p1, c1, p2, c2, p3, c3, K1, K2, K3, rfl, rfl, WO⟩ := O0.open
  obtain ⟨g1, cc1, gg, cap, ce, Ls, e1, c0, S2, nd2, in2, in1, ng1, back⟩ := WO.drives2 (Nat.le_refl _) (Nat.zero_le _) hG (by omega)
  simp only [Value.slice.injEq, true_and] at e1
  obtain ⟨rfl, rfl⟩ := e1
  obtain ⟨ao9, cap9, K9, e9, eK9, o9⟩ := Drive_own (S2.each k hk)
  have nd9 : K9.Nodup := by rw [← eK9]; exact catN_each (List.nodup_cons.1 nd2).2 hk
  obtain ⟨gb, cp9, cb, Lb, eb, eLb, SB⟩ := slice_form o9 (by omega)
  simp only [List.cons.injEq, Value.slice.injEq, and_true, true_and] at eb
  obtain ⟨rfl, rfl⟩ := eb
  subst eLb
  have xg : w.cell? ⟨E, 14, none⟩ = some (.slice (some ⟨g1, 0, none⟩) d.groups.1 c1) := hX.cell 14
  have yk : w.drew.cell? ⟨gg, k * 2 + 1, none⟩ = some (.slice (some ⟨gb, 0, none⟩) ((d.groups.2 G).2 k).blocks.1 cap9) := (S2.cell hk (j := 1) (by decide)).trans (by rw [e9]; rfl)
  obtain ⟨a0, ca0, -, eR, -⟩ := Block_own (SB.each R hR)
  obtain ⟨u0, hu0⟩ : ∃ u, u = Value.int .i64 (((d.groups.2 G).2 k).blocks.2 R).stamp := ⟨_, rfl⟩
  obtain ⟨u1, hu1⟩ : ∃ u, u = Value.slice a0 (((d.groups.2 G).2 k).blocks.2 R).bytes.1 ca0 := ⟨_, rfl⟩
  have y0 : w.drew.cell? ⟨gb, R * 2, none⟩ = some u0 := (SB.cell hR (j := 0) (by decide)).trans (by rw [eR, hu0]; rfl)
  have y1 : w.drew.cell? ⟨gb, R * 2 + 1, none⟩ = some u1 := (SB.cell hR (j := 1) (by decide)).trans (by rw [eR, hu1]; rfl)
  clear hu0 hu1 eR
  have hEl := hX.lt
  have hql := h0.lt
  have hg1l : g1 < w.heap.size := (WO.inn g1 (List.mem_append_left _ in1)).2
  have hggl : gg < w.heap.size := S2.lt
  have KS : ∀ w', Below w.drew.heap.size w.drew w' → (w'.cell? ⟨E, 14, none⟩ = some (.slice (some ⟨g1, 0, none⟩) d.groups.1 c1) ∧ w'.cell? ⟨g1, G, none⟩ = some (.slice (some ⟨gg, 0, none⟩) (d.groups.2 G).1 cap) ∧ w'.cell? ⟨gg, k * 2 + 1, none⟩ = some (.slice (some ⟨gb, 0, none⟩) ((d.groups.2 G).2 k).blocks.1 cap9) ∧ w'.cell? ⟨q1, 0, none⟩ = some (.int .i64 (G : Int)) ∧ w'.cell? ⟨q2, 0, none⟩ = some (.int .i64 (k : Int)) ∧ w'.cell? ⟨q3, 0, none⟩ = some (.int .i64 (R : Int)) ∧ w'.cell? ⟨q0, 0, none⟩ = some (.int .i64 b.stamp) ∧ w'.cell? ⟨q0, 1, none⟩ = some (.slice o1 b.bytes.1 k1)) := fun w' hb => ⟨(hb.cell (p := ⟨E, 14, none⟩) hEl).trans xg, (hb.cell (p := ⟨g1, G, none⟩) hg1l).trans c0, (hb.cell (p := ⟨gg, k * 2 + 1, none⟩) hggl).trans yk, (hb.cell (p := ⟨q1, 0, none⟩) l1).trans h1, (hb.cell (p := ⟨q2, 0, none⟩) l2).trans h2, (hb.cell (p := ⟨q3, 0, none⟩) l3).trans h3, (hb.cell (p := ⟨q0, 0, none⟩) hql).trans (h0.cell 0), (hb.cell (p := ⟨q0, 1, none⟩) hql).trans (h0.cell 1)⟩
  have CC := (copyBlock_is [.int .i64 b.stamp, .slice o1 b.bytes.1 k1] b hi w.drew (layBlock.rd_below (B := w.heap.size) hr ⟨rfl, rfl, rfl, Nat.le_refl _, fun _ _ => rfl⟩ hhi) hhi hsz).mono (R' := fun e w' => ∃ s1 m1, e = .returned (.agg #[.int .i64 b.stamp, .slice s1 b.bytes.1 m1]) ∧ OwnT layBlock w' w.drew.heap.size w'.heap.size b [.int .i64 b.stamp, .slice s1 b.bytes.1 m1] ∧ Below w.drew.heap.size w.drew w') (fun e w' ⟨cs', he, o5, b5⟩ => by
    obtain ⟨s1, m1, rfl⟩ := Block_cellsT o5
    exact ⟨s1, m1, he, o5, b5⟩)
  have i1 : (0 : Int) ≤ (G : Int) := by omega
  have i2 : (G : Int) < (d.groups.1 : Int) := by omega
  have i3 : (0 : Int) ≤ (k : Int) := by omega
  have i4 : (k : Int) < ((d.groups.2 G).1 : Int) := by omega
  have i5 : (0 : Int) ≤ (R : Int) := by omega
  have i6 : (R : Int) < (((d.groups.2 G).2 k).blocks.1 : Int) := by omega
  have HX : Hid (Box w.drew E #[.int .i32 1, .int .u32 0, .int .u32 0, .int .i32 0, .int .u32 0, .int .i64 (d.shape 0), .int .i64 (d.shape 1), .int .i64 (d.shape 2), .int .i64 (d.shape 3), .int .i64 (d.shape 4), .int .i64 (d.shape 5), .int .i64 (d.shape 6), .int .i64 (d.shape 7), .int .i64 (d.shape 8), .slice (some ⟨g1, 0, none⟩) d.groups.1 c1, .slice p2 d.on.1 c2, .slice p3 d.tapes.1 c3, .int .i64 d.writes, .int .i64 d.stop, .bool d.down] 166) := hX
  have HNE : Hid (E ∉ K1 ++ (K2 ++ K3)) := hO.ne
  clear hX hO O0 h0
  go_enter Tryz.func155, Tryz.ntmps155
  go_upto_region 0 with fail
  refine wp_region_L 15 (fun w' => w'.cell? ⟨E, 14, none⟩ = some (.slice (some ⟨g1, 0, none⟩) d.groups.1 c1) ∧ w'.cell? ⟨g1, G, none⟩ = some (.slice (some ⟨gg, 0, none⟩) (d.groups.2 G).1 cap) ∧ w'.cell? ⟨gg, k * 2 + 1, none⟩ = some (.slice (some ⟨gb, 0, none⟩) ((d.groups.2 G).2 k).blocks.1 cap9) ∧ w'.cell? ⟨q1, 0, none⟩ = some (.int .i64 (G : Int)) ∧ w'.cell? ⟨q2, 0, none⟩ = some (.int .i64 (k : Int)) ∧ w'.cell? ⟨q3, 0, none⟩ = some (.int .i64 (R : Int)) ∧ w'.cell? ⟨q0, 0, none⟩ = some (.int .i64 b.stamp) ∧ w'.cell? ⟨q0, 1, none⟩ = some (.slice o1 b.bytes.1 k1)) (by kernel_rfl) (KS _ (Below.refl _ _)) (fun hHeld => ?_)
  refine wpAnyL_take (i := 0) (oi := _) (v := ?_) 16 rfl (by kernel_rfl) (fun _ _ _ h => h) (Or.inl ⟨by rfl, ?_⟩) (by assumption) ?_
  rotate_left
  · intro w' hSw
    try dsimp only at hSw
    obtain ⟨hq0, hq1, hq2, hq3, hq4, hq5, hq6, hq7⟩ := hSw
    go_simp
    try with_reducible rfl
  try simp only [Act.put, List.setIfInBounds_toArray, List.set_cons_zero, List.set_cons_succ]
  refine wpAnyL_take (i := 1) (oi := _) (v := ?_) 16 rfl (by kernel_rfl) (fun _ _ _ h => h) (Or.inl ⟨by rfl, ?_⟩) (by assumption) ?_
  rotate_left
  · intro w' hSw
    try dsimp only at hSw
    obtain ⟨hq0, hq1, hq2, hq3, hq4, hq5, hq6, hq7⟩ := hSw
    go_simp
    try with_reducible rfl
  try simp only [Act.put, List.setIfInBounds_toArray, List.set_cons_zero, List.set_cons_succ]
  refine wpAnyL_take (i := 2) (oi := _) (v := ?_) 16 rfl (by kernel_rfl) (fun _ _ _ h => h) (Or.inl ⟨by rfl, ?_⟩) (by assumption) ?_
  rotate_left
  · intro w' hSw
    try dsimp only at hSw
    obtain ⟨hq0, hq1, hq2, hq3, hq4, hq5, hq6, hq7⟩ := hSw
    go_simp
    try with_reducible rfl
  try simp only [Act.put, List.setIfInBounds_toArray, List.set_cons_zero, List.set_cons_succ]
  refine wpAnyL_take (i := 3) (oi := _) (v := ?_) 16 rfl (by kernel_rfl) (fun _ _ _ h => h) (Or.inl ⟨by rfl, ?_⟩) (by assumption) ?_
  rotate_left
  · intro w' hSw
    try dsimp only at hSw
    obtain ⟨hq0, hq1, hq2, hq3, hq4, hq5, hq6, hq7⟩ := hSw
    go_simp
    try with_reducible rfl
  try simp only [Act.put, List.setIfInBounds_toArray, List.set_cons_zero, List.set_cons_succ]
  refine wpAnyL_take (i := 4) (oi := _) (v := ?_) 16 rfl (by kernel_rfl) (fun _ _ _ h => h) (Or.inl ⟨by rfl, ?_⟩) (by assumption) ?_
  rotate_left
  · intro w' hSw
    try dsimp only at hSw
    obtain ⟨hq0, hq1, hq2, hq3, hq4, hq5, hq6, hq7⟩ := hSw
    go_simp
    try with_reducible rfl
  try simp only [Act.put, List.setIfInBounds_toArray, List.set_cons_zero, List.set_cons_succ]
  refine wpAnyL_take (i := 5) (oi := _) (v := ?_) 16 rfl (by kernel_rfl) (fun _ _ _ h => h) (Or.inl ⟨by rfl, ?_⟩) (by assumption) ?_
  rotate_left
  · intro w' hSw
    try dsimp only at hSw
    obtain ⟨hq0, hq1, hq2, hq3, hq4, hq5, hq6, hq7⟩ := hSw
    go_simp
    try with_reducible rfl
  try simp only [Act.put, List.setIfInBounds_toArray, List.set_cons_zero, List.set_cons_succ]
  refine wpAnyL_take (i := 6) (oi := _) (v := ?_) 16 rfl (by kernel_rfl) (fun _ _ _ h => h) (Or.inl ⟨by rfl, ?_⟩) (by assumption) ?_
  rotate_left
  · intro w' hSw
    try dsimp only at hSw
    obtain ⟨hq0, hq1, hq2, hq3, hq4, hq5, hq6, hq7⟩ := hSw
    go_simp
    try with_reducible rfl
  try simp only [Act.put, List.setIfInBounds_toArray, List.set_cons_zero, List.set_cons_succ]
  refine wpAnyL_take (i := 7) (oi := _) (v := ?_) 16 rfl (by kernel_rfl) (fun _ _ _ h => h) (Or.inl ⟨by rfl, ?_⟩) (by assumption) ?_
  rotate_left
  · intro w' hSw
    try dsimp only at hSw
    obtain ⟨hq0, hq1, hq2, hq3, hq4, hq5, hq6, hq7⟩ := hSw
    go_simp
    try with_reducible rfl
  try simp only [Act.put, List.setIfInBounds_toArray, List.set_cons_zero, List.set_cons_succ]
  refine wpAnyL_take (i := 8) (oi := _) (v := ?_) 16 rfl (by kernel_rfl) (fun _ _ _ h => h) (Or.inl ⟨by rfl, ?_⟩) (by assumption) ?_
  rotate_left
  · intro w' hSw
    try dsimp only at hSw
    obtain ⟨hq0, hq1, hq2, hq3, hq4, hq5, hq6, hq7⟩ := hSw
    go_simp
    try with_reducible rfl
  try simp only [Act.put, List.setIfInBounds_toArray, List.set_cons_zero, List.set_cons_succ]
  refine wpAnyL_take (i := 9) (oi := _) (v := ?_) 16 rfl (by kernel_rfl) (fun _ _ _ h => h) (Or.inl ⟨by rfl, ?_⟩) (by assumption) ?_
  rotate_left
  · intro w' hSw
    try dsimp only at hSw
    obtain ⟨hq0, hq1, hq2, hq3, hq4, hq5, hq6, hq7⟩ := hSw
    go_simp
    try with_reducible rfl
  try simp only [Act.put, List.setIfInBounds_toArray, List.set_cons_zero, List.set_cons_succ]
  refine wpAnyL_take (i := 10) (oi := _) (v := ?_) 16 rfl (by kernel_rfl) (fun _ _ _ h => h) (Or.inl ⟨by rfl, ?_⟩) (by assumption) ?_
  rotate_left
  · intro w' hSw
    try dsimp only at hSw
    obtain ⟨hq0, hq1, hq2, hq3, hq4, hq5, hq6, hq7⟩ := hSw
    go_simp
    try with_reducible rfl
  try simp only [Act.put, List.setIfInBounds_toArray, List.set_cons_zero, List.set_cons_succ]
  refine wpAnyL_take (i := 11) (oi := _) (v := ?_) 16 rfl (by kernel_rfl) (fun _ _ _ h => h) (Or.inl ⟨by rfl, ?_⟩) (by assumption) ?_
  rotate_left
  · intro w' hSw
    try dsimp only at hSw
    obtain ⟨hq0, hq1, hq2, hq3, hq4, hq5, hq6, hq7⟩ := hSw
    go_simp
    try with_reducible rfl
  try simp only [Act.put, List.setIfInBounds_toArray, List.set_cons_zero, List.set_cons_succ]
  refine wpAnyL_take (i := 12) (oi := _) (v := ?_) 16 rfl (by kernel_rfl) (fun _ _ _ h => h) (Or.inl ⟨by rfl, ?_⟩) (by assumption) ?_
  rotate_left
  · intro w' hSw
    try dsimp only at hSw
    obtain ⟨hq0, hq1, hq2, hq3, hq4, hq5, hq6, hq7⟩ := hSw
    go_simp
    try with_reducible rfl
  try simp only [Act.put, List.setIfInBounds_toArray, List.set_cons_zero, List.set_cons_succ]
  refine wpAnyL_one (i := 13) (o := _) rfl (by kernel_rfl) (fun KC hKC => ?_)
  refine step_call rfl 85 _ _ rfl #[.agg #[.int .i64 b.stamp, .slice o1 b.bytes.1 k1]] ?_ Tryz.func85 (by kernel_rfl) (by kernel_rfl) CC ?_; (simp [Act.eval, Act.put]); rintro ee w5 ⟨s1, m1, rfl, o5, b5⟩; have k5 := KS w5 b5; have f0 : w5.frozen? ⟨gb, R * 2, none⟩ = false := (World.frozen?_of_block (a := ⟨gb, R * 2, none⟩) (b5.block gb SB.lt)).trans (SB.frozen _); have f1 : w5.frozen? ⟨gb, R * 2 + 1, none⟩ = false := (World.frozen?_of_block (a := ⟨gb, R * 2 + 1, none⟩) (b5.block gb SB.lt)).trans (SB.frozen _); have t0 : w5.cell? ⟨gb, R * 2, none⟩ = some u0 := (World.cell?_of_block (a := ⟨gb, R * 2, none⟩) (b5.block gb SB.lt)).trans y0; have t1 : w5.cell? ⟨gb, R * 2 + 1, none⟩ = some u1 := (World.cell?_of_block (a := ⟨gb, R * 2 + 1, none⟩) (b5.block gb SB.lt)).trans y1; refine ⟨_, rfl, ?_⟩
  refine hKC.out _ _ (k5) (fun hHeld => ?_)
  clear hKC KC
  try simp only [Act.put, List.setIfInBounds_toArray, List.set_cons_zero, List.set_cons_succ]
  refine wpAnyL_take (i := 14) (oi := _) (v := ?_) 16 rfl (by kernel_rfl) (fun _ _ _ h => h) (Or.inl ⟨by rfl, ?_⟩) (by assumption) ?_
  rotate_left
  · intro w' hSw
    try dsimp only at hSw
    obtain ⟨hq0, hq1, hq2, hq3, hq4, hq5, hq6, hq7⟩ := hSw
    go_simp
    try with_reducible rfl
  try simp only [Act.put, List.setIfInBounds_toArray, List.set_cons_zero, List.set_cons_succ]
  refine wpAnyL_last (o := _) rfl (by kernel_rfl) (fun KC hKC => ?_)
  go_simp
  refine hKC.out _ _ ?_
  clear hKC KC
  try simp only [Act.put, List.setIfInBounds_toArray, List.set_cons_zero, List.set_cons_succ]
  refine wpAnyL_done (by kernel_rfl) ?_ _
  obtain ⟨La, TB⟩ := Turn.fresh (K := Lb R) o5 (Nat.le_refl _) (ChgL.of_below b5)
  have T6 := SB.turn_at nd9 hR TB (w' := (stN w5 gb (R * layBlock.sz) [.int .i64 b.stamp, .slice s1 b.bytes.1 m1])) rfl
  have T7 := drive_written e9 T6
  rw [← eK9] at T7
  have T8 := S2.turn_in nd2 hk T7
  obtain ⟨K1', WO7, sb7, ch7⟩ := back _ _ _ T8
  have hE1 : E ∉ K1 := fun h => HNE.out (List.mem_append_left _ h)
  have X7 := HX.out.chgl ch7 hE1
  have hE7 : E ∉ K1' ++ (K2 ++ K3) := fun h => by
    rcases List.mem_append.1 h with h | h
    · rcases sb7 E h with h | h
      · exact hE1 h
      · have : w.drew.heap.size = w.heap.size := rfl
        omega
    · exact HNE.out (List.mem_append_right _ h)
  have HX7 : Hid (Box (stN w5 gb (R * layBlock.sz) [.int .i64 b.stamp, .slice s1 b.bytes.1 m1]) E #[.int .i32 1, .int .u32 0, .int .u32 0, .int .i32 0, .int .u32 0, .int .i64 (d.shape 0), .int .i64 (d.shape 1), .int .i64 (d.shape 2), .int .i64 (d.shape 3), .int .i64 (d.shape 4), .int .i64 (d.shape 5), .int .i64 (d.shape 6), .int .i64 (d.shape 7), .int .i64 (d.shape 8), .slice (some ⟨g1, 0, none⟩) d.groups.1 c1, .slice p2 d.on.1 c2, .slice p3 d.tapes.1 c3, .int .i64 d.writes, .int .i64 d.stop, .bool d.down] 166) := X7
  have HO7 : Hid (EncO (stN w5 gb (R * layBlock.sz) [.int .i64 b.stamp, .slice s1 b.bytes.1 m1]) E (writeW d G k R b) [.int .i64 (d.shape 0), .int .i64 (d.shape 1), .int .i64 (d.shape 2), .int .i64 (d.shape 3), .int .i64 (d.shape 4), .int .i64 (d.shape 5), .int .i64 (d.shape 6), .int .i64 (d.shape 7), .int .i64 (d.shape 8), .slice (some ⟨g1, 0, none⟩) d.groups.1 c1, .slice p2 d.on.1 c2, .slice p3 d.tapes.1 c3, .int .i64 d.writes, .int .i64 d.stop, .bool d.down] (K1' ++ (K2 ++ (K3 ++ [])))) := WO7.encO hE7
  have HS : Hid (∀ b, b ∈ K1' ++ (K2 ++ (K3 ++ [])) → b ∈ K1 ++ (K2 ++ K3) ∨ w.heap.size ≤ b) := fun b hb => by
    simp only [List.append_nil] at hb
    rcases List.mem_append.1 hb with h | h
    · exact (sb7 b h).imp (fun h => List.mem_append_left _ h) id
    · exact .inl (List.mem_append_right _ h)
  have HC7 : Hid (ChgL (E :: (K1 ++ (K2 ++ K3))) w (stN w5 gb (R * layBlock.sz) [.int .i64 b.stamp, .slice s1 b.bytes.1 m1])) := ((ChgL.refl _ w).drew).trans (ch7.mono (fun b hb => List.mem_cons_of_mem _ (List.mem_append_left _ hb)))
  clear X7 WO7 T8 T7 T6 TB WO S2 SB CC KS sb7 ch7 hE7 back k5 o5 b5 o9 nd9
  go_wp2
  go_end0
  exact ⟨rfl, _, _, HX7.out, HO7.out, HS.out, HC7.out⟩
set_option maxRecDepth 100000 in
set_option maxHeartbeats 8000000 in
theorem rawWrite_write (E : Nat) (v0 v1 v2 v3 v4 v5 v6 v7 v8 vp0 vl0 vq0 vp1 vl1 vq1 vp2 vl2 vq2 v9 v10 vb : _) (d d' : WorldD) (K : List Nat) (q0 q1 q2 q3 : Nat) (w : World) (hX : Box w E #[.int .i32 0, .int .u32 0, .int .u32 0, .int .i32 0, .int .u32 0, .int .i64 v0, .int .i64 v1, .int .i64 v2, .int .i64 v3, .int .i64 v4, .int .i64 v5, .int .i64 v6, .int .i64 v7, .int .i64 v8, .slice vp0 vl0 vq0, .slice vp1 vl1 vq1, .slice vp2 vl2 vq2, .int .i64 v9, .int .i64 v10, .bool vb] 166) (hO : EncO w E d [.int .i64 v0, .int .i64 v1, .int .i64 v2, .int .i64 v3, .int .i64 v4, .int .i64 v5, .int .i64 v6, .int .i64 v7, .int .i64 v8, .slice vp0 vl0 vq0, .slice vp1 vl1 vq1, .slice vp2 vl2 vq2, .int .i64 v9, .int .i64 v10, .bool vb] K) (hpw : ¬ (v10 ≠ -1 ∧ v10 ≤ v9)) (hwr : -9223372036854775808 ≤ d'.writes ∧ d'.writes + 1 ≤ 9223372036854775807)
    (hch : ∀ W, Box W E #[.int .i32 1, .int .u32 0, .int .u32 0, .int .i32 0, .int .u32 0, .int .i64 v0, .int .i64 v1, .int .i64 v2, .int .i64 v3, .int .i64 v4, .int .i64 v5, .int .i64 v6, .int .i64 v7, .int .i64 v8, .slice vp0 vl0 vq0, .slice vp1 vl1 vq1, .slice vp2 vl2 vq2, .int .i64 v9, .int .i64 v10, .bool vb] 166 → EncO W E d [.int .i64 v0, .int .i64 v1, .int .i64 v2, .int .i64 v3, .int .i64 v4, .int .i64 v5, .int .i64 v6, .int .i64 v7, .int .i64 v8, .slice vp0 vl0 vq0, .slice vp1 vl1 vq1, .slice vp2 vl2 vq2, .int .i64 v9, .int .i64 v10, .bool vb] K → ChgL [E] w W → Calls Tryz.prog 155 #[.pointer (some ⟨E, 5, none⟩), .pointer (some ⟨q0, 0, none⟩), .pointer (some ⟨q1, 0, none⟩), .pointer (some ⟨q2, 0, none⟩), .pointer (some ⟨q3, 0, none⟩)] W fun e w' => e = .returned (.tuple #[]) ∧ ∃ cs' K', Box w' E ([.int .i32 1, .int .u32 0, .int .u32 0, .int .i32 0, .int .u32 0] ++ cs').toArray 166 ∧ EncO w' E d' cs' K' ∧ (∀ b, b ∈ K' → b ∈ K ∨ W.heap.size ≤ b) ∧ ChgL (E :: K) W w') :
    Calls Tryz.prog 154 #[.pointer (some ⟨E, 0, none⟩), .func (.func 155) #[] #[.pointer (some ⟨q0, 0, none⟩), .pointer (some ⟨q1, 0, none⟩), .pointer (some ⟨q2, 0, none⟩), .pointer (some ⟨q3, 0, none⟩)]] w fun e w' => e = .returned (.tuple #[]) ∧ ∃ cs' K', Box w' E ([.int .i32 0, .int .u32 0, .int .u32 0, .int .i32 0, .int .u32 0] ++ cs').toArray 166 ∧ EncO w' E { d' with writes := d'.writes + 1 } cs' K' ∧ (∀ b, b ∈ K' → b ∈ K ∨ w.heap.size ≤ b) ∧ ChgL (E :: K) w w' := by
  have HWR : Hid (-9223372036854775808 ≤ d'.writes ∧ d'.writes + 1 ≤ 9223372036854775807) := hwr
  have CH : Hid (∀ W, Box W E #[.int .i32 1, .int .u32 0, .int .u32 0, .int .i32 0, .int .u32 0, .int .i64 v0, .int .i64 v1, .int .i64 v2, .int .i64 v3, .int .i64 v4, .int .i64 v5, .int .i64 v6, .int .i64 v7, .int .i64 v8, .slice vp0 vl0 vq0, .slice vp1 vl1 vq1, .slice vp2 vl2 vq2, .int .i64 v9, .int .i64 v10, .bool vb] 166 → EncO W E d [.int .i64 v0, .int .i64 v1, .int .i64 v2, .int .i64 v3, .int .i64 v4, .int .i64 v5, .int .i64 v6, .int .i64 v7, .int .i64 v8, .slice vp0 vl0 vq0, .slice vp1 vl1 vq1, .slice vp2 vl2 vq2, .int .i64 v9, .int .i64 v10, .bool vb] K → ChgL [E] w W → Calls Tryz.prog 155 #[.pointer (some ⟨E, 5, none⟩), .pointer (some ⟨q0, 0, none⟩), .pointer (some ⟨q1, 0, none⟩), .pointer (some ⟨q2, 0, none⟩), .pointer (some ⟨q3, 0, none⟩)] W fun e w' => e = .returned (.tuple #[]) ∧ ∃ cs' K', Box w' E ([.int .i32 1, .int .u32 0, .int .u32 0, .int .i32 0, .int .u32 0] ++ cs').toArray 166 ∧ EncO w' E d' cs' K' ∧ (∀ b, b ∈ K' → b ∈ K ∨ W.heap.size ≤ b) ∧ ChgL (E :: K) W w') := hch
  have hO' : Hid (EncO w E d [.int .i64 v0, .int .i64 v1, .int .i64 v2, .int .i64 v3, .int .i64 v4, .int .i64 v5, .int .i64 v6, .int .i64 v7, .int .i64 v8, .slice vp0 vl0 vq0, .slice vp1 vl1 vq1, .slice vp2 vl2 vq2, .int .i64 v9, .int .i64 v10, .bool vb] K) := hO
  by_cases hs : v10 = -1
  · have d1 : (v10 != -1) = false := by simpa using hs
    clear hpw hwr hch hO hs
    have hE : E < w.heap.size := hX.lt
    have hmf : ∀ (fn : Fn) (first cap : Array Value) (w : World), (Instr.makeFunc fn first cap).run Tryz.prog w = .ok (.func fn first cap) w := fun _ _ _ _ => rfl
    have bA : Below w.heap.size w (w.alloc (.cells #[.pointer (some ⟨E, 0, none⟩)] 104)) := (Below.refl _ _).alloc (Nat.le_refl _) _
    have P1 : Box (w.alloc (.cells #[.pointer (some ⟨E, 0, none⟩)] 104)) w.heap.size #[.pointer (some ⟨E, 0, none⟩)] 104 := box_new _ _ _
    have X1 := hX.below bA hE
    go_enter_defers Tryz.func154, Tryz.ntmps154
    go_upto_region 1 with fail
    obtain ⟨W1, hW1⟩ : ∃ x, x = w.alloc (.cells #[.pointer (some ⟨E, 0, none⟩)] 104) := ⟨_, rfl⟩
    rw [← hW1] at bA P1 X1 ⊢
    have zW : W1.heap.size = w.heap.size + 1 := by rw [hW1]; simp
    clear hW1
    have hp1 : W1.cell? ⟨w.heap.size, 0, none⟩ = some (.pointer (some ⟨E, 0, none⟩)) := P1.cell 0
    have c0 : W1.cell? ⟨E, 0, none⟩ = some (.int .i32 0) := X1.cell 0
    have f0 : W1.frozen? ⟨E, 0, none⟩ = false := X1.frozen 0
    have X2 : Box (W1.setCell ⟨E, 0, none⟩ (.int .i32 1)) E #[.int .i32 1, .int .u32 0, .int .u32 0, .int .i32 0, .int .u32 0, .int .i64 v0, .int .i64 v1, .int .i64 v2, .int .i64 v3, .int .i64 v4, .int .i64 v5, .int .i64 v6, .int .i64 v7, .int .i64 v8, .slice vp0 vl0 vq0, .slice vp1 vl1 vq1, .slice vp2 vl2 vq2, .int .i64 v9, .int .i64 v10, .bool vb] 166 := X1.setc 0 _
    have P2 : Box (W1.setCell ⟨E, 0, none⟩ (.int .i32 1)) w.heap.size #[.pointer (some ⟨E, 0, none⟩)] 104 := P1.seto 0 _ (by omega)
    have C2' : ChgL [E] w (W1.setCell ⟨E, 0, none⟩ (.int .i32 1)) := (ChgL.of_below bA).st _ 0 _ (by simp)
    go_upto_region 2 with (go_at_call 198; refine (lock_one ⟨E, 0, none⟩ _ c0 f0).mono ?_; rintro e w' ⟨rfl, rfl⟩)
    obtain ⟨W2, hW2⟩ : ∃ x, x = W1.setCell ⟨E, 0, none⟩ (.int .i32 1) := ⟨_, rfl⟩
    rw [← hW2] at X2 P2 C2' ⊢
    have z2 : W2.heap.size = w.heap.size + 1 := by rw [hW2]; simpa using zW
    clear hW2 hp1 c0 f0 X1 P1 bA hX
    have hp2 : W2.cell? ⟨w.heap.size, 0, none⟩ = some (.pointer (some ⟨E, 0, none⟩)) := P2.cell 0
    have x17 : W2.cell? ⟨E, 17, none⟩ = some (.int .i64 v9) := X2.cell 17
    have x18 : W2.cell? ⟨E, 18, none⟩ = some (.int .i64 v10) := X2.cell 18
    go_upto_region 3 with fail
    go_quiet (fail)
    go_upto_region 6 with fail
    obtain ⟨W3, hW3⟩ : ∃ x, x = W2.drewN nq := ⟨_, rfl⟩
    rw [← hW3]
    have X3 : Box W3 E #[.int .i32 1, .int .u32 0, .int .u32 0, .int .i32 0, .int .u32 0, .int .i64 v0, .int .i64 v1, .int .i64 v2, .int .i64 v3, .int .i64 v4, .int .i64 v5, .int .i64 v6, .int .i64 v7, .int .i64 v8, .slice vp0 vl0 vq0, .slice vp1 vl1 vq1, .slice vp2 vl2 vq2, .int .i64 v9, .int .i64 v10, .bool vb] 166 := by rw [hW3]; exact X2
    have P3 : Box W3 w.heap.size #[.pointer (some ⟨E, 0, none⟩)] 104 := by rw [hW3]; exact P2
    have C3' : ChgL [E] w W3 := by rw [hW3]; exact ⟨C2'.os, C2'.tape, C2'.output, C2'.size, C2'.block⟩
    have z3 : W3.heap.size = w.heap.size + 1 := by rw [hW3]; exact z2
    have hp3 : W3.cell? ⟨w.heap.size, 0, none⟩ = some (.pointer (some ⟨E, 0, none⟩)) := P3.cell 0
    clear hW3 X2 P2 C2' z2 hp2 x17 x18
    have O3 := hO'.out.chg C3'
    have CC := (CH.out W3 X3 O3 C3').mono (R' := fun e w' => e = .returned (.tuple #[]) ∧ ∃ y0 y1 y2 y3 y4 y5 y6 y7 y8 yp0 yl0 yq0 yp1 yl1 yq1 yp2 yl2 yq2 y9 y10 yb K', Box w' E #[.int .i32 1, .int .u32 0, .int .u32 0, .int .i32 0, .int .u32 0, .int .i64 y0, .int .i64 y1, .int .i64 y2, .int .i64 y3, .int .i64 y4, .int .i64 y5, .int .i64 y6, .int .i64 y7, .int .i64 y8, .slice yp0 yl0 yq0, .slice yp1 yl1 yq1, .slice yp2 yl2 yq2, .int .i64 y9, .int .i64 y10, .bool yb] 166 ∧ EncO w' E d' [.int .i64 y0, .int .i64 y1, .int .i64 y2, .int .i64 y3, .int .i64 y4, .int .i64 y5, .int .i64 y6, .int .i64 y7, .int .i64 y8, .slice yp0 yl0 yq0, .slice yp1 yl1 yq1, .slice yp2 yl2 yq2, .int .i64 y9, .int .i64 y10, .bool yb] K' ∧ (∀ b, b ∈ K' → b ∈ K ∨ W3.heap.size ≤ b) ∧ ChgL (E :: K) W3 w') (fun e w' ⟨he, cs', K', hX', hO', hs', hC'⟩ => by
      obtain ⟨y0, y1, y2, y3, y4, y5, y6, y7, y8, yp0, yl0, yq0, yp1, yl1, yq1, yp2, yl2, yq2, y9, y10, yb, rfl⟩ := world15L hO'.own
      exact ⟨he, y0, y1, y2, y3, y4, y5, y6, y7, y8, yp0, yl0, yq0, yp1, yl1, yq1, yp2, yl2, yq2, y9, y10, yb, K', hX', hO', hs', hC'⟩)
    have hKl : ∀ b, b ∈ K → b < w.heap.size := fun b hb => layWorld.own_lt hO'.out.own b hb
    go_wp2_with (go_at_call 155; refine CC.mono ?_; rintro e w5 ⟨rfl, y0, y1, y2, y3, y4, y5, y6, y7, y8, yp0, yl0, yq0, yp1, yl1, yq1, yp2, yl2, yq2, y9, y10, yb, K5, X5, O5, s5, C5⟩; have P5 := P3.chgl C5 (by intro hm; rcases List.mem_cons.1 hm with h | h; omega; have := hKl _ h; omega); have hp5 : w5.cell? ⟨w.heap.size, 0, none⟩ = some (.pointer (some ⟨E, 0, none⟩)) := P5.cell 0; have x17 : w5.cell? ⟨E, 17, none⟩ = some (.int .i64 y9) := X5.cell 17; have f17 : w5.frozen? ⟨E, 17, none⟩ = false := X5.frozen 17; have HY9 : Hid (y9 = d'.writes) := writes_of O5.own; have zz : IntKind.i64.wrap (y9 + 1) = y9 + 1 := by rw [IntKind.wrap_i64]; have := HWR.out; have := HY9.out; omega)
    refine leaves_cons (f := 199) (args := #[.pointer (some ⟨E, 0, none⟩)]) (by simp) (by simp [go_sem]) ?_
    have X6 : Box (w5.setCell ⟨E, 17, none⟩ (.int .i64 (y9 + 1))) E #[.int .i32 1, .int .u32 0, .int .u32 0, .int .i32 0, .int .u32 0, .int .i64 y0, .int .i64 y1, .int .i64 y2, .int .i64 y3, .int .i64 y4, .int .i64 y5, .int .i64 y6, .int .i64 y7, .int .i64 y8, .slice yp0 yl0 yq0, .slice yp1 yl1 yq1, .slice yp2 yl2 yq2, .int .i64 (y9 + 1), .int .i64 y10, .bool yb] 166 := X5.setc 17 _
    refine (unlock_door ⟨E, 0, none⟩ _ _ (X6.cell 0) (X6.frozen 0)).mono ?_
    rintro e u' w'' ⟨rfl, rfl, rfl⟩
    have X7 : Box ((w5.setCell ⟨E, 17, none⟩ (.int .i64 (y9 + 1))).setCell ⟨E, 0, none⟩ (.int .i32 0)) E #[.int .i32 0, .int .u32 0, .int .u32 0, .int .i32 0, .int .u32 0, .int .i64 y0, .int .i64 y1, .int .i64 y2, .int .i64 y3, .int .i64 y4, .int .i64 y5, .int .i64 y6, .int .i64 y7, .int .i64 y8, .slice yp0 yl0 yq0, .slice yp1 yl1 yq1, .slice yp2 yl2 yq2, .int .i64 (y9 + 1), .int .i64 y10, .bool yb] 166 := X6.setc 0 _
    have C7 : ChgL [E] w5 ((w5.setCell ⟨E, 17, none⟩ (.int .i64 (y9 + 1))).setCell ⟨E, 0, none⟩ (.int .i32 0)) := ((ChgL.refl _ _).st _ 17 _ (by simp)).st _ 0 _ (by simp)
    have O7 : EncO w5 E { d' with writes := d'.writes + 1 } [.int .i64 y0, .int .i64 y1, .int .i64 y2, .int .i64 y3, .int .i64 y4, .int .i64 y5, .int .i64 y6, .int .i64 y7, .int .i64 y8, .slice yp0 yl0 yq0, .slice yp1 yl1 yq1, .slice yp2 yl2 yq2, .int .i64 (y9 + 1), .int .i64 y10, .bool yb] K5 := by
      rw [← HY9.out]
      exact ⟨own_writesK (y9 + 1) (by have := HWR.out; have := HY9.out; omega) O5.own, O5.nd, O5.ne⟩
    simp only [Leaves, settle]
    refine ⟨_, results_none rfl _ _ _, rfl, _, K5, X7, O7.chg C7, fun b hb => ?_, ?_⟩
    · rcases s5 b hb with h | h
      · exact .inl h
      · exact .inr (by omega)
    · exact (C3'.mono (fun b hb => by simp at hb; simp [hb])).trans (C5.trans (C7.mono (fun b hb => by simp at hb; simp [hb])))
  · have d1 : (v10 != -1) = true := by simpa using hs
    have d2 : decide (v10 ≤ v9) = false := by
      simp only [decide_eq_false_iff_not]
      exact fun h => hpw ⟨hs, h⟩
    clear hpw hwr hch hO hs
    have hE : E < w.heap.size := hX.lt
    have hmf : ∀ (fn : Fn) (first cap : Array Value) (w : World), (Instr.makeFunc fn first cap).run Tryz.prog w = .ok (.func fn first cap) w := fun _ _ _ _ => rfl
    have bA : Below w.heap.size w (w.alloc (.cells #[.pointer (some ⟨E, 0, none⟩)] 104)) := (Below.refl _ _).alloc (Nat.le_refl _) _
    have P1 : Box (w.alloc (.cells #[.pointer (some ⟨E, 0, none⟩)] 104)) w.heap.size #[.pointer (some ⟨E, 0, none⟩)] 104 := box_new _ _ _
    have X1 := hX.below bA hE
    go_enter_defers Tryz.func154, Tryz.ntmps154
    go_upto_region 1 with fail
    obtain ⟨W1, hW1⟩ : ∃ x, x = w.alloc (.cells #[.pointer (some ⟨E, 0, none⟩)] 104) := ⟨_, rfl⟩
    rw [← hW1] at bA P1 X1 ⊢
    have zW : W1.heap.size = w.heap.size + 1 := by rw [hW1]; simp
    clear hW1
    have hp1 : W1.cell? ⟨w.heap.size, 0, none⟩ = some (.pointer (some ⟨E, 0, none⟩)) := P1.cell 0
    have c0 : W1.cell? ⟨E, 0, none⟩ = some (.int .i32 0) := X1.cell 0
    have f0 : W1.frozen? ⟨E, 0, none⟩ = false := X1.frozen 0
    have X2 : Box (W1.setCell ⟨E, 0, none⟩ (.int .i32 1)) E #[.int .i32 1, .int .u32 0, .int .u32 0, .int .i32 0, .int .u32 0, .int .i64 v0, .int .i64 v1, .int .i64 v2, .int .i64 v3, .int .i64 v4, .int .i64 v5, .int .i64 v6, .int .i64 v7, .int .i64 v8, .slice vp0 vl0 vq0, .slice vp1 vl1 vq1, .slice vp2 vl2 vq2, .int .i64 v9, .int .i64 v10, .bool vb] 166 := X1.setc 0 _
    have P2 : Box (W1.setCell ⟨E, 0, none⟩ (.int .i32 1)) w.heap.size #[.pointer (some ⟨E, 0, none⟩)] 104 := P1.seto 0 _ (by omega)
    have C2' : ChgL [E] w (W1.setCell ⟨E, 0, none⟩ (.int .i32 1)) := (ChgL.of_below bA).st _ 0 _ (by simp)
    go_upto_region 2 with (go_at_call 198; refine (lock_one ⟨E, 0, none⟩ _ c0 f0).mono ?_; rintro e w' ⟨rfl, rfl⟩)
    obtain ⟨W2, hW2⟩ : ∃ x, x = W1.setCell ⟨E, 0, none⟩ (.int .i32 1) := ⟨_, rfl⟩
    rw [← hW2] at X2 P2 C2' ⊢
    have z2 : W2.heap.size = w.heap.size + 1 := by rw [hW2]; simpa using zW
    clear hW2 hp1 c0 f0 X1 P1 bA hX
    have hp2 : W2.cell? ⟨w.heap.size, 0, none⟩ = some (.pointer (some ⟨E, 0, none⟩)) := P2.cell 0
    have x17 : W2.cell? ⟨E, 17, none⟩ = some (.int .i64 v9) := X2.cell 17
    have x18 : W2.cell? ⟨E, 18, none⟩ = some (.int .i64 v10) := X2.cell 18
    go_upto_region 3 with fail
    go_quiet (fail)
    go_upto_region 6 with fail
    obtain ⟨W3, hW3⟩ : ∃ x, x = W2.drewN nq := ⟨_, rfl⟩
    rw [← hW3]
    have X3 : Box W3 E #[.int .i32 1, .int .u32 0, .int .u32 0, .int .i32 0, .int .u32 0, .int .i64 v0, .int .i64 v1, .int .i64 v2, .int .i64 v3, .int .i64 v4, .int .i64 v5, .int .i64 v6, .int .i64 v7, .int .i64 v8, .slice vp0 vl0 vq0, .slice vp1 vl1 vq1, .slice vp2 vl2 vq2, .int .i64 v9, .int .i64 v10, .bool vb] 166 := by rw [hW3]; exact X2
    have P3 : Box W3 w.heap.size #[.pointer (some ⟨E, 0, none⟩)] 104 := by rw [hW3]; exact P2
    have C3' : ChgL [E] w W3 := by rw [hW3]; exact ⟨C2'.os, C2'.tape, C2'.output, C2'.size, C2'.block⟩
    have z3 : W3.heap.size = w.heap.size + 1 := by rw [hW3]; exact z2
    have hp3 : W3.cell? ⟨w.heap.size, 0, none⟩ = some (.pointer (some ⟨E, 0, none⟩)) := P3.cell 0
    clear hW3 X2 P2 C2' z2 hp2 x17 x18
    have O3 := hO'.out.chg C3'
    have CC := (CH.out W3 X3 O3 C3').mono (R' := fun e w' => e = .returned (.tuple #[]) ∧ ∃ y0 y1 y2 y3 y4 y5 y6 y7 y8 yp0 yl0 yq0 yp1 yl1 yq1 yp2 yl2 yq2 y9 y10 yb K', Box w' E #[.int .i32 1, .int .u32 0, .int .u32 0, .int .i32 0, .int .u32 0, .int .i64 y0, .int .i64 y1, .int .i64 y2, .int .i64 y3, .int .i64 y4, .int .i64 y5, .int .i64 y6, .int .i64 y7, .int .i64 y8, .slice yp0 yl0 yq0, .slice yp1 yl1 yq1, .slice yp2 yl2 yq2, .int .i64 y9, .int .i64 y10, .bool yb] 166 ∧ EncO w' E d' [.int .i64 y0, .int .i64 y1, .int .i64 y2, .int .i64 y3, .int .i64 y4, .int .i64 y5, .int .i64 y6, .int .i64 y7, .int .i64 y8, .slice yp0 yl0 yq0, .slice yp1 yl1 yq1, .slice yp2 yl2 yq2, .int .i64 y9, .int .i64 y10, .bool yb] K' ∧ (∀ b, b ∈ K' → b ∈ K ∨ W3.heap.size ≤ b) ∧ ChgL (E :: K) W3 w') (fun e w' ⟨he, cs', K', hX', hO', hs', hC'⟩ => by
      obtain ⟨y0, y1, y2, y3, y4, y5, y6, y7, y8, yp0, yl0, yq0, yp1, yl1, yq1, yp2, yl2, yq2, y9, y10, yb, rfl⟩ := world15L hO'.own
      exact ⟨he, y0, y1, y2, y3, y4, y5, y6, y7, y8, yp0, yl0, yq0, yp1, yl1, yq1, yp2, yl2, yq2, y9, y10, yb, K', hX', hO', hs', hC'⟩)
    have hKl : ∀ b, b ∈ K → b < w.heap.size := fun b hb => layWorld.own_lt hO'.out.own b hb
    go_wp2_with (go_at_call 155; refine CC.mono ?_; rintro e w5 ⟨rfl, y0, y1, y2, y3, y4, y5, y6, y7, y8, yp0, yl0, yq0, yp1, yl1, yq1, yp2, yl2, yq2, y9, y10, yb, K5, X5, O5, s5, C5⟩; have P5 := P3.chgl C5 (by intro hm; rcases List.mem_cons.1 hm with h | h; omega; have := hKl _ h; omega); have hp5 : w5.cell? ⟨w.heap.size, 0, none⟩ = some (.pointer (some ⟨E, 0, none⟩)) := P5.cell 0; have x17 : w5.cell? ⟨E, 17, none⟩ = some (.int .i64 y9) := X5.cell 17; have f17 : w5.frozen? ⟨E, 17, none⟩ = false := X5.frozen 17; have HY9 : Hid (y9 = d'.writes) := writes_of O5.own; have zz : IntKind.i64.wrap (y9 + 1) = y9 + 1 := by rw [IntKind.wrap_i64]; have := HWR.out; have := HY9.out; omega)
    refine leaves_cons (f := 199) (args := #[.pointer (some ⟨E, 0, none⟩)]) (by simp) (by simp [go_sem]) ?_
    have X6 : Box (w5.setCell ⟨E, 17, none⟩ (.int .i64 (y9 + 1))) E #[.int .i32 1, .int .u32 0, .int .u32 0, .int .i32 0, .int .u32 0, .int .i64 y0, .int .i64 y1, .int .i64 y2, .int .i64 y3, .int .i64 y4, .int .i64 y5, .int .i64 y6, .int .i64 y7, .int .i64 y8, .slice yp0 yl0 yq0, .slice yp1 yl1 yq1, .slice yp2 yl2 yq2, .int .i64 (y9 + 1), .int .i64 y10, .bool yb] 166 := X5.setc 17 _
    refine (unlock_door ⟨E, 0, none⟩ _ _ (X6.cell 0) (X6.frozen 0)).mono ?_
    rintro e u' w'' ⟨rfl, rfl, rfl⟩
    have X7 : Box ((w5.setCell ⟨E, 17, none⟩ (.int .i64 (y9 + 1))).setCell ⟨E, 0, none⟩ (.int .i32 0)) E #[.int .i32 0, .int .u32 0, .int .u32 0, .int .i32 0, .int .u32 0, .int .i64 y0, .int .i64 y1, .int .i64 y2, .int .i64 y3, .int .i64 y4, .int .i64 y5, .int .i64 y6, .int .i64 y7, .int .i64 y8, .slice yp0 yl0 yq0, .slice yp1 yl1 yq1, .slice yp2 yl2 yq2, .int .i64 (y9 + 1), .int .i64 y10, .bool yb] 166 := X6.setc 0 _
    have C7 : ChgL [E] w5 ((w5.setCell ⟨E, 17, none⟩ (.int .i64 (y9 + 1))).setCell ⟨E, 0, none⟩ (.int .i32 0)) := ((ChgL.refl _ _).st _ 17 _ (by simp)).st _ 0 _ (by simp)
    have O7 : EncO w5 E { d' with writes := d'.writes + 1 } [.int .i64 y0, .int .i64 y1, .int .i64 y2, .int .i64 y3, .int .i64 y4, .int .i64 y5, .int .i64 y6, .int .i64 y7, .int .i64 y8, .slice yp0 yl0 yq0, .slice yp1 yl1 yq1, .slice yp2 yl2 yq2, .int .i64 (y9 + 1), .int .i64 y10, .bool yb] K5 := by
      rw [← HY9.out]
      exact ⟨own_writesK (y9 + 1) (by have := HWR.out; have := HY9.out; omega) O5.own, O5.nd, O5.ne⟩
    simp only [Leaves, settle]
    refine ⟨_, results_none rfl _ _ _, rfl, _, K5, X7, O7.chg C7, fun b hb => ?_, ?_⟩
    · rcases s5 b hb with h | h
      · exact .inl h
      · exact .inr (by omega)
    · exact (C3'.mono (fun b hb => by simp at hb; simp [hb])).trans (C5.trans (C7.mono (fun b hb => by simp at hb; simp [hb])))
end Go.Proofs.YtfafbojaeedhfaaGreat

namespace Go.Proofs.YtfafbojaeedhfaaGreat
open Go.RowKit F256
set_option linter.unusedVariables false
set_option linter.unusedSimpArgs false
/-- four boxes -/
structure Quad (w wc : World) (c1 c2 c3 c4 : Array Value) (t1 t2 t3 t4 : TypeId) : Prop where
  b1 : Box wc w.heap.size c1 t1
  b2 : Box wc (w.heap.size + 1) c2 t2
  b3 : Box wc (w.heap.size + 1 + 1) c3 t3
  b4 : Box wc (w.heap.size + 1 + 1 + 1) c4 t4
  bel : Below w.heap.size w wc
theorem quad_new (w : World) (c1 c2 c3 c4 : Array Value) (t1 t2 t3 t4 : TypeId) : Quad w ((((w.alloc (.cells c1 t1)).alloc (.cells c2 t2)).alloc (.cells c3 t3)).alloc (.cells c4 t4)) c1 c2 c3 c4 t1 t2 t3 t4 := by
  have A := two_newb w c1 c2 t1 t2
  have B := two_newb ((w.alloc (.cells c1 t1)).alloc (.cells c2 t2)) c3 c4 t3 t4
  have e : ((w.alloc (.cells c1 t1)).alloc (.cells c2 t2)).heap.size = w.heap.size + 1 + 1 := by simp
  have A' := A.call B.bel
  obtain ⟨B1, B2, _⟩ := B
  rw [e] at B1 B2
  exact ⟨A'.b1, A'.b2, B1, B2, A'.bel⟩
theorem Quad.call {w wc w' : World} {c1 c2 c3 c4 : Array Value} {t1 t2 t3 t4 : TypeId} (h : Quad w wc c1 c2 c3 c4 t1 t2 t3 t4) (hb : Below wc.heap.size wc w') : Quad w w' c1 c2 c3 c4 t1 t2 t3 t4 := ⟨h.b1.call hb, h.b2.call hb, h.b3.call hb, h.b4.call hb, h.bel.trans (hb.mono h.bel.size)⟩
/-- six boxes -/
structure Six (w wc : World) (c1 c2 c3 c4 c5 c6 : Array Value) (t1 t2 t3 t4 t5 t6 : TypeId) : Prop where
  b1 : Box wc w.heap.size c1 t1
  b2 : Box wc (w.heap.size + 1) c2 t2
  b3 : Box wc (w.heap.size + 1 + 1) c3 t3
  b4 : Box wc (w.heap.size + 1 + 1 + 1) c4 t4
  b5 : Box wc (w.heap.size + 1 + 1 + 1 + 1) c5 t5
  b6 : Box wc (w.heap.size + 1 + 1 + 1 + 1 + 1) c6 t6
  bel : Below w.heap.size w wc
theorem six_new (w : World) (c1 c2 c3 c4 c5 c6 : Array Value) (t1 t2 t3 t4 t5 t6 : TypeId) : Six w ((((((w.alloc (.cells c1 t1)).alloc (.cells c2 t2)).alloc (.cells c3 t3)).alloc (.cells c4 t4)).alloc (.cells c5 t5)).alloc (.cells c6 t6)) c1 c2 c3 c4 c5 c6 t1 t2 t3 t4 t5 t6 := by
  have A := quad_new w c1 c2 c3 c4 t1 t2 t3 t4
  have B := two_newb ((((w.alloc (.cells c1 t1)).alloc (.cells c2 t2)).alloc (.cells c3 t3)).alloc (.cells c4 t4)) c5 c6 t5 t6
  have e : ((((w.alloc (.cells c1 t1)).alloc (.cells c2 t2)).alloc (.cells c3 t3)).alloc (.cells c4 t4)).heap.size = w.heap.size + 1 + 1 + 1 + 1 := by simp
  have A' := A.call B.bel
  obtain ⟨B1, B2, _⟩ := B
  rw [e] at B1 B2
  exact ⟨A'.b1, A'.b2, A'.b3, A'.b4, B1, B2, A'.bel⟩
theorem Six.call {w wc w' : World} {c1 c2 c3 c4 c5 c6 : Array Value} {t1 t2 t3 t4 t5 t6 : TypeId} (h : Six w wc c1 c2 c3 c4 c5 c6 t1 t2 t3 t4 t5 t6) (hb : Below wc.heap.size wc w') : Six w w' c1 c2 c3 c4 c5 c6 t1 t2 t3 t4 t5 t6 := ⟨h.b1.call hb, h.b2.call hb, h.b3.call hb, h.b4.call hb, h.b5.call hb, h.b6.call hb, h.bel.trans (hb.mono h.bel.size)⟩
theorem size_Bk : (Tryz.prog.info? 39).map (·.size) = some 2 := by kernel_rfl
set_option maxHeartbeats 8000000 in
set_option maxRecDepth 20000 in
theorem write_ok (E : Nat) (v0 v1 v2 v3 v4 v5 v6 v7 v8 vp0 vl0 vq0 vp1 vl1 vq1 vp2 vl2 vq2 v9 v10 vb : _) (d : WorldD) (K : List Nat) (G k R : Nat) (b : BlockD) (o1 : Option Addr) (k1 hi : Nat) (w : World) (hX : Box w E #[.int .i32 0, .int .u32 0, .int .u32 0, .int .i32 0, .int .u32 0, .int .i64 v0, .int .i64 v1, .int .i64 v2, .int .i64 v3, .int .i64 v4, .int .i64 v5, .int .i64 v6, .int .i64 v7, .int .i64 v8, .slice vp0 vl0 vq0, .slice vp1 vl1 vq1, .slice vp2 vl2 vq2, .int .i64 v9, .int .i64 v10, .bool vb] 166) (hO : EncO w E d [.int .i64 v0, .int .i64 v1, .int .i64 v2, .int .i64 v3, .int .i64 v4, .int .i64 v5, .int .i64 v6, .int .i64 v7, .int .i64 v8, .slice vp0 vl0 vq0, .slice vp1 vl1 vq1, .slice vp2 vl2 vq2, .int .i64 v9, .int .i64 v10, .bool vb] K) (hG : G < d.groups.1) (hk : k < (d.groups.2 G).1) (hR : R < ((d.groups.2 G).2 k).blocks.1) (hr : layBlock.rd w hi b [.int .i64 b.stamp, .slice o1 b.bytes.1 k1]) (hiE : hi ≤ E) (hsr : szBlockD b ≤ 1048576) (hpw : ¬ (v10 ≠ -1 ∧ v10 ≤ v9)) (hwr : -9223372036854775808 ≤ d.writes ∧ d.writes + 1 ≤ 9223372036854775807) :
    Calls Tryz.prog 89 #[.pointer (some ⟨E, 0, none⟩), .int .i64 (G : Int), .int .i64 (k : Int), .int .i64 (R : Int), .agg #[.int .i64 b.stamp, .slice o1 b.bytes.1 k1]] w fun e w' => e = .returned (.tuple #[]) ∧ ∃ cs' K', Box w' E (([.int .i32 0, .int .u32 0, .int .u32 0, .int .i32 0, .int .u32 0] : List Value) ++ cs').toArray 166 ∧ EncO w' E { writeW d G k R b with writes := d.writes + 1 } cs' K' ∧ (∀ b, b ∈ K' → b ∈ K ∨ w.heap.size ≤ b) ∧ ChgL (E :: K) w w' := by
  have hmf : ∀ (fn : Fn) (first cap : Array Value) (w : World), (Instr.makeFunc fn first cap).run Tryz.prog w = .ok (.func fn first cap) w := fun _ _ _ _ => rfl
  have hE : E < w.heap.size := hX.lt
  have TB := quad_new w #[.int .i64 (G : Int)] #[.int .i64 (k : Int)] #[.int .i64 (R : Int)] #[.int .i64 b.stamp, .slice o1 b.bytes.1 k1] 2 2 2 39
  have X1 := hX.below TB.bel hE
  go_enter Tryz.func89, Tryz.ntmps89
  go_upto_region 1 with fail
  obtain ⟨W, hW⟩ : ∃ x, x = ((((w.alloc (.cells #[.int .i64 (G : Int)] 2)).alloc (.cells #[.int .i64 (k : Int)] 2)).alloc (.cells #[.int .i64 (R : Int)] 2)).alloc (.cells #[.int .i64 b.stamp, .slice o1 b.bytes.1 k1] 39)) := ⟨_, rfl⟩
  rw [← hW] at TB X1 ⊢
  have zW : w.heap.size ≤ W.heap.size := TB.bel.size
  clear hW hX
  have O1 : EncO W E d [.int .i64 v0, .int .i64 v1, .int .i64 v2, .int .i64 v3, .int .i64 v4, .int .i64 v5, .int .i64 v6, .int .i64 v7, .int .i64 v8, .slice vp0 vl0 vq0, .slice vp1 vl1 vq1, .slice vp2 vl2 vq2, .int .i64 v9, .int .i64 v10, .bool vb] K := ⟨Lay.own_kept _ hO.own (fun b hb => TB.bel.block b (layWorld.own_lt hO.own b hb)), hO.nd, hO.ne⟩
  have CR := rawWrite_write E v0 v1 v2 v3 v4 v5 v6 v7 v8 vp0 vl0 vq0 vp1 vl1 vq1 vp2 vl2 vq2 v9 v10 vb d (writeW d G k R b) K (w.heap.size + 1 + 1 + 1) w.heap.size (w.heap.size + 1) (w.heap.size + 1 + 1) W X1 O1 hpw hwr (fun W' hX' hO' hC' => writeChange E d _ K _ _ _ _ G k R b o1 k1 hi hG hk hR W' hX' hO' (TB.b4.chgl hC' (by simp; omega)) ((World.cell?_of_block (hC'.block (w.heap.size) TB.b1.lt (by simp; omega))).trans (TB.b1.cell 0)) ((World.cell?_of_block (hC'.block (w.heap.size + 1) TB.b2.lt (by simp; omega))).trans (TB.b2.cell 0)) ((World.cell?_of_block (hC'.block (w.heap.size + 1 + 1) TB.b3.lt (by simp; omega))).trans (TB.b3.cell 0)) (layBlock.rd_below (layBlock.rd_below hr TB.bel (by omega)) (hC'.bel (B := hi) (fun b hb => by simp at hb; omega) (by omega)) (Nat.le_refl _)) (by have := hC'.size; omega) hsr (by have := hC'.size; have := TB.b4.lt; omega) (by have := hC'.size; have := TB.b4.lt; omega) (by have := hC'.size; have := TB.b4.lt; omega))
  have HCR := CR
  clear CR hO hpw hwr O1 X1
  go_wp2_with (go_at_call 154; refine HCR.mono ?_; rintro e w5 ⟨rfl, cs', K', X5, O5, s5, C5⟩)
  go_end0
  exact ⟨rfl, cs', K', X5, O5, fun b hb => (s5 b hb).imp id (fun h => by omega), (ChgL.of_below TB.bel).trans C5⟩
set_option maxHeartbeats 8000000 in
set_option maxRecDepth 20000 in
theorem write_fail (E : Nat) (v0 v1 v2 v3 v4 v5 v6 v7 v8 vp0 vl0 vq0 vp1 vl1 vq1 vp2 vl2 vq2 v9 v10 vb : _) (d : WorldD) (K : List Nat) (G k R : Nat) (b : BlockD) (o1 : Option Addr) (k1 hi : Nat) (w : World) (hX : Box w E #[.int .i32 0, .int .u32 0, .int .u32 0, .int .i32 0, .int .u32 0, .int .i64 v0, .int .i64 v1, .int .i64 v2, .int .i64 v3, .int .i64 v4, .int .i64 v5, .int .i64 v6, .int .i64 v7, .int .i64 v8, .slice vp0 vl0 vq0, .slice vp1 vl1 vq1, .slice vp2 vl2 vq2, .int .i64 v9, .int .i64 v10, .bool vb] 166) (h1 : ∀ x, x ∈ ([.int .i64 v0, .int .i64 v1, .int .i64 v2, .int .i64 v3, .int .i64 v4, .int .i64 v5, .int .i64 v6, .int .i64 v7, .int .i64 v8, .slice vp0 vl0 vq0, .slice none 0 0, .slice vp2 vl2 vq2, .int .i64 v9, .int .i64 v10, .bool true] : List Value) → x.oneCell' = true) (hs : v10 ≠ -1) (hw : v10 ≤ v9) :
    Calls Tryz.prog 89 #[.pointer (some ⟨E, 0, none⟩), .int .i64 (G : Int), .int .i64 (k : Int), .int .i64 (R : Int), .agg #[.int .i64 b.stamp, .slice o1 b.bytes.1 k1]] w fun e w' => e = .panicked [{ v := .iface 199 (.agg #[]), recovered := false }] ∧ Box w' E #[.int .i32 0, .int .u32 0, .int .u32 1, .int .i32 0, .int .u32 0, .int .i64 v0, .int .i64 v1, .int .i64 v2, .int .i64 v3, .int .i64 v4, .int .i64 v5, .int .i64 v6, .int .i64 v7, .int .i64 v8, .slice vp0 vl0 vq0, .slice none 0 0, .slice vp2 vl2 vq2, .int .i64 v9, .int .i64 v10, .bool true] 166 ∧ ChgL [E] w w' := by
  have hmf : ∀ (fn : Fn) (first cap : Array Value) (w : World), (Instr.makeFunc fn first cap).run Tryz.prog w = .ok (.func fn first cap) w := fun _ _ _ _ => rfl
  have hE : E < w.heap.size := hX.lt
  have TB := quad_new w #[.int .i64 (G : Int)] #[.int .i64 (k : Int)] #[.int .i64 (R : Int)] #[.int .i64 b.stamp, .slice o1 b.bytes.1 k1] 2 2 2 39
  have X1 := hX.below TB.bel hE
  go_enter Tryz.func89, Tryz.ntmps89
  go_upto_region 1 with fail
  obtain ⟨W, hW⟩ : ∃ x, x = ((((w.alloc (.cells #[.int .i64 (G : Int)] 2)).alloc (.cells #[.int .i64 (k : Int)] 2)).alloc (.cells #[.int .i64 (R : Int)] 2)).alloc (.cells #[.int .i64 b.stamp, .slice o1 b.bytes.1 k1] 39)) := ⟨_, rfl⟩
  rw [← hW] at TB X1 ⊢
  have zW : w.heap.size ≤ W.heap.size := TB.bel.size
  clear hW hX
  have CR := fun fv => rawWrite_fail E v0 v1 v2 v3 v4 v5 v6 v7 v8 vp0 vl0 vq0 vp1 vl1 vq1 vp2 vl2 vq2 v9 v10 vb fv W X1 h1 hs hw
  clear h1 hs hw X1
  go_wp2_with (go_at_call 154; refine (CR _).mono ?_; rintro e w5 ⟨rfl, X5, C5⟩)
  exact ⟨rfl, rfl, X5, (ChgL.of_below TB.bel).trans C5⟩
set_option maxHeartbeats 8000000 in
theorem writeWork_ok (E : Nat) (v0 v1 v2 v3 v4 v5 v6 v7 v8 vp0 vl0 vq0 vp1 vl1 vq1 vp2 vl2 vq2 v9 v10 vb : _) (d : WorldD) (K : List Nat) (G k R : Nat) (b : BlockD) (o1 : Option Addr) (k1 hi : Nat) (w : World) (hX : Box w E #[.int .i32 0, .int .u32 0, .int .u32 0, .int .i32 0, .int .u32 0, .int .i64 v0, .int .i64 v1, .int .i64 v2, .int .i64 v3, .int .i64 v4, .int .i64 v5, .int .i64 v6, .int .i64 v7, .int .i64 v8, .slice vp0 vl0 vq0, .slice vp1 vl1 vq1, .slice vp2 vl2 vq2, .int .i64 v9, .int .i64 v10, .bool vb] 166) (a0 a1 a2 a3 : Nat) (h0 : w.cell? ⟨a0, 0, none⟩ = some (.int .i64 (G : Int))) (h01 : w.cell? ⟨a1, 0, none⟩ = some (.int .i64 (k : Int))) (h02 : w.cell? ⟨a2, 0, none⟩ = some (.int .i64 (R : Int))) (h03 : Box w a3 #[.int .i64 b.stamp, .slice o1 b.bytes.1 k1] 39) (hO : EncO w E d [.int .i64 v0, .int .i64 v1, .int .i64 v2, .int .i64 v3, .int .i64 v4, .int .i64 v5, .int .i64 v6, .int .i64 v7, .int .i64 v8, .slice vp0 vl0 vq0, .slice vp1 vl1 vq1, .slice vp2 vl2 vq2, .int .i64 v9, .int .i64 v10, .bool vb] K) (hG : G < d.groups.1) (hk : k < (d.groups.2 G).1) (hR : R < ((d.groups.2 G).2 k).blocks.1) (hr : layBlock.rd w hi b [.int .i64 b.stamp, .slice o1 b.bytes.1 k1]) (hiE : hi ≤ E) (hsr : szBlockD b ≤ 1048576) (hpw : ¬ (v10 ≠ -1 ∧ v10 ≤ v9)) (hwr : -9223372036854775808 ≤ d.writes ∧ d.writes + 1 ≤ 9223372036854775807) :
    Calls Tryz.prog 88 #[.pointer (some ⟨E, 0, none⟩), .pointer (some ⟨a0, 0, none⟩), .pointer (some ⟨a1, 0, none⟩), .pointer (some ⟨a2, 0, none⟩), .pointer (some ⟨a3, 0, none⟩)] w fun e w' => e = .returned (.tuple #[]) ∧ ∃ cs' K', Box w' E (([.int .i32 0, .int .u32 0, .int .u32 0, .int .i32 0, .int .u32 0] : List Value) ++ cs').toArray 166 ∧ EncO w' E { writeW d G k R b with writes := d.writes + 1 } cs' K' ∧ (∀ b, b ∈ K' → b ∈ K ∨ w.heap.size ≤ b) ∧ ChgL (E :: K) w w' := by
  have CR := write_ok E v0 v1 v2 v3 v4 v5 v6 v7 v8 vp0 vl0 vq0 vp1 vl1 vq1 vp2 vl2 vq2 v9 v10 vb d K G k R b o1 k1 hi w hX hO hG hk hR hr hiE hsr hpw hwr
  clear hX hO hG hk hR hr hiE hsr hpw hwr
  go_enter Tryz.func88, Tryz.ntmps88
  go_wp2_with (first | (refine wp_loadBox 39 (.tmp 4) rfl rfl (a3) rfl (cs := [.int .i64 b.stamp, .slice o1 b.bytes.1 k1]) (h03) Tryz.underlying39 size_Bk rfl ?_) | (go_at_call 89; refine CR.mono ?_; rintro e w5 ⟨rfl, cs', K', X5, O5, s5, C5⟩))
  go_end0
  exact ⟨rfl, cs', K', X5, O5, s5, C5⟩
set_option maxHeartbeats 8000000 in
theorem writeWork_fail (E : Nat) (v0 v1 v2 v3 v4 v5 v6 v7 v8 vp0 vl0 vq0 vp1 vl1 vq1 vp2 vl2 vq2 v9 v10 vb : _) (d : WorldD) (K : List Nat) (G k R : Nat) (b : BlockD) (o1 : Option Addr) (k1 hi : Nat) (w : World) (hX : Box w E #[.int .i32 0, .int .u32 0, .int .u32 0, .int .i32 0, .int .u32 0, .int .i64 v0, .int .i64 v1, .int .i64 v2, .int .i64 v3, .int .i64 v4, .int .i64 v5, .int .i64 v6, .int .i64 v7, .int .i64 v8, .slice vp0 vl0 vq0, .slice vp1 vl1 vq1, .slice vp2 vl2 vq2, .int .i64 v9, .int .i64 v10, .bool vb] 166) (a0 a1 a2 a3 : Nat) (h0 : w.cell? ⟨a0, 0, none⟩ = some (.int .i64 (G : Int))) (h01 : w.cell? ⟨a1, 0, none⟩ = some (.int .i64 (k : Int))) (h02 : w.cell? ⟨a2, 0, none⟩ = some (.int .i64 (R : Int))) (h03 : Box w a3 #[.int .i64 b.stamp, .slice o1 b.bytes.1 k1] 39) (h1 : ∀ x, x ∈ ([.int .i64 v0, .int .i64 v1, .int .i64 v2, .int .i64 v3, .int .i64 v4, .int .i64 v5, .int .i64 v6, .int .i64 v7, .int .i64 v8, .slice vp0 vl0 vq0, .slice none 0 0, .slice vp2 vl2 vq2, .int .i64 v9, .int .i64 v10, .bool true] : List Value) → x.oneCell' = true) (hs : v10 ≠ -1) (hw : v10 ≤ v9) :
    Calls Tryz.prog 88 #[.pointer (some ⟨E, 0, none⟩), .pointer (some ⟨a0, 0, none⟩), .pointer (some ⟨a1, 0, none⟩), .pointer (some ⟨a2, 0, none⟩), .pointer (some ⟨a3, 0, none⟩)] w fun e w' => e = .panicked [{ v := .iface 199 (.agg #[]), recovered := false }] ∧ Box w' E #[.int .i32 0, .int .u32 0, .int .u32 1, .int .i32 0, .int .u32 0, .int .i64 v0, .int .i64 v1, .int .i64 v2, .int .i64 v3, .int .i64 v4, .int .i64 v5, .int .i64 v6, .int .i64 v7, .int .i64 v8, .slice vp0 vl0 vq0, .slice none 0 0, .slice vp2 vl2 vq2, .int .i64 v9, .int .i64 v10, .bool true] 166 ∧ ChgL [E] w w' := by
  have CR := write_fail E v0 v1 v2 v3 v4 v5 v6 v7 v8 vp0 vl0 vq0 vp1 vl1 vq1 vp2 vl2 vq2 v9 v10 vb d K G k R b o1 k1 hi w hX h1 hs hw
  clear hX h1 hs hw
  go_enter Tryz.func88, Tryz.ntmps88
  go_wp2_with (first | (refine wp_loadBox 39 (.tmp 4) rfl rfl (a3) rfl (cs := [.int .i64 b.stamp, .slice o1 b.bytes.1 k1]) (h03) Tryz.underlying39 size_Bk rfl ?_) | (go_at_call 89; refine CR.mono ?_; rintro e w5 ⟨rfl, X5, C5⟩))
  exact ⟨rfl, rfl, X5, C5⟩
set_option maxHeartbeats 16000000 in
set_option maxRecDepth 100000 in
theorem power_write (d : WorldD) (cs : List Value) (hi : Nat) (G k R : Nat) (b : BlockD) (o1 : Option Addr) (k1 hir : Nat) (a0 a1 a2 a3 : Nat) (w : World) (h : layWorld.rd w hi d cs) (hhi : hi ≤ w.heap.size) (hsz : szWorldD d ≤ 1048576) (hc0 : w.cell? ⟨a0, 0, none⟩ = some (.int .i64 (G : Int))) (hl0 : a0 < w.heap.size) (hc1 : w.cell? ⟨a1, 0, none⟩ = some (.int .i64 (k : Int))) (hl1 : a1 < w.heap.size) (hc2 : w.cell? ⟨a2, 0, none⟩ = some (.int .i64 (R : Int))) (hl2 : a2 < w.heap.size) (hc3 : Box w a3 #[.int .i64 b.stamp, .slice o1 b.bytes.1 k1] 39) (hG : G < d.groups.1) (hk : k < (d.groups.2 G).1) (hR : R < ((d.groups.2 G).2 k).blocks.1) (hr : layBlock.rd w hir b [.int .i64 b.stamp, .slice o1 b.bytes.1 k1]) (hhr : hir ≤ w.heap.size) (hsr : szBlockD b ≤ 1048576) (hwr : -9223372036854775808 ≤ d.writes ∧ d.writes + 1 ≤ 9223372036854775807) (P : WorldResultD → Prop) (hPf : d.stop ≠ -1 ∧ d.stop ≤ d.writes → P ⟨9, cutW d⟩) (hPo : ¬ (d.stop ≠ -1 ∧ d.stop ≤ d.writes) → P ⟨0, { writeW d G k R b with writes := d.writes + 1 }⟩) :
    Calls Tryz.prog 87 #[.agg cs.toArray, .func (.func 88) #[] #[.pointer (some ⟨a0, 0, none⟩), .pointer (some ⟨a1, 0, none⟩), .pointer (some ⟨a2, 0, none⟩), .pointer (some ⟨a3, 0, none⟩)]] w (ResPost P w) := by
  obtain ⟨v0, v1, v2, v3, v4, v5, v6, v7, v8, vp0, vl0, vq0, vp1, vl1, vq1, vp2, vl2, vq2, v9, v10, vb, rfl⟩ := world15 h
  have hmf : ∀ (fn : Fn) (first cap : Array Value) (w : World), (Instr.makeFunc fn first cap).run Tryz.prog w = .ok (.func fn first cap) w := fun _ _ _ _ => rfl
  have T0 := two_newb w #[.int .i64 v0, .int .i64 v1, .int .i64 v2, .int .i64 v3, .int .i64 v4, .int .i64 v5, .int .i64 v6, .int .i64 v7, .int .i64 v8, .slice vp0 vl0 vq0, .slice vp1 vl1 vq1, .slice vp2 vl2 vq2, .int .i64 v9, .int .i64 v10, .bool vb] #[.int .i64 0, .int .i64 0, .int .i64 0, .int .i64 0, .int .i64 0, .int .i64 0, .int .i64 0, .int .i64 0, .int .i64 0, .int .i64 0, .slice none 0 0, .slice none 0 0, .slice none 0 0, .int .i64 0, .int .i64 0, .bool false] 30 34
  have CC := fun w' (hb : Below w.heap.size w w') => copyWorld_is [.int .i64 v0, .int .i64 v1, .int .i64 v2, .int .i64 v3, .int .i64 v4, .int .i64 v5, .int .i64 v6, .int .i64 v7, .int .i64 v8, .slice vp0 vl0 vq0, .slice vp1 vl1 vq1, .slice vp2 vl2 vq2, .int .i64 v9, .int .i64 v10, .bool vb] d hi w' (layWorld.rd_below h hb hhi) (Nat.le_trans hhi hb.size) hsz
  clear h
  go_enter_defers Tryz.func87, Tryz.ntmps87
  go_wp2_with (refine wp_loadBox 30 (.tmp 2) rfl rfl (w.heap.size) rfl (cs := [.int .i64 v0, .int .i64 v1, .int .i64 v2, .int .i64 v3, .int .i64 v4, .int .i64 v5, .int .i64 v6, .int .i64 v7, .int .i64 v8, .slice vp0 vl0 vq0, .slice vp1 vl1 vq1, .slice vp2 vl2 vq2, .int .i64 v9, .int .i64 v10, .bool vb]) (T0.b1) Tryz.underlying30 size_W rfl ?_)
  refine (CC _ T0.bel).mono ?_
  rintro e w2 ⟨c2, rfl, o2, b2⟩
  obtain ⟨u0, u1, u2, u3, u4, u5, u6, u7, u8, up0, ul0, uq0, up1, ul1, uq1, up2, ul2, uq2, u9, u10, ub, rfl⟩ := world15O o2
  have T2 := T0.call b2
  have z2 : w.heap.size + 1 < w2.heap.size := T2.b2.lt
  have TB := two_newb w2 #[.int .i32 0, .int .u32 0, .int .u32 0, .int .i32 0, .int .u32 0, .int .i64 u0, .int .i64 u1, .int .i64 u2, .int .i64 u3, .int .i64 u4, .int .i64 u5, .int .i64 u6, .int .i64 u7, .int .i64 u8, .slice up0 ul0 uq0, .slice up1 ul1 uq1, .slice up2 ul2 uq2, .int .i64 u9, .int .i64 u10, .bool ub] #[.pointer (some ⟨w2.heap.size, 0, none⟩)] 166 104
  obtain ⟨K, hk1, hk2, hk3⟩ := o2
  have hkz : ∀ b, b ∈ K → w.heap.size ≤ b ∧ b < w2.heap.size := fun b hb => ⟨by have := hk3 b hb; simp at this; omega, (hk3 b hb).2⟩
  go_upto_region 2 with fail
  obtain ⟨W3, hW3⟩ : ∃ x, x = (w2.alloc (.cells #[.int .i32 0, .int .u32 0, .int .u32 0, .int .i32 0, .int .u32 0, .int .i64 u0, .int .i64 u1, .int .i64 u2, .int .i64 u3, .int .i64 u4, .int .i64 u5, .int .i64 u6, .int .i64 u7, .int .i64 u8, .slice up0 ul0 uq0, .slice up1 ul1 uq1, .slice up2 ul2 uq2, .int .i64 u9, .int .i64 u10, .bool ub] 166)).alloc (.cells #[.pointer (some ⟨w2.heap.size, 0, none⟩)] 104) := ⟨_, rfl⟩
  rw [← hW3] at TB ⊢
  clear hW3
  have T3 := T2.call TB.bel
  have O3 : EncO W3 w2.heap.size d [.int .i64 u0, .int .i64 u1, .int .i64 u2, .int .i64 u3, .int .i64 u4, .int .i64 u5, .int .i64 u6, .int .i64 u7, .int .i64 u8, .slice up0 ul0 uq0, .slice up1 ul1 uq1, .slice up2 ul2 uq2, .int .i64 u9, .int .i64 u10, .bool ub] K := ⟨Lay.own_kept _ hk1 (fun b hb => TB.bel.block b (hkz b hb).2), hk2, fun hb => by have := hkz _ hb; omega⟩
  have z3 : w2.heap.size + 1 < W3.heap.size := TB.b2.lt
  have hst := stop_of hk1
  have hwt := writes_of hk1
  have q0 : W3.cell? ⟨a0, 0, none⟩ = some (.int .i64 (G : Int)) := (T3.bel.cell (p := ⟨a0, 0, none⟩) hl0).trans hc0
  have q1 : W3.cell? ⟨a1, 0, none⟩ = some (.int .i64 (k : Int)) := (T3.bel.cell (p := ⟨a1, 0, none⟩) hl1).trans hc1
  have q2 : W3.cell? ⟨a2, 0, none⟩ = some (.int .i64 (R : Int)) := (T3.bel.cell (p := ⟨a2, 0, none⟩) hl2).trans hc2
  have q3 : Box W3 a3 #[.int .i64 b.stamp, .slice o1 b.bytes.1 k1] 39 := hc3.below T3.bel hc3.lt
  have x5 : W3.cell? ⟨w2.heap.size + 1, 0, none⟩ = some (.pointer (some ⟨w2.heap.size, 0, none⟩)) := TB.b2.cell 0
  by_cases hf : u10 ≠ -1 ∧ u10 ≤ u9
  · have hP : P ⟨9, cutW d⟩ := hPf (by rw [← hst, ← hwt]; exact hf)
    obtain ⟨KC, kc1, kc2, kc3⟩ := own_cutK hk1 hk2
    have CF := writeWork_fail w2.heap.size u0 u1 u2 u3 u4 u5 u6 u7 u8 up0 ul0 uq0 up1 ul1 uq1 up2 ul2 uq2 u9 u10 ub d K G k R b o1 k1 hir W3 TB.b1 a0 a1 a2 a3 q0 q1 q2 q3 (fun x hx => layWorld.own_one kc1 x hx) hf.1 hf.2
    have HS : Hid (u10 = d.stop ∧ u9 = d.writes) := ⟨hst, hwt⟩
    clear hst hwt hf hPf hPo
    go_wp2_with (go_at_call 88; refine CF.mono ?_; rintro e w5 ⟨rfl, X5, C5⟩)
    have hR5 := T3.b2.chgl C5 (by simp; omega)
    have P5 := TB.b2.chgl C5 (by simp)
    refine leaves_cons (f := 153) (args := #[.pointer (some ⟨w.heap.size + 1, 0, none⟩), .pointer (some ⟨w2.heap.size + 1, 0, none⟩)]) (by simp) (by simp [go_sem]) ?_
    refine (tell_panic _ _ (w.heap.size + 1) (w2.heap.size + 1) w2.heap.size 0 1 0 _ _ _ _ _ _ _ _ _ _ _ _ _ _ _ _ _ _ _ _ _ _ hR5 (P5.cell 0) X5 (by omega) (by omega)).mono ?_
    rintro e u' w7 ⟨rfl, rfl, R7, C7⟩
    simp only [settle, Leaves, List.dropWhile]
    have z5 := C5.size
    have z7 := C7.size
    have B5 : Below w.heap.size w w5 := T3.bel.trans (C5.bel (fun b hb => by simp at hb; omega) T3.bel.size)
    have B7 : Below w.heap.size w w7 := B5.trans (C7.bel (fun b hb => by simp at hb; omega) B5.size)
    have O7 : OwnT layWorld w7 w.heap.size w7.heap.size (cutW d) [.int .i64 u0, .int .i64 u1, .int .i64 u2, .int .i64 u3, .int .i64 u4, .int .i64 u5, .int .i64 u6, .int .i64 u7, .int .i64 u8, .slice up0 ul0 uq0, .slice none 0 0, .slice up2 ul2 uq2, .int .i64 u9, .int .i64 u10, .bool true] := by
      refine ⟨KC, ?_, kc2, fun b hb => ⟨(hkz b (kc3 b hb)).1, by have := hkz b (kc3 b hb); omega⟩⟩
      refine Lay.own_chgL _ (Lay.own_chgL _ (Lay.own_kept _ kc1 (fun b hb => TB.bel.block b (hkz b (kc3 b hb)).2)) C5 (fun b hb hm => ?_)) C7 (fun b hb hm => ?_)
      · simp at hm; have := hkz b (kc3 b hb); omega
      · simp at hm; have := hk3 b (kc3 b hb); have := T0.b2.lt; omega
    have hT : ResPost P w (.returned (.agg #[.int .i64 9, .int .i64 u0, .int .i64 u1, .int .i64 u2, .int .i64 u3, .int .i64 u4, .int .i64 u5, .int .i64 u6, .int .i64 u7, .int .i64 u8, .slice up0 ul0 uq0, .slice none 0 0, .slice up2 ul2 uq2, .int .i64 u9, .int .i64 u10, .bool true])) w7 := by
      refine ⟨⟨9, _⟩, [.int .i64 9, .int .i64 u0, .int .i64 u1, .int .i64 u2, .int .i64 u3, .int .i64 u4, .int .i64 u5, .int .i64 u6, .int .i64 u7, .int .i64 u8, .slice up0 ul0 uq0, .slice none 0 0, .slice up2 ul2 uq2, .int .i64 u9, .int .i64 u10, .bool true], rfl, hP, ?_, B7⟩
      exact own_resOf 9 (by decide) O7
    exact ⟨_, results_cell_row Tryz.results87 _ w7 (w.heap.size + 1) 34 #[.int .i64 9, .int .i64 u0, .int .i64 u1, .int .i64 u2, .int .i64 u3, .int .i64 u4, .int .i64 u5, .int .i64 u6, .int .i64 u7, .int .i64 u8, .slice up0 ul0 uq0, .slice none 0 0, .slice up2 ul2 uq2, .int .i64 u9, .int .i64 u10, .bool true] (0, 0) (.struct _) rfl R7 Tryz.underlying34 rfl (by rw [size_WR]; rfl), hT⟩
  · have hP : P ⟨0, { writeW d G k R b with writes := d.writes + 1 }⟩ := hPo (by rw [← hst, ← hwt]; exact hf)
    have CF := (writeWork_ok w2.heap.size u0 u1 u2 u3 u4 u5 u6 u7 u8 up0 ul0 uq0 up1 ul1 uq1 up2 ul2 uq2 u9 u10 ub d K G k R b o1 k1 hir W3 TB.b1 a0 a1 a2 a3 q0 q1 q2 q3 O3 hG hk hR (layBlock.rd_below hr T3.bel hhr) (by omega) hsr hf hwr).mono (R' := fun e w' => e = .returned (.tuple #[]) ∧ ∃ y0 y1 y2 y3 y4 y5 y6 y7 y8 yp0 yl0 yq0 yp1 yl1 yq1 yp2 yl2 yq2 y9 y10 yb K', Box w' w2.heap.size #[.int .i32 0, .int .u32 0, .int .u32 0, .int .i32 0, .int .u32 0, .int .i64 y0, .int .i64 y1, .int .i64 y2, .int .i64 y3, .int .i64 y4, .int .i64 y5, .int .i64 y6, .int .i64 y7, .int .i64 y8, .slice yp0 yl0 yq0, .slice yp1 yl1 yq1, .slice yp2 yl2 yq2, .int .i64 y9, .int .i64 y10, .bool yb] 166 ∧ EncO w' w2.heap.size { writeW d G k R b with writes := d.writes + 1 } [.int .i64 y0, .int .i64 y1, .int .i64 y2, .int .i64 y3, .int .i64 y4, .int .i64 y5, .int .i64 y6, .int .i64 y7, .int .i64 y8, .slice yp0 yl0 yq0, .slice yp1 yl1 yq1, .slice yp2 yl2 yq2, .int .i64 y9, .int .i64 y10, .bool yb] K' ∧ (∀ b, b ∈ K' → b ∈ K ∨ W3.heap.size ≤ b) ∧ ChgL (w2.heap.size :: K) W3 w') (fun e w' ⟨he, cs', K', hX', hO', hs', hC'⟩ => by
      obtain ⟨y0, y1, y2, y3, y4, y5, y6, y7, y8, yp0, yl0, yq0, yp1, yl1, yq1, yp2, yl2, yq2, y9, y10, yb, rfl⟩ := world15L hO'.own
      exact ⟨he, y0, y1, y2, y3, y4, y5, y6, y7, y8, yp0, yl0, yq0, yp1, yl1, yq1, yp2, yl2, yq2, y9, y10, yb, K', hX', hO', hs', hC'⟩)
    have hRK : w.heap.size + 1 ∉ w2.heap.size :: K := fun hm => by
      rcases List.mem_cons.1 hm with h | h
      · omega
      · have := hk3 _ h; have := T0.b2.lt; omega
    clear hst hwt hf hPf hPo
    go_wp2_with (first | (go_at_call 88; refine CF.mono ?_; rintro e w5 ⟨rfl, y0, y1, y2, y3, y4, y5, y6, y7, y8, yp0, yl0, yq0, yp1, yl1, yq1, yp2, yl2, yq2, y9, y10, yb, K5, X5, O5, s5, C5⟩; have hR5 := T3.b2.chgl C5 hRK) | (refine wp_loadBox 34 (.tmp 4) rfl rfl (w.heap.size + 1) rfl (cs := [.int .i64 0, .int .i64 0, .int .i64 0, .int .i64 0, .int .i64 0, .int .i64 0, .int .i64 0, .int .i64 0, .int .i64 0, .int .i64 0, .slice none 0 0, .slice none 0 0, .slice none 0 0, .int .i64 0, .int .i64 0, .bool false]) (hR5) Tryz.underlying34 size_WR rfl ?_) | (refine wp_storeBox 34 _ _ rfl rfl (w.heap.size + 1) rfl (cs := [.int .i64 0, .int .i64 0, .int .i64 0, .int .i64 0, .int .i64 0, .int .i64 0, .int .i64 0, .int .i64 0, .int .i64 0, .int .i64 0, .slice none 0 0, .slice none 0 0, .slice none 0 0, .int .i64 0, .int .i64 0, .bool false]) (old := [.int .i64 0, .int .i64 0, .int .i64 0, .int .i64 0, .int .i64 0, .int .i64 0, .int .i64 0, .int .i64 0, .int .i64 0, .int .i64 0, .slice none 0 0, .slice none 0 0, .slice none 0 0, .int .i64 0, .int .i64 0, .bool false]) rfl hR5 size_WR rfl rfl (code_one 0 (by decide) w) ?_; intro w6 R6 C6 z6))
    have z5 := C5.size
    have P5 := TB.b2.chgl C5 (fun hm => by
      rcases List.mem_cons.1 hm with h | h
      · omega
      · have := hkz _ h; omega)
    have P6 := P5.chgl C6 (by simp; omega)
    have X6 := X5.chgl C6 (by simp; omega)
    refine leaves_cons (f := 153) (args := #[.pointer (some ⟨w.heap.size + 1, 0, none⟩), .pointer (some ⟨w2.heap.size + 1, 0, none⟩)]) (by simp) (by simp [go_sem]) ?_
    refine (tell_idle (w.heap.size + 1) (w2.heap.size + 1) w2.heap.size 0 0 0 _ _ _ _ _ _ _ _ _ _ _ _ _ _ _ _ _ _ _ _ _ _ R6 (P6.cell 0) X6 (by omega) (by omega)).mono ?_
    rintro e u' w7 ⟨rfl, rfl, R7, C7⟩
    simp only [settle, Leaves]
    have z7 := C7.size
    have hK5 : ∀ b, b ∈ K5 → w.heap.size ≤ b ∧ b ≠ w.heap.size + 1 := fun b hb => by
      rcases s5 b hb with h | h
      · exact ⟨(hkz b h).1, fun e => hRK (by rw [← e]; exact List.mem_cons_of_mem _ h)⟩
      · omega
    have B5 : Below w.heap.size w w5 := T3.bel.trans (C5.bel (fun b hb => by
      rcases List.mem_cons.1 hb with h | h
      · omega
      · exact (hkz b h).1) T3.bel.size)
    have B6 : Below w.heap.size w w6 := B5.trans (C6.bel (fun b hb => by simp at hb; omega) B5.size)
    have B7 : Below w.heap.size w w7 := B6.trans (C7.bel (fun b hb => by simp at hb; omega) B6.size)
    have O7 : OwnT layWorld w7 w.heap.size w7.heap.size { writeW d G k R b with writes := d.writes + 1 } [.int .i64 y0, .int .i64 y1, .int .i64 y2, .int .i64 y3, .int .i64 y4, .int .i64 y5, .int .i64 y6, .int .i64 y7, .int .i64 y8, .slice yp0 yl0 yq0, .slice yp1 yl1 yq1, .slice yp2 yl2 yq2, .int .i64 y9, .int .i64 y10, .bool yb] := by
      have h5 := fun b hb => layWorld.own_lt O5.own b hb
      refine ⟨K5, ?_, O5.nd, fun b hb => ⟨(hK5 b hb).1, by have := h5 b hb; omega⟩⟩
      exact Lay.own_chgL _ (Lay.own_chgL _ O5.own C6 (fun b hb hm => by simp at hm; exact (hK5 b hb).2 hm)) C7 (fun b hb hm => by simp at hm; exact (hK5 b hb).2 hm)
    have hT : ResPost P w (.returned (.agg #[.int .i64 0, .int .i64 y0, .int .i64 y1, .int .i64 y2, .int .i64 y3, .int .i64 y4, .int .i64 y5, .int .i64 y6, .int .i64 y7, .int .i64 y8, .slice yp0 yl0 yq0, .slice yp1 yl1 yq1, .slice yp2 yl2 yq2, .int .i64 y9, .int .i64 y10, .bool yb])) w7 := by
      refine ⟨⟨0, _⟩, [.int .i64 0, .int .i64 y0, .int .i64 y1, .int .i64 y2, .int .i64 y3, .int .i64 y4, .int .i64 y5, .int .i64 y6, .int .i64 y7, .int .i64 y8, .slice yp0 yl0 yq0, .slice yp1 yl1 yq1, .slice yp2 yl2 yq2, .int .i64 y9, .int .i64 y10, .bool yb], rfl, hP, ?_, B7⟩
      exact own_resOf 0 (by decide) O7
    exact ⟨_, results_cell_row Tryz.results87 _ w7 (w.heap.size + 1) 34 #[.int .i64 0, .int .i64 y0, .int .i64 y1, .int .i64 y2, .int .i64 y3, .int .i64 y4, .int .i64 y5, .int .i64 y6, .int .i64 y7, .int .i64 y8, .slice yp0 yl0 yq0, .slice yp1 yl1 yq1, .slice yp2 yl2 yq2, .int .i64 y9, .int .i64 y10, .bool yb] (0, 0) (.struct _) rfl R7 Tryz.underlying34 rfl (by rw [size_WR]; rfl), hT⟩
end Go.Proofs.YtfafbojaeedhfaaGreat
