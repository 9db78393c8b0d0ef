/- Rows of four bytes each that lie behind one another in one block of the call's own; adding to one of them, marking one of them. -/
import Derived.Test.YtoadjpacchhleahWRowD
import Derived.Test.YtoadjpacchhleahWBlocks
namespace Go.Proofs.Ytoadjpacchhleah
open Go.RowKit F256
set_option linter.unusedVariables false
set_option linter.unusedSimpArgs false

/-- the row i of four bytes in the block h -/
def rowAt (h i : Nat) : Value := .slice (some ⟨h, 4 * i, none⟩) 4 4
/-- R rows of four bytes, the row i at 4 i in the block h; their slices in the block g -/
structure FlatE (w : World) (lo hi : Nat) (v : Value) (R : Nat) (f : Mat) (g cap h C : Nat) : Prop where
  val : v = .slice (some ⟨g, 0, none⟩) R cap
  low : lo ≤ g
  high : g < hi
  row : w.ownsRow lo 23 1 v R (valsOf R (rowAt h))
  flat : Own w h (h + 1) (.slice (some ⟨h, 0, none⟩) (4 * R) C) (4 * R) (joinN f)
  hlow : lo ≤ h
  hhigh : h < hi
  ne : h ≠ g

theorem FlatE.blocks {w : World} {lo hi : Nat} {v : Value} {R : Nat} {f : Mat} {g cap h C : Nat} (H : FlatE w lo hi v R f g cap h C) : g < w.heap.size ∧ h < w.heap.size := by
  refine ⟨?_, (H.flat.1.lt h rfl).2⟩
  have h1 := H.row
  rw [H.val] at h1
  exact (h1.lt g rfl).2
theorem FlatE.kept {w w' : World} {lo hi : Nat} {v : Value} {R : Nat} {f : Mat} {g cap h C : Nat} (H : FlatE w lo hi v R f g cap h C) (h1 : w'.heap[g]? = w.heap[g]?) (h2 : w'.heap[h]? = w.heap[h]?) : FlatE w' lo hi v R f g cap h C := by
  refine ⟨H.val, H.low, H.high, row_kept H.row fun q hq => ?_, H.flat.kept fun q hq => ?_, H.hlow, H.hhigh, H.ne⟩
  · rw [H.val] at hq
    have e1 : g = q := by simpa [Value.ownBlock] using hq
    subst e1
    exact h1
  · have e1 : h = q := by simpa [Value.ownBlock] using hq
    subst e1
    exact h2
theorem FlatE.below {w w' : World} {lo hi B : Nat} {v : Value} {R : Nat} {f : Mat} {g cap h C : Nat} (H : FlatE w lo hi v R f g cap h C) (hb : Below B w w') (hB : hi ≤ B) : FlatE w' lo hi v R f g cap h C :=
  H.kept (hb.block g (by have := H.high; omega)) (hb.block h (by have := H.hhigh; omega))
theorem FlatE.chg {w w' : World} {lo hi lo' hi' : Nat} {v : Value} {R : Nat} {f : Mat} {g cap h C : Nat} (H : FlatE w lo hi v R f g cap h C) (hb : Chg lo' hi' w w') (hB : hi ≤ lo' ∨ hi' ≤ lo) : FlatE w' lo hi v R f g cap h C := by
  have b := H.blocks
  have h1 := H.high
  have h2 := H.hhigh
  have h3 := H.low
  have h4 := H.hlow
  exact H.kept (hb.block g b.1 (by omega)) (hb.block h b.2 (by omega))
theorem FlatE.alloc {w : World} {lo hi : Nat} {v : Value} {R : Nat} {f : Mat} {g cap h C : Nat} (H : FlatE w lo hi v R f g cap h C) (o : Obj) : FlatE (w.alloc o) lo hi v R f g cap h C :=
  H.kept (Below.heap_alloc w o g H.blocks.1) (Below.heap_alloc w o h H.blocks.2)
theorem FlatE.weaken {w : World} {lo hi lo' hi' : Nat} {v : Value} {R : Nat} {f : Mat} {g cap h C : Nat} (H : FlatE w lo hi v R f g cap h C) (h1 : lo' ≤ lo) (h2 : hi ≤ hi') : FlatE w lo' hi' v R f g cap h C :=
  ⟨H.val, Nat.le_trans h1 H.low, Nat.lt_of_lt_of_le H.high h2, row_weaken H.row h1, H.flat, Nat.le_trans h1 H.hlow, Nat.lt_of_lt_of_le H.hhigh h2, H.ne⟩
theorem FlatE.cell {w : World} {lo hi : Nat} {v : Value} {R : Nat} {f : Mat} {g cap h C : Nat} (H : FlatE w lo hi v R f g cap h C) (i : Nat) (hi : i < R) : w.cell? ⟨g, i, none⟩ = some (rowAt h i) := by
  have hr := H.row
  rw [H.val] at hr
  rw [hr.cellAt i (by omega), valsOf_get R _ i hi]
theorem FlatE.at {w : World} {lo hi : Nat} {v : Value} {R : Nat} {f : Mat} {g cap h C : Nat} (H : FlatE w lo hi v R f g cap h C) (i j : Nat) (hi : i < R) (hj : j < 4) : w.cell? ⟨h, 4 * i + j, none⟩ = some (.int .u8 (f i j)) := by
  rw [H.flat.1.cellAt (4 * i + j) (by omega), cellsOf_get _ _ _ (by omega), joinN_at f i j hj]
theorem FlatE.le {w : World} {lo hi : Nat} {v : Value} {R : Nat} {f : Mat} {g cap h C : Nat} (H : FlatE w lo hi v R f g cap h C) : R ≤ maxLen := by
  rcases H.row.2 with ⟨h1, h2⟩ | ⟨g', cap', cur, h1, _, _, hnc, hcm, _⟩
  · rw [h2]; exact Nat.zero_le _
  · omega
theorem FlatE.rdRow {w : World} {lo hi : Nat} {v : Value} {R : Nat} {f : Mat} {g cap h C : Nat} (H : FlatE w lo hi v R f g cap h C) (i : Nat) (hR : i < R) : Rd w hi (rowAt h i) 4 (f i) :=
  ⟨_, _, rfl, by unfold maxLen; omega, fun _ => ⟨h, 4 * i, rfl, H.hhigh, fun j hj => H.at i j hR hj⟩⟩
theorem FlatE.rd {w : World} {lo hi : Nat} {v : Value} {R : Nat} {f : Mat} {g cap h C : Nat} (H : FlatE w lo hi v R f g cap h C) : RdM w hi v R (fun _ => 4) f :=
  ⟨_, cap, rowAt h, H.val, H.le, fun _ => ⟨g, 0, rfl, H.high, fun i hi => by rw [Nat.zero_add]; exact H.cell i hi⟩, fun i hi => H.rdRow i hi⟩
/-- the bytes have turned, nothing else -/
theorem FlatE.set {w w' : World} {lo hi : Nat} {v : Value} {R : Nat} {f f' : Mat} {g cap h C : Nat} (H : FlatE w lo hi v R f g cap h C) (hf : Own w' h (h + 1) (.slice (some ⟨h, 0, none⟩) (4 * R) C) (4 * R) (joinN f')) (hc : Chg h (h + 1) w w') : FlatE w' lo hi v R f' g cap h C := by
  have b := H.blocks
  have hne := H.ne
  refine ⟨H.val, H.low, H.high, row_kept H.row fun q hq => ?_, hf, H.hlow, H.hhigh, H.ne⟩
  rw [H.val] at hq
  have e1 : g = q := by simpa [Value.ownBlock] using hq
  subst e1
  exact hc.block g b.1 (by omega)

/-- sums in a part of a block of the call's own, each with its list's byte scaled by c: the list lies apart from that part -/
theorem keep_cell {h C N off n b off2 lo hi : Nat} {F G : Nat → Nat} {l : Nat → Nat} {w wr : World} (hs : Own w lo hi (.slice (some ⟨h, 0, none⟩) N C) N F) (hbw : b < w.heap.size) (hoff2 : b = h → off2 + n ≤ N)
    (hbo : (b < lo ∨ hi ≤ b) ∨ (b = h ∧ (off2 + n ≤ off ∨ off + n ≤ off2))) {k : Nat} (hk : k < n) (hl : w.cell? ⟨b, off2 + k, none⟩ = some (.int .u8 (l k)))
    (hw : Own wr lo hi (.slice (some ⟨h, 0, none⟩) N C) N (fun i => if off ≤ i ∧ i < off + k then G i else F i)) (hc : Chg lo hi w wr) : wr.cell? ⟨b, off2 + k, none⟩ = some (.int .u8 (l k)) := by
  rcases hbo with hbo | ⟨rfl, hbo⟩
  · exact (World.cell?_of_block (hc.block b hbw hbo)).trans hl
  · have hN := hoff2 rfl
    rw [hs.1.cellAt (off2 + k) (by omega), cellsOf_get _ _ _ (by omega)] at hl
    rw [hw.1.cellAt (off2 + k) (by omega), cellsOf_get _ _ _ (by omega), if_neg (by omega)]
    exact hl

set_option maxHeartbeats 2000000 in
theorem addScaled_at (h C N off n : Nat) (F l G : Nat → Nat) (c : Nat) (lo hi b off2 cap0 cap : Nat) (w : World) (hs : Own w lo hi (.slice (some ⟨h, 0, none⟩) N C) N F) (hoff : off + n ≤ N) (hhi : hi ≤ w.heap.size) (hbw : b < w.heap.size) (hoff2 : b = h → off2 + n ≤ N)
    (hbo : (b < lo ∨ hi ≤ b) ∨ (b = h ∧ (off2 + n ≤ off ∨ off + n ≤ off2)))
    (hl : ∀ i, i < n → w.cell? ⟨b, off2 + i, none⟩ = some (.int .u8 (l i))) (hlo : lo ≤ h) (hgh : h < hi)
    (kf : ∀ i, F i < 256) (kl : ∀ i, l i < 256) (hc : c < 256) (hg : ∀ i, i < N → G i = if off ≤ i ∧ i < off + n then F i ^^^ mulN c (l (i - off)) else F i) (hn : n ≤ 1000000000) :
    Calls Try.prog 38 #[.slice (some ⟨h, off, none⟩) n cap0, .slice (some ⟨b, off2, none⟩) n cap, .int .u8 c] w fun e w' => e = .returned (.tuple #[]) ∧ Own w' lo hi (.slice (some ⟨h, 0, none⟩) N C) N G ∧ Chg lo hi w w' := by
  have HG : Hid (∀ i, i < N → G i = if off ≤ i ∧ i < off + n then F i ^^^ mulN c (l (i - off)) else F i) := hg
  have KC : Hid (∀ (wr : World) (k : Nat), k < n → Own wr lo hi (.slice (some ⟨h, 0, none⟩) N C) N (fun i => if off ≤ i ∧ i < off + k then G i else F i) → Chg lo hi w wr → wr.cell? ⟨b, off2 + k, none⟩ = some (.int .u8 (l k))) := fun wr k hk hw hch => keep_cell hs hbw hoff2 hbo hk (hl k hk) hw hch
  clear hg hl hbo hoff2
  go_enter Try.func38, Try.ntmps38
  go_wp2_with (go_at_call 61; refine (doublings_any _ hc _).mono ?_; rintro e w1 ⟨rfl, hb1⟩; rw [T8])
  have hz1 := hb1.size
  have hbx : Box (w1.alloc (.cells (tabV c) 68)) w1.heap.size (tabV c) 68 := box_new _ _ _
  have hch : Chg lo hi w (w1.alloc (.cells (tabV c) 68)) := (Below.chg hb1 lo hi).trans (Below.chg ((Below.refl _ _).alloc (Nat.le_refl _) _) lo hi)
  have hown0 := ((hs.below hb1 hhi).alloc (.cells (tabV c) 68)).congr (g := fun i => if off ≤ i ∧ i < off + 0 then G i else F i) (fun i hi => by rw [if_neg (by omega)])
  have hzz : w1.heap.size < (w1.alloc (.cells (tabV c) 68)).heap.size := by simp
  go_loopw [7, 12] (fun _ i wr => ∃ k : Nat, k ≤ n ∧ i = .int .i64 k ∧ Own wr lo hi (.slice (some ⟨h, 0, none⟩) N C) N (fun i => if off ≤ i ∧ i < off + k then G i else F i) ∧ Chg lo hi w wr ∧ Box wr w1.heap.size (tabV c) 68) (fun _ i _ => n - (intOf i).toNat)
  case atStart => exact ⟨0, Nat.zero_le _, rfl, hown0, hch, hbx⟩
  case round =>
    clear hbx hch hown0 hzz
    obtain ⟨k, hk, rfl, hown, hchg, hbox⟩ := hrel
    by_cases hlt : k < n
    · have hck : wr.cell? ⟨b, off2 + k, none⟩ = some (.int .u8 (l k)) := KC.out wr k hlt hown hchg
      have hco : wr.cell? ⟨h, off + k, none⟩ = some (.int .u8 (F (off + k))) := by
        have := hown.1.cellAt (off + k) (by omega)
        rw [this, cellsOf_get _ _ _ (by omega), if_neg (by omega)]
      have hfo : wr.frozen? ⟨h, off + k, none⟩ = false := hown.1.frozenAt (off + k)
      have hlk := kl k
      have hx : bits .xor .u8 (F (off + k) : Int) (mulN c (l k) : Int) = ((G (off + k) : Nat) : Int) := by rw [u8_xor_nat _ _ (kf _) (mulN_lt hc), HG.out (off + k) (by omega), if_pos ⟨by omega, by omega⟩, show off + k - off = k by omega]
      obtain ⟨e0, e1, e2, e3, e4, e5, e6, e7⟩ := box8 hbox
      have hzr := hchg.size
      have hbz := hbox.lt
      have y1 : b < wr.heap.size := by omega
      have y2 : h < wr.heap.size := by omega
      have hoN : off + k < N := by omega
      go_wp2
      go_region_with (go_at_call 62; refine (productFrom_lit _ _ hc hlk _).mono ?_; rintro e w2 ⟨rfl, hb2⟩; have q1 : w2.cell? ⟨h, off + k, none⟩ = some (.int .u8 (F (off + k))) := (hb2.cell (p := ⟨h, off + k, none⟩) y2).trans hco; have q2 : w2.frozen? ⟨h, off + k, none⟩ = false := (hb2.frozen (p := ⟨h, off + k, none⟩) y2).trans hfo)
      all_goals
        have hown2 : Own w2 lo hi (.slice (some ⟨h, 0, none⟩) N C) N (fun i => if off ≤ i ∧ i < off + k then G i else F i) := hown.drew.below hb2 (by show hi ≤ wr.heap.size; omega)
        have R : Own (w2.setCell ⟨h, off + k, none⟩ (.int .u8 (G (off + k)))) lo hi (.slice (some ⟨h, 0, none⟩) N C) N (fun i => if off ≤ i ∧ i < off + (k + 1) then G i else F i) :=
          hown2.store (off + k) (G (off + k)) hoN (fun i _ => by
            by_cases e : i = off + k
            · subst e
              rw [if_pos rfl, if_pos ⟨by omega, by omega⟩]
            · rw [if_neg e]
              by_cases e' : off ≤ i ∧ i < off + k
              · rw [if_pos e', if_pos ⟨e'.1, by omega⟩]
              · rw [if_neg e', if_neg (by omega)])
        have C2 : Chg lo hi wr.drew (w2.setCell ⟨h, off + k, none⟩ (.int .u8 (G (off + k)))) := (Below.chg hb2 lo hi).trans (out_store w2 lo hi h (off + k) _ hlo hgh).chg
        have R2 : Chg lo hi w (w2.setCell ⟨h, off + k, none⟩ (.int .u8 (G (off + k)))) := hchg.drew.trans C2
        have R3 : Box (w2.setCell ⟨h, off + k, none⟩ (.int .u8 (G (off + k)))) w1.heap.size (tabV c) 68 := Box.chg (w := wr.drew) hbox C2 (.inr (by omega))
        clear hown hown2 hchg hbox hb2 C2 e0 e1 e2 e3 e4 e5 e6 e7
        go_wp2
        go_roundw
        case rel => exact ⟨k + 1, by omega, by go_num, R, R2, R3⟩
        case measure => simp [intOf]; omega
    · have hkn : k = n := by omega
      subst hkn
      have hfin := hown.congr (g := G) (fun i hi => by
        by_cases e' : off ≤ i ∧ i < off + k
        · rw [if_pos e']
        · rw [if_neg e', HG.out i hi, if_neg e'])
      clear hown
      go_wp2
      go_end0
      exact ⟨rfl, hfin, hchg⟩

set_option maxHeartbeats 1000000 in
theorem markByteS_at (h C N off n cap0 : Nat) (F : Nat → Nat) (lo hi : Nat) (j : Nat) (hj : j ≤ 1000000000) (hn : n ≤ 1000000000) (w : World) (hs : Own w lo hi (.slice (some ⟨h, 0, none⟩) N C) N F) (hoff : off + n ≤ N) (hlo : lo ≤ h) (hhi : h < hi) :
    Calls Try.prog 18 #[.slice (some ⟨h, off, none⟩) n cap0, .int .i64 j] w fun e w' => e = .returned (.int .i64 ((j + n : Nat) : Int)) ∧ Own w' lo hi (.slice (some ⟨h, 0, none⟩) N C) N (fun i => if off ≤ i ∧ i < off + n then marks j (i - off) else F i) ∧ Out lo hi w w' := by
  go_enter Try.func18, Try.ntmps18
  go_wp2
  have hs0 := hs.congr (g := fun i => if off ≤ i ∧ i < off + 0 then marks j (i - off) else F i) (fun i hi => by rw [if_neg (by omega)])
  clear hs
  go_loopw [1, 5] (fun x i wr => ∃ k : Nat, k ≤ n ∧ i = .int .i64 k ∧ x = .int .i64 ((j + k : Nat) : Int) ∧ Own wr lo hi (.slice (some ⟨h, 0, none⟩) N C) N (fun i => if off ≤ i ∧ i < off + k then marks j (i - off) else F i) ∧ Out lo hi w wr) (fun _ i _ => n - (intOf i).toNat)
  case atStart => exact ⟨0, Nat.zero_le _, rfl, rfl, hs0, Out.refl _ _ _⟩
  case round =>
    clear hs0
    obtain ⟨k, hk, rfl, rfl, hown, hout⟩ := hrel
    by_cases hlt : k < n
    · have hco : ∃ u, wr.cell? ⟨h, off + k, none⟩ = some u := by
        have := hown.1.cellAt (off + k) (by omega)
        exact ⟨_, by rw [this, cellsOf_get _ _ _ (by omega)]⟩
      obtain ⟨u, hco⟩ := hco
      have hfo : wr.frozen? ⟨h, off + k, none⟩ = false := hown.1.frozenAt (off + k)
      have R : Own (wr.setCell ⟨h, off + k, none⟩ (.int .u8 (marks j k))) lo hi (.slice (some ⟨h, 0, none⟩) N C) N (fun i => if off ≤ i ∧ i < off + (k + 1) then marks j (i - off) else F i) :=
        hown.store (off + k) (marks j k) (by omega) (fun i _ => by
          by_cases e : i = off + k
          · subst e
            rw [if_pos rfl, if_pos ⟨by omega, by omega⟩, show off + k - off = k by omega]
          · rw [if_neg e]
            by_cases e' : off ≤ i ∧ i < off + k
            · rw [if_pos e', if_pos ⟨e'.1, by omega⟩]
            · rw [if_neg e', if_neg (by omega)])
      have R2 : Out lo hi w (wr.setCell ⟨h, off + k, none⟩ (.int .u8 (marks j k))) := hout.trans (out_store wr lo hi h (off + k) _ hlo hhi)
      clear hown hout
      go_wp2
      go_roundw
      case rel => exact ⟨k + 1, by omega, by go_num, val_eq (by omega), by rw [← marks_val]; exact R, by rw [← marks_val]; exact R2⟩
      case measure => simp [intOf]; omega
    · have hkn : k = n := by omega
      subst hkn
      go_wp2
      go_ret
      exact ⟨rfl, hown, hout⟩
end Go.Proofs.Ytoadjpacchhleah
