/- Walks of sums of bytes: the specification's l1Add and AddBytes, the program's AddBytes. -/
import Derived.Test.YteelhafnkkfcbagWBytes
import Derived.Deep.RegionLaw
namespace Go.Proofs.Yteelhafnkkfcbag
open Go.RowKit F256

theorem u8_xor_cast {x y : Nat} (hx : x < 256) (hy : y < 256) : bits .xor .u8 (x : Int) (y : Int) = ((x ^^^ y : Nat) : Int) := u8_xor_nat x y hx hy

set_option maxHeartbeats 1000000 in
theorem l1Add_any (v1 v2 : Value) (n : Nat) (f1 f2 g : Nat → Nat) (h1 h2 : Nat) (w : World) (r1 : Rd w h1 v1 n f1) (r2 : Rd w h2 v2 n f2) (b1 : h1 ≤ w.heap.size) (b2 : h2 ≤ w.heap.size)
    (k1 : ∀ i, f1 i < 256) (k2 : ∀ i, f2 i < 256) (hg : ∀ i, i < n → g i = f1 i ^^^ f2 i) (hn : n ≤ 1000000000) :
    Calls Try.prog 29 #[v1, v2] w fun e w' => ∃ v', e = .returned v' ∧ Own w' w.heap.size w'.heap.size v' n g ∧ Below w.heap.size w w' := by
  obtain ⟨ao, cap, rfl, hm, hc⟩ := r1
  obtain ⟨ao2, cap2, rfl, _, hc2⟩ := r2
  have HG : Hid (∀ i, i < n → g i = f1 i ^^^ f2 i) := hg
  clear hg
  go_enter Try.func29, Try.ntmps29
  go_wp2
  go_loopw [5, 6] (fun v i wr => ∃ k : Nat, k ≤ n ∧ i = .int .i64 k ∧ Own wr w.heap.size wr.heap.size v k g ∧ Below w.heap.size w wr) (fun _ i _ => n - (intOf i).toNat)
  case atStart => exact ⟨0, Nat.zero_le _, rfl, own_lit0 w g, (Below.refl _ _).alloc (Nat.le_refl _) _⟩
  case round =>
    obtain ⟨k, hk, rfl, hown, hb⟩ := hrel
    by_cases hlt : k < n
    · obtain ⟨b, off, rfl, hblt, hcell⟩ := hc (by omega)
      obtain ⟨b2, off2, rfl, hblt2, hcell2⟩ := hc2 (by omega)
      have hck : wr.cell? ⟨b, off + k, none⟩ = some (.int .u8 (f1 k)) := (hb.cell (p := ⟨b, off + k, none⟩) (by show b < w.heap.size; omega)).trans (hcell k hlt)
      have hck2 : wr.cell? ⟨b2, off2 + k, none⟩ = some (.int .u8 (f2 k)) := (hb.cell (p := ⟨b2, off2 + k, none⟩) (by show b2 < w.heap.size; omega)).trans (hcell2 k hlt)
      have hx : bits .xor .u8 (f1 k : Int) (f2 k : Int) = ((g k : Nat) : Int) := by rw [u8_xor_cast (k1 k) (k2 k), HG.out k hlt]
      have hsz := hb.size
      clear hc hc2 hcell hcell2
      go_wp2
      go_region_law (refine step_appendB rfl (.tmp 14) (.tmp 24) rfl w.heap.size wr.heap.size u5 k g ?_ ?_ wr.heap.size 1 ?_ ?_ ?_ ?_ ?_; (simp [Act.eval]); exact hown.alloc _; (simp [Act.eval]); simp; omega; (simp; omega); intro v' w1 hown1 hb1)
      all_goals
        have R := ((hb.alloc hsz _).drew).trans hb1
        clear hb1 hb hown
        go_wp2
        go_roundw
        case rel => exact ⟨k + 1, by omega, by go_num, hown1, R⟩
        case measure => simp [intOf]; omega
    · have hkn : k = n := by omega
      subst hkn
      go_wp2
      go_ret
      exact ⟨_, rfl, hown, hb⟩

/-- the answers of AddBytes -/
theorem specAdd_form (v1 v2 : Value) (n m : Nat) (f1 f2 : Nat → Nat) (h1 h2 : Nat) (w : World) (r1 : Rd w h1 v1 n f1) (r2 : Rd w h2 v2 m f2) (hne : n ≠ m) :
    Calls Try.prog 15 #[v1, v2] w fun e w' => ∃ v', e = .returned (bytesR 1 v') ∧ Own w' w.heap.size w'.heap.size v' 0 (fun _ => 0) ∧ Below w.heap.size w w' := by
  obtain ⟨ao, cap, rfl, hm, hc⟩ := r1
  obtain ⟨ao2, cap2, rfl, hm2, hc2⟩ := r2
  clear hc hc2
  unfold maxLen at hm hm2
  have ht : ((n : Int) != (m : Int)) = true := by simp; omega
  go_enter Try.func15, Try.ntmps15
  go_wp2
  exact bodyPost_ret (v := bytesR 1 (.slice none 0 0)) (by simp [results, Try.results15, go_sem, bytesR]) rfl ⟨_, rfl, own_nil _ _ _ _, (Below.refl _ _).alloc (Nat.le_refl _) _⟩
theorem implAdd_form (v1 v2 : Value) (n m : Nat) (f1 f2 : Nat → Nat) (h1 h2 : Nat) (w : World) (r1 : Rd w h1 v1 n f1) (r2 : Rd w h2 v2 m f2) (hne : n ≠ m) :
    Calls Try.prog 17 #[v1, v2] w fun e w' => ∃ v', e = .returned (bytesR 1 v') ∧ Own w' w.heap.size w'.heap.size v' 0 (fun _ => 0) ∧ Below w.heap.size w w' := by
  obtain ⟨ao, cap, rfl, hm, hc⟩ := r1
  obtain ⟨ao2, cap2, rfl, hm2, hc2⟩ := r2
  clear hc hc2
  unfold maxLen at hm hm2
  have ht : ((n : Int) != (m : Int)) = true := by simp; omega
  go_enter Try.func17, Try.ntmps17
  go_wp2
  exact bodyPost_ret (v := bytesR 1 (.slice none 0 0)) (by simp [results, Try.results17, go_sem, bytesR]) rfl ⟨_, rfl, own_nil _ _ _ _, (Below.refl _ _).alloc (Nat.le_refl _) _⟩
theorem specAdd_many (v1 v2 : Value) (n : Nat) (f1 f2 : Nat → Nat) (h1 h2 : Nat) (w : World) (r1 : Rd w h1 v1 n f1) (r2 : Rd w h2 v2 n f2) (hn : 4000 < n) :
    Calls Try.prog 15 #[v1, v2] w fun e w' => ∃ v', e = .returned (bytesR 2 v') ∧ Own w' w.heap.size w'.heap.size v' 0 (fun _ => 0) ∧ Below w.heap.size w w' := by
  obtain ⟨ao, cap, rfl, hm, hc⟩ := r1
  obtain ⟨ao2, cap2, rfl, hm2, hc2⟩ := r2
  clear hc hc2
  unfold maxLen at hm hm2
  go_enter Try.func15, Try.ntmps15
  go_wp2
  exact bodyPost_ret (v := bytesR 2 (.slice none 0 0)) (by simp [results, Try.results15, go_sem, bytesR]) rfl ⟨_, rfl, own_nil _ _ _ _, (Below.refl _ _).alloc (Nat.le_refl _) _⟩
theorem implAdd_many (v1 v2 : Value) (n : Nat) (f1 f2 : Nat → Nat) (h1 h2 : Nat) (w : World) (r1 : Rd w h1 v1 n f1) (r2 : Rd w h2 v2 n f2) (hn : 4000 < n) :
    Calls Try.prog 17 #[v1, v2] w fun e w' => ∃ v', e = .returned (bytesR 2 v') ∧ Own w' w.heap.size w'.heap.size v' 0 (fun _ => 0) ∧ Below w.heap.size w w' := by
  obtain ⟨ao, cap, rfl, hm, hc⟩ := r1
  obtain ⟨ao2, cap2, rfl, hm2, hc2⟩ := r2
  clear hc hc2
  unfold maxLen at hm hm2
  go_enter Try.func17, Try.ntmps17
  go_wp2
  exact bodyPost_ret (v := bytesR 2 (.slice none 0 0)) (by simp [results, Try.results17, go_sem, bytesR]) rfl ⟨_, rfl, own_nil _ _ _ _, (Below.refl _ _).alloc (Nat.le_refl _) _⟩

theorem specAdd_ok (v1 v2 : Value) (n : Nat) (f1 f2 g : Nat → Nat) (h1 h2 : Nat) (w : World) (r1 : Rd w h1 v1 n f1) (r2 : Rd w h2 v2 n f2) (b1 : h1 ≤ w.heap.size) (b2 : h2 ≤ w.heap.size)
    (k1 : ∀ i, f1 i < 256) (k2 : ∀ i, f2 i < 256) (hg : ∀ i, i < n → g i = f1 i ^^^ f2 i) (hn : n ≤ 4000) :
    Calls Try.prog 15 #[v1, v2] w fun e w' => ∃ v', e = .returned (bytesR 0 v') ∧ Own w' w.heap.size w'.heap.size v' n g ∧ Below w.heap.size w w' := by
  have hb0 : Below w.heap.size w (w.alloc (.cells #[.int .i64 0, .slice none 0 0] 32)) := (Below.refl _ _).alloc (Nat.le_refl _) _
  have C := l1Add_any v1 v2 n f1 f2 g h1 h2 _ (r1.below hb0 b1) (r2.below hb0 b2) (Nat.le_trans b1 hb0.size) (Nat.le_trans b2 hb0.size) k1 k2 hg (by omega)
  obtain ⟨ao, cap, rfl, hm, hc⟩ := r1
  obtain ⟨ao2, cap2, rfl, hm2, hc2⟩ := r2
  clear hc hc2
  clear hg
  unfold maxLen at hm hm2
  go_enter Try.func15, Try.ntmps15
  go_wp2_with (go_at_call 29; refine C.mono ?_; rintro e w1 ⟨v, rfl, hown, hb1⟩; obtain ⟨ao', cap', rfl⟩ := hown.slice; obtain ⟨hcc, hff⟩ := bcell hb1)
  exact bodyPost_ret (v := bytesR 0 (.slice ao' n cap')) (by simp [results, Try.results15, go_sem, bytesR, hcc]) rfl ⟨_, rfl, own_set2 hown, below_set2 hb1⟩

set_option maxHeartbeats 1000000 in
theorem implAdd_ok (v1 v2 : Value) (n : Nat) (f1 f2 g : Nat → Nat) (h1 h2 : Nat) (w : World) (r1 : Rd w h1 v1 n f1) (r2 : Rd w h2 v2 n f2) (b1 : h1 ≤ w.heap.size) (b2 : h2 ≤ w.heap.size)
    (k1 : ∀ i, f1 i < 256) (k2 : ∀ i, f2 i < 256) (hg : ∀ i, i < n → g i = f1 i ^^^ f2 i) (hn : n ≤ 4000) :
    Calls Try.prog 17 #[v1, v2] w fun e w' => ∃ v', e = .returned (bytesR 0 v') ∧ Own w' w.heap.size w'.heap.size v' n g ∧ Below w.heap.size w w' := by
  obtain ⟨ao, cap, rfl, hm, hc⟩ := r1
  obtain ⟨ao2, cap2, rfl, hm2, hc2⟩ := r2
  unfold maxLen at hm hm2
  have HG : Hid (∀ i, i < n → g i = f1 i ^^^ f2 i) := hg
  have HC : Hid (n ≠ 0 → ∃ b off, ao = some ⟨b, off, none⟩ ∧ b < h1 ∧ ∀ i, i < n → w.cell? ⟨b, off + i, none⟩ = some (.int .u8 (f1 i))) := hc
  have HC2 : Hid (n ≠ 0 → ∃ b off, ao2 = some ⟨b, off, none⟩ ∧ b < h2 ∧ ∀ i, i < n → w.cell? ⟨b, off + i, none⟩ = some (.int .u8 (f2 i))) := hc2
  clear hg hc hc2
  go_enter Try.func17, Try.ntmps17
  go_wp2_with (at_make; refine wp_makeB _ rfl _ _ rfl _ _ n rfl rfl rfl rfl (by omega) ?_; intro w1 hown1 hb1 hz1)
  have hown2 : Own w1 (w.heap.size + 1) w1.heap.size (.slice (some ⟨w.heap.size + 1, 0, none⟩) n n) n (fun _ => 0) := by simpa using hown1
  have hz2 : w.heap.size + 1 < w1.heap.size := by simpa using hz1
  have HB1 : Hid (Below _ _ _) := hb1
  clear hown1 hz1 hb1
  go_loopw [6, 22] (fun _ i wr => ∃ k : Nat, k ≤ n ∧ i = .int .i64 k ∧ Own wr (w.heap.size + 1) w1.heap.size (.slice (some ⟨w.heap.size + 1, 0, none⟩) n n) n (fun i => if i < k then g i else 0) ∧ Out (w.heap.size + 1) w1.heap.size w1 wr) (fun _ i _ => n - (intOf i).toNat)
  case atStart => exact ⟨0, Nat.zero_le _, rfl, hown2, Out.refl _ _ _⟩
  case round =>
    obtain ⟨k, hk, rfl, hown, hout⟩ := hrel
    have hbw : Below w.heap.size w wr := (bnew HB1.out).trans (hout.below.mono (by omega))
    by_cases hlt : k < n
    · obtain ⟨b, off, rfl, hblt, hcell⟩ := HC.out (by omega)
      obtain ⟨b', off2, rfl, hblt2, hcell2⟩ := HC2.out (by omega)
      have hck : wr.cell? ⟨b, off + k, none⟩ = some (.int .u8 (f1 k)) := (hbw.cell (p := ⟨b, off + k, none⟩) (by show b < w.heap.size; omega)).trans (hcell k hlt)
      have hck2 : wr.cell? ⟨b', off2 + k, none⟩ = some (.int .u8 (f2 k)) := (hbw.cell (p := ⟨b', off2 + k, none⟩) (by show b' < w.heap.size; omega)).trans (hcell2 k hlt)
      have hx : bits .xor .u8 (f1 k : Int) (f2 k : Int) = ((g k : Nat) : Int) := by rw [u8_xor_cast (k1 k) (k2 k), HG.out k hlt]
      have hco : wr.cell? ⟨w.heap.size + 1, k, none⟩ = some (.int .u8 (0 : Nat)) := by
        have := hown.1.cellAt k (by omega)
        rw [this, cellsOf_get _ _ _ hlt, if_neg (Nat.lt_irrefl k)]
      have hfo : wr.frozen? ⟨w.heap.size + 1, k, none⟩ = false := hown.1.frozenAt k
      have R : Own (wr.setCell ⟨w.heap.size + 1, k, none⟩ (.int .u8 (g k))) (w.heap.size + 1) w1.heap.size (.slice (some ⟨w.heap.size + 1, 0, none⟩) n n) n (fun i => if i < k + 1 then g i else 0) :=
        hown.store k (g k) hlt (fun i _ => by by_cases e : i = k <;> simp [e] <;> by_cases e' : i < k <;> simp [e'] <;> omega)
      have R2 : Out (w.heap.size + 1) w1.heap.size w1 (wr.setCell ⟨w.heap.size + 1, k, none⟩ (.int .u8 (g k))) := hout.trans (out_store wr _ _ _ k _ (Nat.le_refl _) hz2)
      clear hown hout hbw hcell hcell2
      go_wp2
      go_region
      all_goals
        go_wp2
        go_roundw
        case rel => exact ⟨k + 1, by omega, by go_num, R.drew, R2.drew⟩
        case measure => simp [intOf]; omega
    · have hkn : k = n := by omega
      subst hkn
      obtain ⟨c0, c1, z0, z1⟩ := res_cells (res_row HB1.out hout)
      go_wp2
      exact bodyPost_ret (v := bytesR 0 (.slice (some ⟨w.heap.size + 1, 0, none⟩) k k)) (by simp [results, Try.results17, go_sem, bytesR, c0, c1]) rfl
        ⟨_, rfl, own_set2 (o := .cells #[.int .i64 0, .slice none 0 0] 32) (by simpa using (hown.congr (g := g) (fun i hi => by simp [hi])).mono (Nat.le_of_eq hout.size.symm)), (hbw.setCell (Nat.le_refl _) _).setCell (Nat.le_refl _) _⟩
end Go.Proofs.Yteelhafnkkfcbag
