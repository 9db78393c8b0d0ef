/- Walks of scaled bytes: the specification's l1Scale and ScaleBytes, the program's addScaled, scaled and ScaleBytes. -/
import Derived.Test.YtdnankopblkblajWMul
import Derived.Test.YtdnankopblkblajWBytes
import Derived.Deep.RegionLaw
namespace Go.Proofs.Ytdnankopblkblaj
open Go.RowKit F256
set_option linter.unusedVariables false

theorem Chg.refl (lo hi : Nat) (w : World) : Chg lo hi w w := ⟨rfl, rfl, rfl, Nat.le_refl _, fun _ _ _ => rfl⟩
theorem Chg.drew {lo hi : Nat} {a w : World} (h : Chg lo hi a w) : Chg lo hi a w.drew := ⟨h.os, h.tape, h.output, h.size, h.block⟩

theorem productFrom_lit (a b : Nat) (ha : a < 256) (hb : b < 256) (w : World) :
    Calls Try.prog 76 #[.agg #[.int .u8 (tabN a 0), .int .u8 (tabN a 1), .int .u8 (tabN a 2), .int .u8 (tabN a 3), .int .u8 (tabN a 4), .int .u8 (tabN a 5), .int .u8 (tabN a 6), .int .u8 (tabN a 7)], .int .u8 b] w
      fun e w' => e = .returned (.int .u8 (mulN a b)) ∧ Below w.heap.size w w' := by
  have h := productFrom_any a b ha hb w
  rw [T8] at h
  exact h

set_option maxHeartbeats 1000000 in
theorem l1Scale_any (v1 : Value) (n : Nat) (f1 g : Nat → Nat) (c : Nat) (h1 : Nat) (w : World) (r1 : Rd w h1 v1 n f1) (b1 : h1 ≤ w.heap.size)
    (k1 : ∀ i, f1 i < 256) (hc : c < 256) (hg : ∀ i, i < n → g i = mulN c (f1 i)) (hn : n ≤ 1000000000) :
    Calls Try.prog 61 #[v1, .int .u8 c] w fun e w' => ∃ v', e = .returned v' ∧ Own w' w.heap.size w'.heap.size v' n g ∧ Below w.heap.size w w' := by
  obtain ⟨ao, cap, rfl, hm, hcc⟩ := r1
  have HG : Hid (∀ i, i < n → g i = mulN c (f1 i)) := hg
  clear hg
  go_enter Try.func61, Try.ntmps61
  go_wp2
  go_loopw [5, 6] (fun v i wr => ∃ k : Nat, k ≤ n ∧ i = .int .i64 k ∧ Own wr w.heap.size wr.heap.size v k g ∧ Below w.heap.size w wr) (fun _ i _ => n - (intOf i).toNat)
  case atStart => exact ⟨0, Nat.zero_le _, rfl, own_lit0 w g, (Below.refl _ _).alloc (Nat.le_refl _) _⟩
  case round =>
    obtain ⟨k, hk, rfl, hown, hb⟩ := hrel
    by_cases hlt : k < n
    · obtain ⟨b, off, rfl, hblt, hcell⟩ := hcc (by omega)
      have hck : wr.cell? ⟨b, off + k, none⟩ = some (.int .u8 (f1 k)) := (hb.cell (p := ⟨b, off + k, none⟩) (by show b < w.heap.size; omega)).trans (hcell k hlt)
      have hx : ((mulN (f1 k) c : Nat) : Int) = ((g k : Nat) : Int) := by rw [HG.out k hlt, mulN_comm (k1 k) hc]
      have hsz := hb.size
      have hfk := k1 k
      clear hcc hcell
      go_wp2_with (first | (go_at_call 74; refine (specMul_any _ _ hfk hc _).mono ?_; rintro e wx ⟨rfl, hwx⟩; obtain rfl : wr = wx := hwx.symm) | (at_builtin; refine wp_appendB rfl (.tmp 14) (.tmp 21) rfl w.heap.size wr.heap.size u5 k g ?_ ?_ wr.heap.size 1 ?_ ?_ ?_ ?_ ?_; (simp [Act.eval]); exact hown.alloc _; (simp [Act.eval]); (simp; try exact hx); omega; (simp; omega); intro v' w1 hown1 hb1))
      have R := ((hb.alloc hsz _)).trans hb1
      clear hb1 hb hown
      go_wp2
      go_roundw
      case rel => exact ⟨k + 1, by omega, by go_num, hown1, R⟩
      case measure => simp [intOf]; omega
    · have hkn : k = n := by omega
      subst hkn
      go_wp2
      go_ret
      exact ⟨_, rfl, hown, hb⟩

def tabV (c : Nat) : Array Value := #[.int .u8 (tabN c 0), .int .u8 (tabN c 1), .int .u8 (tabN c 2), .int .u8 (tabN c 3), .int .u8 (tabN c 4), .int .u8 (tabN c 5), .int .u8 (tabN c 6), .int .u8 (tabN c 7)]
theorem box8 {w : World} {b c : Nat} {t : TypeId} (h : Box w b (tabV c) t) :
    w.cell? ⟨b, 0, none⟩ = some (.int .u8 (tabN c 0)) ∧ w.cell? ⟨b, 1, none⟩ = some (.int .u8 (tabN c 1)) ∧ w.cell? ⟨b, 2, none⟩ = some (.int .u8 (tabN c 2)) ∧ w.cell? ⟨b, 3, none⟩ = some (.int .u8 (tabN c 3)) ∧
    w.cell? ⟨b, 4, none⟩ = some (.int .u8 (tabN c 4)) ∧ w.cell? ⟨b, 5, none⟩ = some (.int .u8 (tabN c 5)) ∧ w.cell? ⟨b, 6, none⟩ = some (.int .u8 (tabN c 6)) ∧ w.cell? ⟨b, 7, none⟩ = some (.int .u8 (tabN c 7)) :=
  ⟨h.cell 0, h.cell 1, h.cell 2, h.cell 3, h.cell 4, h.cell 5, h.cell 6, h.cell 7⟩

set_option maxHeartbeats 2000000 in
theorem addScaled_core (g0 cap0 n : Nat) (f l g : Nat → Nat) (c : Nat) (lo hi b off cap : Nat) (w : World) (hs : Own w lo hi (.slice (some ⟨g0, 0, none⟩) n cap0) n f) (hhi : hi ≤ w.heap.size) (hbw : b < w.heap.size) (hbo : b < lo ∨ hi ≤ b)
    (hl : ∀ i, i < n → w.cell? ⟨b, off + i, none⟩ = some (.int .u8 (l i))) (hlo : lo ≤ g0) (hgh : g0 < hi)
    (kf : ∀ i, f i < 256) (kl : ∀ i, l i < 256) (hc : c < 256) (hg : ∀ i, i < n → g i = f i ^^^ mulN c (l i)) (hn : n ≤ 1000000000) :
    Calls Try.prog 63 #[.slice (some ⟨g0, 0, none⟩) n cap0, .slice (some ⟨b, off, none⟩) n cap, .int .u8 c] w fun e w' => e = .returned (.tuple #[]) ∧ Own w' lo hi (.slice (some ⟨g0, 0, none⟩) n cap0) n g ∧ Chg lo hi w w' := by
  have HG : Hid (∀ i, i < n → g i = f i ^^^ mulN c (l i)) := hg
  have HL : Hid (∀ i, i < n → w.cell? ⟨b, off + i, none⟩ = some (.int .u8 (l i))) := hl
  clear hg hl
  go_enter Try.func63, Try.ntmps63
  go_wp2_with (go_at_call 75; refine (doublings_any _ hc _).mono ?_; rintro e w1 ⟨rfl, hb1⟩; rw [T8])
  have hz1 := hb1.size
  have hbx : Box (w1.alloc (.cells (tabV c) 89)) w1.heap.size (tabV c) 89 := box_new _ _ _
  have hch : Chg lo hi w (w1.alloc (.cells (tabV c) 89)) := (Below.chg hb1 lo hi).trans (Below.chg ((Below.refl _ _).alloc (Nat.le_refl _) _) lo hi)
  have hown0 := (hs.below hb1 hhi).alloc (.cells (tabV c) 89)
  have hzz : w1.heap.size < (w1.alloc (.cells (tabV c) 89)).heap.size := by simp
  go_loopw [7, 12] (fun _ i wr => ∃ k : Nat, k ≤ n ∧ i = .int .i64 k ∧ Own wr lo hi (.slice (some ⟨g0, 0, none⟩) n cap0) n (fun i => if i < k then g i else f i) ∧ Chg lo hi w wr ∧ Box wr w1.heap.size (tabV c) 89) (fun _ i _ => n - (intOf i).toNat)
  case atStart => exact ⟨0, Nat.zero_le _, rfl, hown0, hch, hbx⟩
  case round =>
    clear hbx hch hown0 hzz
    obtain ⟨k, hk, rfl, hown, hchg, hbox⟩ := hrel
    by_cases hlt : k < n
    · have hck : wr.cell? ⟨b, off + k, none⟩ = some (.int .u8 (l k)) := (World.cell?_of_block (hchg.block b hbw hbo)).trans (HL.out k hlt)
      have hco : wr.cell? ⟨g0, k, none⟩ = some (.int .u8 (f k)) := by
        have := hown.1.cellAt k (by omega)
        rw [this, cellsOf_get _ _ _ hlt, if_neg (Nat.lt_irrefl k)]
      have hfo : wr.frozen? ⟨g0, k, none⟩ = false := hown.1.frozenAt k
      have hlk := kl k
      have hx : bits .xor .u8 (f k : Int) (mulN c (l k) : Int) = ((g k : Nat) : Int) := by rw [u8_xor_nat _ _ (kf k) (mulN_lt hc), HG.out k hlt]
      obtain ⟨e0, e1, e2, e3, e4, e5, e6, e7⟩ := box8 hbox
      have hzr := hchg.size
      have hbz := hbox.lt
      have y1 : b < wr.heap.size := by omega
      have y2 : g0 < wr.heap.size := by omega
      go_wp2
      go_region_with (go_at_call 76; refine (productFrom_lit _ _ hc hlk _).mono ?_; rintro e w2 ⟨rfl, hb2⟩; have q1 : w2.cell? ⟨g0, k, none⟩ = some (.int .u8 (f k)) := (hb2.cell (p := ⟨g0, k, none⟩) y2).trans hco; have q2 : w2.frozen? ⟨g0, k, none⟩ = false := (hb2.frozen (p := ⟨g0, k, none⟩) y2).trans hfo)
      all_goals
        have hown2 : Own w2 lo hi (.slice (some ⟨g0, 0, none⟩) n cap0) n (fun i => if i < k then g i else f i) := hown.drew.below hb2 (by show hi ≤ wr.heap.size; omega)
        have R : Own (w2.setCell ⟨g0, k, none⟩ (.int .u8 (g k))) lo hi (.slice (some ⟨g0, 0, none⟩) n cap0) n (fun i => if i < k + 1 then g i else f i) :=
          hown2.store k (g k) hlt (fun i _ => by by_cases e : i = k <;> simp [e] <;> by_cases e' : i < k <;> simp [e'] <;> omega)
        have C2 : Chg lo hi wr.drew (w2.setCell ⟨g0, k, none⟩ (.int .u8 (g k))) := (Below.chg hb2 lo hi).trans (out_store w2 lo hi g0 k _ hlo hgh).chg
        have R2 : Chg lo hi w (w2.setCell ⟨g0, k, none⟩ (.int .u8 (g k))) := hchg.drew.trans C2
        have R3 : Box (w2.setCell ⟨g0, k, none⟩ (.int .u8 (g k))) w1.heap.size (tabV c) 89 := Box.chg (w := wr.drew) hbox C2 (.inr (by omega))
        clear hown hown2 hchg hbox hb2 C2 e0 e1 e2 e3 e4 e5 e6 e7
        go_wp2
        go_roundw
        case rel => exact ⟨k + 1, by omega, by go_num, R, R2, R3⟩
        case measure => simp [intOf]; omega
    · have hkn : k = n := by omega
      subst hkn
      go_wp2
      go_end0
      exact ⟨rfl, hown.congr (fun i hi => by simp [hi]), hchg⟩

theorem addScaled_nil (v1 v2 : Value) (f l : Nat → Nat) (c : Nat) (hi h2 : Nat) (w : World) (r1 : Rd w hi v1 0 f) (r2 : Rd w h2 v2 0 l) (hc : c < 256) :
    Calls Try.prog 63 #[v1, v2, .int .u8 c] w fun e w' => e = .returned (.tuple #[]) ∧ Below w.heap.size w w' := by
  obtain ⟨ao, cap, rfl, hm, hcc⟩ := r1
  obtain ⟨ao2, cap2, rfl, hm2, hcc2⟩ := r2
  clear hcc hcc2
  go_enter Try.func63, Try.ntmps63
  go_wp2_with (go_at_call 75; refine (doublings_any _ hc _).mono ?_; rintro e w1 ⟨rfl, hb1⟩; rw [T8])
  have R : Below w.heap.size w (w1.alloc (.cells (tabV c) 89)) := hb1.alloc hb1.size _
  go_loopw [7, 12] (fun _ i wr => i = .int .i64 0 ∧ wr = w1.alloc (.cells (tabV c) 89)) (fun _ _ _ => 0)
  case atStart => exact ⟨rfl, rfl⟩
  case round =>
    obtain ⟨rfl, rfl⟩ := hrel
    go_wp2
    go_end0
    exact ⟨rfl, R⟩
/-- sums, each with its list's byte scaled by c: the list lies apart from the sums -/
theorem addScaled_any (v1 v2 : Value) (n : Nat) (f l g : Nat → Nat) (c : Nat) (lo hi h2 : Nat) (w : World) (hs : Own w lo hi v1 n f) (hhi : hi ≤ w.heap.size) (hr : Rd w h2 v2 n l) (hsep : h2 ≤ lo) (h2w : h2 ≤ w.heap.size)
    (kf : ∀ i, f i < 256) (kl : ∀ i, l i < 256) (hc : c < 256) (hg : ∀ i, i < n → g i = f i ^^^ mulN c (l i)) (hn : n ≤ 1000000000) :
    Calls Try.prog 63 #[v1, v2, .int .u8 c] w fun e w' => e = .returned (.tuple #[]) ∧ Own w' lo hi v1 n g ∧ Chg lo hi w w' := by
  by_cases h0 : n = 0
  · subst h0
    refine (addScaled_nil v1 v2 f l c hi h2 w hs.rd hr hc).mono fun e w' ⟨he, hb⟩ => ⟨he, (hs.below hb hhi).congr (fun i hi => by omega), Below.chg hb lo hi⟩
  · obtain ⟨g0, cap0, rfl, h1, h2', h3, h4⟩ := hs.form h0
    obtain ⟨ao, cap, rfl, hm, hcc⟩ := hr
    obtain ⟨b, off, rfl, hlt, hcell⟩ := hcc h0
    exact addScaled_core g0 cap0 n f l g c lo hi b off cap w hs hhi (by omega) (.inl (by omega)) hcell h1 h2' kf kl hc hg hn

theorem scaled_any (v1 : Value) (n : Nat) (f1 g : Nat → Nat) (c : Nat) (h1 : Nat) (w : World) (r1 : Rd w h1 v1 n f1) (b1 : h1 ≤ w.heap.size)
    (k1 : ∀ i, f1 i < 256) (hc : c < 256) (hg : ∀ i, i < n → g i = mulN c (f1 i)) (hn : n ≤ 1000000000) :
    Calls Try.prog 85 #[v1, .int .u8 c] w fun e w' => ∃ v', e = .returned v' ∧ Own w' w.heap.size w'.heap.size v' n g ∧ Below w.heap.size w w' := by
  have R1 := fun (w1 : World) (hb : Below w.heap.size w w1) => r1.below hb b1
  obtain ⟨ao, cap, rfl, hm, hcc⟩ := r1
  clear hcc
  have HG : Hid (∀ i, i < n → g i = 0 ^^^ mulN c (f1 i)) := fun i hi => by rw [hg i hi, Nat.zero_xor]
  clear hg
  go_enter Try.func85, Try.ntmps85
  go_wp2_with (first | (at_make; refine wp_makeB _ rfl _ _ rfl _ _ n rfl rfl rfl rfl (by omega) ?_; intro w1 hown1 hb1 hz1) | (go_at_call 63; refine (addScaled_any _ _ n _ f1 g c w.heap.size w1.heap.size h1 _ hown1 (Nat.le_refl _) (R1 _ hb1) b1 (by omega) (fun _ => Nat.zero_lt_succ _) k1 hc HG.out hn).mono ?_; rintro e w2 ⟨rfl, hown2, hchg⟩))
  go_ret
  exact ⟨_, rfl, hown2.mono hchg.size, hb1.trans (hchg.below (Nat.le_refl _) (by omega))⟩
end Go.Proofs.Ytdnankopblkblaj
