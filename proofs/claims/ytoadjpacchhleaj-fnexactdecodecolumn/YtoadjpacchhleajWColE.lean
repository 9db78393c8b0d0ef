/- Walks of the specification's l3Share and ShareOf. -/
import Derived.Test.YtoadjpacchhleajColDefs
import Derived.Test.YtoadjpacchhleajWColD
import Derived.Test.YtoadjpacchhleajWRowH
import Derived.Test.YtoadjpacchhleajWRowF
import Derived.Test.YtoadjpacchhleajGaussW
namespace Go.Proofs.Ytoadjpacchhleaj
open Go.RowKit F256
set_option linter.unusedVariables false
set_option linter.unusedSimpArgs false

theorem l2Weights_col (n want : Nat) (vh : Value) (hv : Nat → Nat) (h1 : Nat) (w : World) (rh : RdI w h1 vh n (fun i => (hv i : Int))) (hh : h1 ≤ w.heap.size) (hn0 : 1 ≤ n) (hn : n ≤ 4) (hb : ∀ k, k < n → hv k < n + 2) (hr : ∀ k, k + 1 < n → hv k < hv (k + 1)) (hw : want < n + 2) :
    Calls Try.prog 45 #[.int .i64 n, vh, .int .i64 want, .int .i64 8] w fun e w' => ∃ v', e = .returned v' ∧ Own w' w.heap.size w'.heap.size v' n (weightsN n 8 hv want) ∧ Below w.heap.size w w' := by
  have C := l2Weights_any n 8 want vh n hv h1 w rh hh (Nat.le_refl _) hn0 (by omega) (fun k hk => by have := hb k hk; omega) (by omega)
  have e0 : ((8 : Nat) : Int) = 8 := rfl
  rw [e0] at C
  refine C.mono fun e w' ⟨v', b, k, x, he, hp, ho, hbel⟩ => ?_
  have hfull := col_full n hn0 hn hv (genN n want 8) hb hr
  have hbt : b = true := by
    cases b with
    | true => rfl
    | false => have := (hp.2 rfl).1; omega
  obtain ⟨_, hk, hx⟩ := hp.1 hbt
  subst hk
  subst hx
  exact ⟨v', he, ho, hbel⟩

set_option maxHeartbeats 4000000 in
theorem l3Share_any (n want : Nat) (vh : Value) (m : Nat) (g : Nat → Int) (hv : Nat → Nat) (l1 h1 : Nat) (w : World) (oh : OwnI w l1 h1 vh m g) (hh : h1 ≤ w.heap.size) (hg : ∀ k, k < n → g k = (hv k : Int)) (hnm : n ≤ m) (hm : m ≤ 1000000000) (hn0 : 1 ≤ n) (hn : n ≤ 4) (hb : ∀ k, k < n → hv k < n + 2) (hr : ∀ k, k + 1 < n → hv k < hv (k + 1)) (hw : want < n + 2) :
    Calls Try.prog 36 #[.int .i64 n, vh, .int .i64 want] w fun e w' => ∃ v', e = .returned v' ∧ Own w' w.heap.size w'.heap.size v' m (shareN n hv want) ∧ Below w.heap.size w w' := by
  obtain ⟨gh, caph, rfl, hg1, hg2, hg3, hg4⟩ := oh.form (by omega)
  have HOH : Hid (OwnI w l1 h1 (.slice (some ⟨gh, 0, none⟩) m caph) m g) := oh
  have HG : Hid (∀ k, k < n → g k = (hv k : Int)) := hg
  have HBD : Hid (∀ k, k < n → hv k < n + 2) := hb
  have HRI : Hid (∀ k, k + 1 < n → hv k < hv (k + 1)) := hr
  have hnc : (n : Int) ≤ (caph : Int) := by omega
  have hn00 : n ≠ 0 := by omega
  clear oh hg hb hr
  go_enter Try.func36, Try.ntmps36
  go_wp2_with (at_make; refine wp_makeB _ rfl _ _ rfl _ _ m rfl rfl rfl rfl (by omega) ?_; intro w1 hown1 hb1 hz1)
  have rN : RdI w1 h1 (.slice (some ⟨gh, 0, none⟩) n caph) n (fun i => (hv i : Int)) := ⟨_, _, rfl, by unfold maxLen; omega, fun _ => ⟨gh, 0, rfl, hg2, fun i hi => by
    rw [Nat.zero_add]
    have := (HOH.out.below hb1 hh).1.cellAt i (by omega)
    rw [this, intsOf_get _ _ _ (by omega), HG.out i hi]⟩⟩
  have C := l2Weights_col n want _ hv h1 w1 rN (Nat.le_trans hh hb1.size) hn0 hn HBD.out HRI.out hw
  have HO1 : Hid (Own w1 w.heap.size w1.heap.size (.slice (some ⟨w.heap.size, 0, none⟩) m m) m (fun _ => 0)) := hown1
  clear rN hown1
  refine C.mono ?_
  rintro e0 w2 ⟨v2, rfl, o2, b2⟩
  obtain ⟨gv, capv, rfl, v1, v2', v3, v4⟩ := o2.form hn00
  have O2 : Own w2 w.heap.size w1.heap.size (.slice (some ⟨w.heap.size, 0, none⟩) m m) m (fun i => if i < 0 then weightsN n 8 hv want i else 0) := (HO1.out.below b2 (Nat.le_refl _)).congr (fun i hi => by simp)
  have HV : Hid (Own w2 w1.heap.size w2.heap.size (.slice (some ⟨gv, 0, none⟩) n capv) n (weightsN n 8 hv want)) := o2
  have HB2 : Hid (Below w.heap.size w w2) := hb1.trans (b2.mono hb1.size)
  have s2 := b2.size
  clear C o2 b2 HO1
  go_wp2
  go_loopw [9] (fun i wr => ∃ k : Nat, k ≤ n ∧ i = .int .i64 k ∧ Own wr w.heap.size w1.heap.size (.slice (some ⟨w.heap.size, 0, none⟩) m m) m (fun i => if i < k then weightsN n 8 hv want i else 0) ∧ Out w.heap.size w1.heap.size w2 wr) (fun i _ => n - (intOf i).toNat)
  case atStart => exact ⟨0, Nat.zero_le _, rfl, O2, Out.refl _ _ _⟩
  case round =>
    clear O2
    obtain ⟨k, hk, rfl, hown, hout⟩ := hrel
    by_cases hlt : k < n
    · have hco : wr.cell? ⟨w.heap.size, k, none⟩ = some (.int .u8 (0 : Nat)) := by
        have := hown.1.cellAt k (by omega)
        rw [this, cellsOf_get _ _ _ (by omega), if_neg (Nat.lt_irrefl k)]
      have hfo : wr.frozen? ⟨w.heap.size, k, none⟩ = false := hown.1.frozenAt k
      have cv : wr.cell? ⟨gv, k, none⟩ = some (.int .u8 (weightsN n 8 hv want k)) := (World.cell?_of_block (w := w2) (hout.block gv (.inr v1))).trans ((HV.out.1.cellAt k (by omega)).trans (cellsOf_get _ _ _ hlt))
      obtain ⟨y, hy⟩ : ∃ y, y = weightsN n 8 hv want k := ⟨_, rfl⟩
      have RW : Own (wr.setCell ⟨w.heap.size, k, none⟩ (.int .u8 y)) w.heap.size w1.heap.size (.slice (some ⟨w.heap.size, 0, none⟩) m m) m (fun i => if i < k + 1 then weightsN n 8 hv want i else 0) :=
        hown.store k y (by omega) (fun i _ => by
          by_cases c1 : i = k
          · subst c1; simp [hy]
          · by_cases c2 : i < k
            · have c3 : i < k + 1 := by omega
              simp [c1, c2, c3]
            · have c3 : ¬ i < k + 1 := by omega
              simp [c1, c2, c3])
      have RO : Out w.heap.size w1.heap.size w2 (wr.setCell ⟨w.heap.size, k, none⟩ (.int .u8 y)) := hout.trans (out_store wr _ _ _ k _ (Nat.le_refl _) hz1)
      have hkm : (k : Int) < (m : Int) := by omega
      rw [← hy] at cv
      clear hown hout hy
      go_wp2
      go_roundw
      case rel => exact ⟨k + 1, by omega, by go_num, RW, RO⟩
      case measure => simp [intOf]; omega
    · obtain rfl : k = n := by omega
      have B6 : Below w.heap.size w wr := HB2.out.trans hout.below
      have hsz := hout.size
      clear hout
      go_wp2
      go_ret
      exact ⟨_, rfl, hown.weaken (Nat.le_refl _) (by omega), B6⟩

end Go.Proofs.Ytoadjpacchhleaj
