/- Walk of the specification's l2Weights. -/
import Derived.Test.YtoadjpacchhleajWRowA
import Derived.Test.YtoadjpacchhleajWRowG
import Derived.Test.YtoadjpacchhleajWInts
import Derived.Test.YtoadjpacchhleajWSolveS
namespace Go.Proofs.Ytoadjpacchhleaj
open Go.RowKit F256
set_option linter.unusedVariables false
set_option linter.unusedSimpArgs false

set_option maxHeartbeats 4000000 in
theorem l2Weights_any (n base want : Nat) (vh : Value) (m : Nat) (hv : Nat → Nat) (h1 : Nat) (w : World) (rh : RdI w h1 vh m (fun i => (hv i : Int))) (hh : h1 ≤ w.heap.size) (hm : n ≤ m) (hn0 : 1 ≤ n) (hn : n ≤ 16) (hb : ∀ k, k < n → base + hv k < n + 16) (hw : base + want < n + 16) :
    Calls Try.prog 45 #[.int .i64 n, vh, .int .i64 want, .int .i64 base] w fun e w' => ∃ v' b k x, e = .returned v' ∧ SolvP n (wtM n base hv) (genN n want base) b k x ∧ Own w' w.heap.size w'.heap.size v' k x ∧ Below w.heap.size w w' := by
  obtain ⟨aoh, caph, rfl, hmm, hch⟩ := rh
  unfold maxLen at hmm
  obtain ⟨bh, oh, rfl, hbh, hcell⟩ := hch (by omega)
  have HC : Hid (∀ i, i < m → w.cell? ⟨bh, oh + i, none⟩ = some (.int .i64 (hv i : Int))) := hcell
  have HBD : Hid (∀ k, k < n → base + hv k < n + 16) := hb
  clear hch hcell hb
  go_enter Try.func45, Try.ntmps45
  go_wp2_with (at_make; refine wp_makeM _ rfl _ _ rfl _ _ n rfl rfl rfl rfl (by omega) ?_; intro w1 hown1 hb1 hz1)
  have E1 : OwnE w1 w.heap.size w1.heap.size (.slice (some ⟨w.heap.size, 0, none⟩) n n) n (fun _ => 0) (wtM n base hv) w.heap.size n (fun _ => nilS) :=
    ⟨rfl, Nat.le_refl _, hz1, hown1, fun i _ => own_nil _ _ _ _, ⟨fun i _ hhh => (by cases hhh), fun i j _ _ _ k hk => (by cases hk)⟩⟩
  clear hown1
  go_loopw [10] (fun i wr => ∃ k : Nat, k ≤ n ∧ i = .int .i64 k ∧ ∃ e, OwnE wr w.heap.size wr.heap.size (.slice (some ⟨w.heap.size, 0, none⟩) n n) n (fun _ => k) (wtM n base hv) w.heap.size n e ∧ Below w.heap.size w wr) (fun i _ => n - (intOf i).toNat)
  case atStart => exact ⟨0, Nat.zero_le _, rfl, _, E1, hb1⟩
  case round =>
    clear E1 hb1 hz1
    obtain ⟨k, hk, rfl, e, hE, hbel⟩ := hrel
    have HBL : Hid (Below w.heap.size w wr) := hbel
    by_cases hlt : k < n
    · have ck : wr.cell? ⟨bh, oh + k, none⟩ = some (.int .i64 (hv k : Int)) := (hbel.cell (p := ⟨bh, oh + k, none⟩) (by show bh < w.heap.size; omega)).trans (HC.out k (by omega))
      have C := l2Gen_any n (hv k) base hn (HBD.out k hlt) wr
      obtain ⟨p, hp⟩ : ∃ p, p = hv k := ⟨_, rfl⟩
      have HP : Hid (p = hv k) := hp
      rw [← hp] at ck C
      have HE0 : Hid (OwnE wr w.heap.size wr.heap.size (.slice (some ⟨w.heap.size, 0, none⟩) n n) n (fun _ => k) (wtM n base hv) w.heap.size n e) := hE
      have hkm : (k : Int) < (m : Int) := by omega
      have szw := hbel.size
      obtain ⟨wk, hwk⟩ : ∃ wk, wk = wr := ⟨_, rfl⟩
      rw [← hwk] at ck C HE0 szw HBL ⊢
      clear hp hE hbel hwk
      go_wp2_with fail
      refine C.mono ?_
      rintro ee w6 ⟨v6, rfl, o6, b6⟩
      obtain ⟨gv, capv, hgv, h61, h62, h63, h64⟩ := o6.form (by omega)
      subst hgv
      have E6 := (HE0.out.below b6 (Nat.le_refl _)).weaken b6.size
      have s6 := b6.size
      have q6 : ∀ j, j < n → ∀ q, (e j).ownBlock = some q → q < wk.heap.size ∨ w6.heap.size ≤ q := fun j hj q hq => .inl ((HE0.out.each j hj).2 q hq)
      have B6 : Below w.heap.size w w6 := HBL.out.trans (b6.mono szw)
      have hgh := HE0.out.high
      clear C ck b6
      go_wp2
      go_loopw [12] (fun i wr => ∃ j : Nat, j ≤ n ∧ i = .int .i64 j ∧ ∃ e, OwnE wr w.heap.size wr.heap.size (.slice (some ⟨w.heap.size, 0, none⟩) n n) n (fun l => if l < j then k + 1 else k) (wtM n base hv) w.heap.size n e ∧ Own wr wk.heap.size w6.heap.size (.slice (some ⟨gv, 0, none⟩) n capv) n (genN n p base) ∧ (∀ j, j < n → ∀ q, (e j).ownBlock = some q → q < wk.heap.size ∨ w6.heap.size ≤ q) ∧ Below w.heap.size w wr ∧ w6.heap.size ≤ wr.heap.size) (fun i _ => n - (intOf i).toNat)
      case atStart => exact ⟨0, Nat.zero_le _, rfl, e, by simpa using E6, o6, q6, B6, Nat.le_refl _⟩
      case round =>
        clear E6 o6 q6 B6
        obtain ⟨j, hj, rfl, e3, hE3, ho3, hq3, hb3, s6r⟩ := hrel
        have HE3 : Hid (OwnE wr w.heap.size wr.heap.size (.slice (some ⟨w.heap.size, 0, none⟩) n n) n (fun l => if l < j then k + 1 else k) (wtM n base hv) w.heap.size n e3) := hE3
        have HO3 : Hid (Own wr wk.heap.size w6.heap.size (.slice (some ⟨gv, 0, none⟩) n capv) n (genN n p base)) := ho3
        have HQ3 : Hid (∀ j, j < n → ∀ q, (e3 j).ownBlock = some q → q < wk.heap.size ∨ w6.heap.size ≤ q) := hq3
        have HB3 : Hid (Below w.heap.size w wr) := hb3
        by_cases hjn : j < n
        · have c1 : wr.cell? ⟨w.heap.size, j, none⟩ = some (e3 j) := hE3.cell j hjn
          have c2 : wr.cell? ⟨gv, j, none⟩ = some (.int .u8 (genN n p base j)) := (ho3.1.cellAt j (by omega)).trans (cellsOf_get _ _ _ hjn)
          have oj := hE3.each j hjn
          simp only [if_neg (Nat.lt_irrefl j)] at oj
          obtain ⟨x, hx⟩ : ∃ x, x = e3 j := ⟨_, rfl⟩
          obtain ⟨y, hy⟩ : ∃ y, y = genN n p base j := ⟨_, rfl⟩
          have hyw : y = wtM n base hv j k := by rw [hy, HP.out]; rfl
          have HX : Hid (x = e3 j) := hx
          have HYW : Hid (y = wtM n base hv j k) := hyw
          rw [← hx] at c1 oj
          rw [← hy] at c2
          have HOJ : Hid (Own wr w.heap.size wr.heap.size x k (wtM n base hv j)) := oj
          obtain ⟨aox, capx, hxs⟩ := oj.slice
          subst hxs
          have szr := hb3.size
          have c3 := (cell_alloc_old wr (.cells #[.int .u8 y] 5) w.heap.size j hE3.high).trans c1
          have hgR := hE3.high
          clear hE3 ho3 hq3 hb3 hx hy hyw oj
          go_wp2
          go_region_law (refine step_appendAt rfl (.tmp 39) (.tmp 44) rfl w.heap.size wr.heap.size (.slice aox k capx) k (wtM n base hv j) ?_ ?_ wr.heap.size 1 ?_ ?_ (by omega) ?_ ?_; (simp [Act.eval, Act.put]); exact HOJ.out.alloc _; (simp [Act.eval, Act.put]); (rw [← HYW.out]; simp); (simp; omega); intro v7 w7 o7 g7 hl7; obtain ⟨ao7, cap7, rfl⟩ := o7.slice; have R7 : w7.ownsRow w.heap.size 23 1 (.slice (some ⟨w.heap.size, 0, none⟩) n n) n (valsOf n e3) := row_kept HE3.out.row (fun q hq => by (have e1 : w.heap.size = q := by simpa [Value.ownBlock] using hq); subst e1; exact (g7.block w.heap.size (by simp; omega) (fun hhh => HE3.out.apart.1 j hjn (by rw [← HX.out]; exact hhh.symm))).trans (Below.heap_alloc wr _ w.heap.size hgR)); have p1 := (R7.cellAt j (by omega)).trans (valsOf_get _ _ _ hjn); have p2 := R7.frozenAt j; rw [← HX.out] at p1)
          all_goals
            have g7' : (wr.alloc (.cells #[.int .u8 y] 5)).grownBy w7 (e3 j).ownBlock := ⟨g7.os, g7.tape, g7.output, g7.size, by rw [← HX.out]; exact g7.block⟩
            have hl7' : (Value.slice ao7 (k + 1) cap7).ownBlock = (e3 j).ownBlock ∨ (Value.slice ao7 (k + 1) cap7).ownBlock = some (wr.heap.size + 1) := by
              rcases hl7 with h | h
              · left; rw [← HX.out]; exact h
              · right; rw [h]; simp
            have s7 : wr.heap.size + 1 ≤ w7.heap.size := by have := g7'.size; simpa using this
            have GE := HE3.out.grow j hjn (n' := fun l => if l < j + 1 then k + 1 else k) g7' (by simpa using o7) hl7' (fun l _ hl => by
              by_cases c : l < j
              · have c2 : l < j + 1 := by omega
                simp only [if_pos c, if_pos c2]
              · have c2 : ¬ l < j + 1 := by omega
                simp only [if_neg c, if_neg c2])
            have zs : (w7.setCell ⟨w.heap.size, j, none⟩ (.slice ao7 (k + 1) cap7)).heap.size = w7.heap.size := by simp
            rw [← zs] at GE
            have GO : Own (w7.setCell ⟨w.heap.size, j, none⟩ (.slice ao7 (k + 1) cap7)) wk.heap.size w6.heap.size (.slice (some ⟨gv, 0, none⟩) n capv) n (genN n p base) := HO3.out.kept fun q hq => by
              have e1 : gv = q := by simpa [Value.ownBlock] using hq
              subst e1
              refine (heap_setCell_other w7 ⟨w.heap.size, j, none⟩ gv _ (by show gv ≠ w.heap.size; omega)).trans ((g7'.block gv (by simp; omega) (fun hhh => ?_)).trans (Below.heap_alloc wr _ gv (by omega)))
              have := HQ3.out j hjn gv hhh.symm
              omega
            have GQ : ∀ l, l < n → ∀ q, (if l = j then Value.slice ao7 (k + 1) cap7 else e3 l).ownBlock = some q → q < wk.heap.size ∨ w6.heap.size ≤ q := fun l hl q hq => by
              by_cases c : l = j
              · rw [if_pos c] at hq
                rcases hl7' with h | h
                · rw [h] at hq
                  exact HQ3.out j hjn q hq
                · rw [h] at hq
                  cases hq
                  right; omega
              · rw [if_neg c] at hq
                exact HQ3.out l hl q hq
            have GB : Below w.heap.size w (w7.setCell ⟨w.heap.size, j, none⟩ (.slice ao7 (k + 1) cap7)) := ((HB3.out.alloc szr _).grown g7' (by simp; omega) (fun q hq => ((HE3.out.each j hjn).1.lt q hq).1)).setCell (Nat.le_refl _) _
            have GS : w6.heap.size ≤ (w7.setCell ⟨w.heap.size, j, none⟩ (.slice ao7 (k + 1) cap7)).heap.size := by rw [zs]; omega
            clear g7 g7' hl7 hl7' o7 R7 p1 p2 HE3 HO3 HQ3 HB3 HOJ c1 c2 c3 zs
            go_wp2
            go_roundw
            case rel => exact ⟨j + 1, by omega, by go_num, _, GE, GO, GQ, GB, GS⟩
            case measure => simp [intOf]; omega
        · obtain rfl : j = n := by omega
          have E9 := hE3.congrN (n' := fun _ => k + 1) (fun l hl => by simp [hl])
          clear hE3 ho3 hq3
          go_wp2
          go_roundw
          case rel => exact ⟨k + 1, by omega, by go_num, _, E9, hb3⟩
          case measure => simp [intOf]; omega
    · obtain rfl : k = n := by omega
      have C := l2Gen_any k want base hn hw wr
      have HE : Hid (OwnE wr w.heap.size wr.heap.size (.slice (some ⟨w.heap.size, 0, none⟩) k k) k (fun _ => k) (wtM k base hv) w.heap.size k e) := hE
      clear hE hbel
      go_wp2_with fail
      refine C.mono ?_
      rintro ee w6 ⟨v6, rfl, o6, b6⟩
      have B6 : Below w.heap.size w w6 := HBL.out.trans (b6.mono HBL.out.size)
      have CS := l1Solve_any _ _ k (wtM k base hv) (genN k want base) w.heap.size wr.heap.size w.heap.size k wr.heap.size w6.heap.size e w6 (HE.out.below b6 (Nat.le_refl _)) o6 b6.size (Nat.le_refl _) (by omega) hn (wtM_byt k base hv) (genN_lt k want base)
      obtain ⟨ao6, cap6, rfl⟩ := o6.slice
      clear C o6 b6
      go_wp2_with fail
      refine CS.mono ?_
      rintro ee w7 ⟨v7, b7, k7, x7, rfl, hp7, o7, b7'⟩
      have HP7 : Hid (SolvP k (wtM k base hv) (genN k want base) b7 k7 x7) := hp7
      have HO7 : Hid (Own w7 w6.heap.size w7.heap.size v7 k7 x7) := o7
      have B7 : Below w.heap.size w w7 := B6.trans (b7'.mono B6.size)
      have s67 := B6.size
      obtain ⟨ao7, cap7, rfl⟩ := o7.slice
      clear CS hp7 o7 b7' B6
      go_wp2
      go_ret
      exact ⟨_, b7, k7, x7, rfl, HP7.out, HO7.out.weaken s67 (Nat.le_refl _), B7⟩
end Go.Proofs.Ytoadjpacchhleaj
