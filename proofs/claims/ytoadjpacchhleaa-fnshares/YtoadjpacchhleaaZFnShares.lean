/- The weighed lists that are there sum up to the list that is wanted of a drawn column, whatever their order: the law FnShares returns true at every code, and changes nothing that was there. No condition. -/
import Derived.Test.YtoadjpacchhleaaWRowA
import Derived.Test.YtoadjpacchhleaaWRowG
import Derived.Test.YtoadjpacchhleaaWInts
import Derived.Test.YtoadjpacchhleaaWSolveS
import Derived.Test.YtoadjpacchhleaaColDefs
import Derived.Test.YtoadjpacchhleaaWColD
import Derived.Test.YtoadjpacchhleaaWRowF
import Derived.Test.YtoadjpacchhleaaGaussW
import Derived.Test.YtoadjpacchhleaaWDrawE
import Derived.Test.YtoadjpacchhleaaWColumns
import Derived.Test.YtoadjpacchhleaaColSum
import Derived.Test.YtoadjpacchhleaaWBld
import Derived.Test.YtoadjpacchhleaaWReduce2
import Derived.Test.YtoadjpacchhleaaWRankI
import Derived.Test.YtoadjpacchhleaaWOwnB
import Derived.Test.YtoadjpacchhleaaWInt
import Derived.Test.YtoadjpacchhleaaWJoin
import Derived.Test.YtoadjpacchhleaaWBytess
import Derived.Stop.BytesEq
import Derived.Maps.Own
import Derived.Maps.OwnOps
import Derived.Test.YtoadjpacchhleaaWAppend
import Derived.Test.YtoadjpacchhleaaNth
import Derived.Test.YtoadjpacchhleaaColBack
import Derived.BigQuiet
import Derived.Deep.QuietTactic
import Derived.Test.YtoadjpacchhleaaRows
import Derived.Test.YtoadjpacchhleaaFrameB
namespace Go.Proofs.Ytoadjpacchhleaa
open Go.RowKit F256
set_option linter.unusedVariables false
set_option linter.unusedSimpArgs false

set_option maxHeartbeats 4000000 in
theorem l2Weights_any (n base want : Nat) (vh : Value) (m : Nat) (hv : Nat → Nat) (h1 : Nat) (w : World) (rh : RdI w h1 vh m (fun i => (hv i : Int))) (hh : h1 ≤ w.heap.size) (hm : n ≤ m) (hn0 : 1 ≤ n) (hn : n ≤ 16) (hb : ∀ k, k < n → base + hv k < n + 16) (hw : base + want < n + 16) :
    Calls Try.prog 96 #[.int .i64 n, vh, .int .i64 want, .int .i64 base] w fun e w' => ∃ v' b k x, e = .returned v' ∧ SolvP n (wtM n base hv) (genN n want base) b k x ∧ Own w' w.heap.size w'.heap.size v' k x ∧ Below w.heap.size w w' := by
  obtain ⟨aoh, caph, rfl, hmm, hch⟩ := rh
  unfold maxLen at hmm
  obtain ⟨bh, oh, rfl, hbh, hcell⟩ := hch (by omega)
  have HC : Hid (∀ i, i < m → w.cell? ⟨bh, oh + i, none⟩ = some (.int .i64 (hv i : Int))) := hcell
  have HBD : Hid (∀ k, k < n → base + hv k < n + 16) := hb
  clear hch hcell hb
  go_enter Try.func96, Try.ntmps96
  go_wp2_with (at_make; refine wp_makeM _ rfl _ _ rfl _ _ n rfl rfl rfl rfl (by omega) ?_; intro w1 hown1 hb1 hz1)
  have E1 : OwnE w1 w.heap.size w1.heap.size (.slice (some ⟨w.heap.size, 0, none⟩) n n) n (fun _ => 0) (wtM n base hv) w.heap.size n (fun _ => nilS) :=
    ⟨rfl, Nat.le_refl _, hz1, hown1, fun i _ => own_nil _ _ _ _, ⟨fun i _ hhh => (by cases hhh), fun i j _ _ _ k hk => (by cases hk)⟩⟩
  clear hown1
  go_loopw [10] (fun i wr => ∃ k : Nat, k ≤ n ∧ i = .int .i64 k ∧ ∃ e, OwnE wr w.heap.size wr.heap.size (.slice (some ⟨w.heap.size, 0, none⟩) n n) n (fun _ => k) (wtM n base hv) w.heap.size n e ∧ Below w.heap.size w wr) (fun i _ => n - (intOf i).toNat)
  case atStart => exact ⟨0, Nat.zero_le _, rfl, _, E1, hb1⟩
  case round =>
    clear E1 hb1 hz1
    obtain ⟨k, hk, rfl, e, hE, hbel⟩ := hrel
    have HBL : Hid (Below w.heap.size w wr) := hbel
    by_cases hlt : k < n
    · have ck : wr.cell? ⟨bh, oh + k, none⟩ = some (.int .i64 (hv k : Int)) := (hbel.cell (p := ⟨bh, oh + k, none⟩) (by show bh < w.heap.size; omega)).trans (HC.out k (by omega))
      have C := l2Gen_any n (hv k) base hn (HBD.out k hlt) wr
      obtain ⟨p, hp⟩ : ∃ p, p = hv k := ⟨_, rfl⟩
      have HP : Hid (p = hv k) := hp
      rw [← hp] at ck C
      have HE0 : Hid (OwnE wr w.heap.size wr.heap.size (.slice (some ⟨w.heap.size, 0, none⟩) n n) n (fun _ => k) (wtM n base hv) w.heap.size n e) := hE
      have hkm : (k : Int) < (m : Int) := by omega
      have szw := hbel.size
      obtain ⟨wk, hwk⟩ : ∃ wk, wk = wr := ⟨_, rfl⟩
      rw [← hwk] at ck C HE0 szw HBL ⊢
      clear hp hE hbel hwk
      go_wp2_with fail
      refine C.mono ?_
      rintro ee w6 ⟨v6, rfl, o6, b6⟩
      obtain ⟨gv, capv, hgv, h61, h62, h63, h64⟩ := o6.form (by omega)
      subst hgv
      have E6 := (HE0.out.below b6 (Nat.le_refl _)).weaken b6.size
      have s6 := b6.size
      have q6 : ∀ j, j < n → ∀ q, (e j).ownBlock = some q → q < wk.heap.size ∨ w6.heap.size ≤ q := fun j hj q hq => .inl ((HE0.out.each j hj).2 q hq)
      have B6 : Below w.heap.size w w6 := HBL.out.trans (b6.mono szw)
      have hgh := HE0.out.high
      clear C ck b6
      go_wp2
      go_loopw [12] (fun i wr => ∃ j : Nat, j ≤ n ∧ i = .int .i64 j ∧ ∃ e, OwnE wr w.heap.size wr.heap.size (.slice (some ⟨w.heap.size, 0, none⟩) n n) n (fun l => if l < j then k + 1 else k) (wtM n base hv) w.heap.size n e ∧ Own wr wk.heap.size w6.heap.size (.slice (some ⟨gv, 0, none⟩) n capv) n (genN n p base) ∧ (∀ j, j < n → ∀ q, (e j).ownBlock = some q → q < wk.heap.size ∨ w6.heap.size ≤ q) ∧ Below w.heap.size w wr ∧ w6.heap.size ≤ wr.heap.size) (fun i _ => n - (intOf i).toNat)
      case atStart => exact ⟨0, Nat.zero_le _, rfl, e, by simpa using E6, o6, q6, B6, Nat.le_refl _⟩
      case round =>
        clear E6 o6 q6 B6
        obtain ⟨j, hj, rfl, e3, hE3, ho3, hq3, hb3, s6r⟩ := hrel
        have HE3 : Hid (OwnE wr w.heap.size wr.heap.size (.slice (some ⟨w.heap.size, 0, none⟩) n n) n (fun l => if l < j then k + 1 else k) (wtM n base hv) w.heap.size n e3) := hE3
        have HO3 : Hid (Own wr wk.heap.size w6.heap.size (.slice (some ⟨gv, 0, none⟩) n capv) n (genN n p base)) := ho3
        have HQ3 : Hid (∀ j, j < n → ∀ q, (e3 j).ownBlock = some q → q < wk.heap.size ∨ w6.heap.size ≤ q) := hq3
        have HB3 : Hid (Below w.heap.size w wr) := hb3
        by_cases hjn : j < n
        · have c1 : wr.cell? ⟨w.heap.size, j, none⟩ = some (e3 j) := hE3.cell j hjn
          have c2 : wr.cell? ⟨gv, j, none⟩ = some (.int .u8 (genN n p base j)) := (ho3.1.cellAt j (by omega)).trans (cellsOf_get _ _ _ hjn)
          have oj := hE3.each j hjn
          simp only [if_neg (Nat.lt_irrefl j)] at oj
          obtain ⟨x, hx⟩ : ∃ x, x = e3 j := ⟨_, rfl⟩
          obtain ⟨y, hy⟩ : ∃ y, y = genN n p base j := ⟨_, rfl⟩
          have hyw : y = wtM n base hv j k := by rw [hy, HP.out]; rfl
          have HX : Hid (x = e3 j) := hx
          have HYW : Hid (y = wtM n base hv j k) := hyw
          rw [← hx] at c1 oj
          rw [← hy] at c2
          have HOJ : Hid (Own wr w.heap.size wr.heap.size x k (wtM n base hv j)) := oj
          obtain ⟨aox, capx, hxs⟩ := oj.slice
          subst hxs
          have szr := hb3.size
          have c3 := (cell_alloc_old wr (.cells #[.int .u8 y] 5) w.heap.size j hE3.high).trans c1
          have hgR := hE3.high
          clear hE3 ho3 hq3 hb3 hx hy hyw oj
          go_wp2
          go_region_law (refine step_appendAt rfl (.tmp 39) (.tmp 44) rfl w.heap.size wr.heap.size (.slice aox k capx) k (wtM n base hv j) ?_ ?_ wr.heap.size 1 ?_ ?_ (by omega) ?_ ?_; (simp [Act.eval, Act.put]); exact HOJ.out.alloc _; (simp [Act.eval, Act.put]); (rw [← HYW.out]; simp); (simp; omega); intro v7 w7 o7 g7 hl7; obtain ⟨ao7, cap7, rfl⟩ := o7.slice; have R7 : w7.ownsRow w.heap.size 22 1 (.slice (some ⟨w.heap.size, 0, none⟩) n n) n (valsOf n e3) := row_kept HE3.out.row (fun q hq => by (have e1 : w.heap.size = q := by simpa [Value.ownBlock] using hq); subst e1; exact (g7.block w.heap.size (by simp; omega) (fun hhh => HE3.out.apart.1 j hjn (by rw [← HX.out]; exact hhh.symm))).trans (Below.heap_alloc wr _ w.heap.size hgR)); have p1 := (R7.cellAt j (by omega)).trans (valsOf_get _ _ _ hjn); have p2 := R7.frozenAt j; rw [← HX.out] at p1)
          all_goals
            have g7' : (wr.alloc (.cells #[.int .u8 y] 5)).grownBy w7 (e3 j).ownBlock := ⟨g7.os, g7.tape, g7.output, g7.size, by rw [← HX.out]; exact g7.block⟩
            have hl7' : (Value.slice ao7 (k + 1) cap7).ownBlock = (e3 j).ownBlock ∨ (Value.slice ao7 (k + 1) cap7).ownBlock = some (wr.heap.size + 1) := by
              rcases hl7 with h | h
              · left; rw [← HX.out]; exact h
              · right; rw [h]; simp
            have s7 : wr.heap.size + 1 ≤ w7.heap.size := by have := g7'.size; simpa using this
            have GE := HE3.out.grow j hjn (n' := fun l => if l < j + 1 then k + 1 else k) g7' (by simpa using o7) hl7' (fun l _ hl => by
              by_cases c : l < j
              · have c2 : l < j + 1 := by omega
                simp only [if_pos c, if_pos c2]
              · have c2 : ¬ l < j + 1 := by omega
                simp only [if_neg c, if_neg c2])
            have zs : (w7.setCell ⟨w.heap.size, j, none⟩ (.slice ao7 (k + 1) cap7)).heap.size = w7.heap.size := by simp
            rw [← zs] at GE
            have GO : Own (w7.setCell ⟨w.heap.size, j, none⟩ (.slice ao7 (k + 1) cap7)) wk.heap.size w6.heap.size (.slice (some ⟨gv, 0, none⟩) n capv) n (genN n p base) := HO3.out.kept fun q hq => by
              have e1 : gv = q := by simpa [Value.ownBlock] using hq
              subst e1
              refine (heap_setCell_other w7 ⟨w.heap.size, j, none⟩ gv _ (by show gv ≠ w.heap.size; omega)).trans ((g7'.block gv (by simp; omega) (fun hhh => ?_)).trans (Below.heap_alloc wr _ gv (by omega)))
              have := HQ3.out j hjn gv hhh.symm
              omega
            have GQ : ∀ l, l < n → ∀ q, (if l = j then Value.slice ao7 (k + 1) cap7 else e3 l).ownBlock = some q → q < wk.heap.size ∨ w6.heap.size ≤ q := fun l hl q hq => by
              by_cases c : l = j
              · rw [if_pos c] at hq
                rcases hl7' with h | h
                · rw [h] at hq
                  exact HQ3.out j hjn q hq
                · rw [h] at hq
                  cases hq
                  right; omega
              · rw [if_neg c] at hq
                exact HQ3.out l hl q hq
            have GB : Below w.heap.size w (w7.setCell ⟨w.heap.size, j, none⟩ (.slice ao7 (k + 1) cap7)) := ((HB3.out.alloc szr _).grown g7' (by simp; omega) (fun q hq => ((HE3.out.each j hjn).1.lt q hq).1)).setCell (Nat.le_refl _) _
            have GS : w6.heap.size ≤ (w7.setCell ⟨w.heap.size, j, none⟩ (.slice ao7 (k + 1) cap7)).heap.size := by rw [zs]; omega
            clear g7 g7' hl7 hl7' o7 R7 p1 p2 HE3 HO3 HQ3 HB3 HOJ c1 c2 c3 zs
            go_wp2
            go_roundw
            case rel => exact ⟨j + 1, by omega, by go_num, _, GE, GO, GQ, GB, GS⟩
            case measure => simp [intOf]; omega
        · obtain rfl : j = n := by omega
          have E9 := hE3.congrN (n' := fun _ => k + 1) (fun l hl => by simp [hl])
          clear hE3 ho3 hq3
          go_wp2
          go_roundw
          case rel => exact ⟨k + 1, by omega, by go_num, _, E9, hb3⟩
          case measure => simp [intOf]; omega
    · obtain rfl : k = n := by omega
      have C := l2Gen_any k want base hn hw wr
      have HE : Hid (OwnE wr w.heap.size wr.heap.size (.slice (some ⟨w.heap.size, 0, none⟩) k k) k (fun _ => k) (wtM k base hv) w.heap.size k e) := hE
      clear hE hbel
      go_wp2_with fail
      refine C.mono ?_
      rintro ee w6 ⟨v6, rfl, o6, b6⟩
      have B6 : Below w.heap.size w w6 := HBL.out.trans (b6.mono HBL.out.size)
      have CS := l1Solve_any _ _ k (wtM k base hv) (genN k want base) w.heap.size wr.heap.size w.heap.size k wr.heap.size w6.heap.size e w6 (HE.out.below b6 (Nat.le_refl _)) o6 b6.size (Nat.le_refl _) (by omega) hn (wtM_byt k base hv) (genN_lt k want base)
      obtain ⟨ao6, cap6, rfl⟩ := o6.slice
      clear C o6 b6
      go_wp2_with fail
      refine CS.mono ?_
      rintro ee w7 ⟨v7, b7, k7, x7, rfl, hp7, o7, b7'⟩
      have HP7 : Hid (SolvP k (wtM k base hv) (genN k want base) b7 k7 x7) := hp7
      have HO7 : Hid (Own w7 w6.heap.size w7.heap.size v7 k7 x7) := o7
      have B7 : Below w.heap.size w w7 := B6.trans (b7'.mono B6.size)
      have s67 := B6.size
      obtain ⟨ao7, cap7, rfl⟩ := o7.slice
      clear CS hp7 o7 b7' B6
      go_wp2
      go_ret
      exact ⟨_, b7, k7, x7, rfl, HP7.out, HO7.out.weaken s67 (Nat.le_refl _), B7⟩
end Go.Proofs.Ytoadjpacchhleaa

namespace Go.Proofs.Ytoadjpacchhleaa
open Go.RowKit F256
set_option linter.unusedVariables false
set_option linter.unusedSimpArgs false

theorem l2Weights_col (n want : Nat) (vh : Value) (hv : Nat → Nat) (h1 : Nat) (w : World) (rh : RdI w h1 vh n (fun i => (hv i : Int))) (hh : h1 ≤ w.heap.size) (hn0 : 1 ≤ n) (hn : n ≤ 4) (hb : ∀ k, k < n → hv k < n + 2) (hr : ∀ k, k + 1 < n → hv k < hv (k + 1)) (hw : want < n + 2) :
    Calls Try.prog 96 #[.int .i64 n, vh, .int .i64 want, .int .i64 8] w fun e w' => ∃ v', e = .returned v' ∧ Own w' w.heap.size w'.heap.size v' n (weightsN n 8 hv want) ∧ Below w.heap.size w w' := by
  have C := l2Weights_any n 8 want vh n hv h1 w rh hh (Nat.le_refl _) hn0 (by omega) (fun k hk => by have := hb k hk; omega) (by omega)
  have e0 : ((8 : Nat) : Int) = 8 := rfl
  rw [e0] at C
  refine C.mono fun e w' ⟨v', b, k, x, he, hp, ho, hbel⟩ => ?_
  have hfull := col_full n hn0 hn hv (genN n want 8) hb hr
  have hbt : b = true := by
    cases b with
    | true => rfl
    | false => have := (hp.2 rfl).1; omega
  obtain ⟨_, hk, hx⟩ := hp.1 hbt
  subst hk
  subst hx
  exact ⟨v', he, ho, hbel⟩

set_option maxHeartbeats 4000000 in
theorem l3Share_any (n want : Nat) (vh : Value) (m : Nat) (g : Nat → Int) (hv : Nat → Nat) (l1 h1 : Nat) (w : World) (oh : OwnI w l1 h1 vh m g) (hh : h1 ≤ w.heap.size) (hg : ∀ k, k < n → g k = (hv k : Int)) (hnm : n ≤ m) (hm : m ≤ 1000000000) (hn0 : 1 ≤ n) (hn : n ≤ 4) (hb : ∀ k, k < n → hv k < n + 2) (hr : ∀ k, k + 1 < n → hv k < hv (k + 1)) (hw : want < n + 2) :
    Calls Try.prog 81 #[.int .i64 n, vh, .int .i64 want] w fun e w' => ∃ v', e = .returned v' ∧ Own w' w.heap.size w'.heap.size v' m (shareN n hv want) ∧ Below w.heap.size w w' := by
  obtain ⟨gh, caph, rfl, hg1, hg2, hg3, hg4⟩ := oh.form (by omega)
  have HOH : Hid (OwnI w l1 h1 (.slice (some ⟨gh, 0, none⟩) m caph) m g) := oh
  have HG : Hid (∀ k, k < n → g k = (hv k : Int)) := hg
  have HBD : Hid (∀ k, k < n → hv k < n + 2) := hb
  have HRI : Hid (∀ k, k + 1 < n → hv k < hv (k + 1)) := hr
  have hnc : (n : Int) ≤ (caph : Int) := by omega
  have hn00 : n ≠ 0 := by omega
  clear oh hg hb hr
  go_enter Try.func81, Try.ntmps81
  go_wp2_with (at_make; refine wp_makeB _ rfl _ _ rfl _ _ m rfl rfl rfl rfl (by omega) ?_; intro w1 hown1 hb1 hz1)
  have rN : RdI w1 h1 (.slice (some ⟨gh, 0, none⟩) n caph) n (fun i => (hv i : Int)) := ⟨_, _, rfl, by unfold maxLen; omega, fun _ => ⟨gh, 0, rfl, hg2, fun i hi => by
    rw [Nat.zero_add]
    have := (HOH.out.below hb1 hh).1.cellAt i (by omega)
    rw [this, intsOf_get _ _ _ (by omega), HG.out i hi]⟩⟩
  have C := l2Weights_col n want _ hv h1 w1 rN (Nat.le_trans hh hb1.size) hn0 hn HBD.out HRI.out hw
  have HO1 : Hid (Own w1 w.heap.size w1.heap.size (.slice (some ⟨w.heap.size, 0, none⟩) m m) m (fun _ => 0)) := hown1
  clear rN hown1
  refine C.mono ?_
  rintro e0 w2 ⟨v2, rfl, o2, b2⟩
  obtain ⟨gv, capv, rfl, v1, v2', v3, v4⟩ := o2.form hn00
  have O2 : Own w2 w.heap.size w1.heap.size (.slice (some ⟨w.heap.size, 0, none⟩) m m) m (fun i => if i < 0 then weightsN n 8 hv want i else 0) := (HO1.out.below b2 (Nat.le_refl _)).congr (fun i hi => by simp)
  have HV : Hid (Own w2 w1.heap.size w2.heap.size (.slice (some ⟨gv, 0, none⟩) n capv) n (weightsN n 8 hv want)) := o2
  have HB2 : Hid (Below w.heap.size w w2) := hb1.trans (b2.mono hb1.size)
  have s2 := b2.size
  clear C o2 b2 HO1
  go_wp2
  go_loopw [9] (fun i wr => ∃ k : Nat, k ≤ n ∧ i = .int .i64 k ∧ Own wr w.heap.size w1.heap.size (.slice (some ⟨w.heap.size, 0, none⟩) m m) m (fun i => if i < k then weightsN n 8 hv want i else 0) ∧ Out w.heap.size w1.heap.size w2 wr) (fun i _ => n - (intOf i).toNat)
  case atStart => exact ⟨0, Nat.zero_le _, rfl, O2, Out.refl _ _ _⟩
  case round =>
    clear O2
    obtain ⟨k, hk, rfl, hown, hout⟩ := hrel
    by_cases hlt : k < n
    · have hco : wr.cell? ⟨w.heap.size, k, none⟩ = some (.int .u8 (0 : Nat)) := by
        have := hown.1.cellAt k (by omega)
        rw [this, cellsOf_get _ _ _ (by omega), if_neg (Nat.lt_irrefl k)]
      have hfo : wr.frozen? ⟨w.heap.size, k, none⟩ = false := hown.1.frozenAt k
      have cv : wr.cell? ⟨gv, k, none⟩ = some (.int .u8 (weightsN n 8 hv want k)) := (World.cell?_of_block (w := w2) (hout.block gv (.inr v1))).trans ((HV.out.1.cellAt k (by omega)).trans (cellsOf_get _ _ _ hlt))
      obtain ⟨y, hy⟩ : ∃ y, y = weightsN n 8 hv want k := ⟨_, rfl⟩
      have RW : Own (wr.setCell ⟨w.heap.size, k, none⟩ (.int .u8 y)) w.heap.size w1.heap.size (.slice (some ⟨w.heap.size, 0, none⟩) m m) m (fun i => if i < k + 1 then weightsN n 8 hv want i else 0) :=
        hown.store k y (by omega) (fun i _ => by
          by_cases c1 : i = k
          · subst c1; simp [hy]
          · by_cases c2 : i < k
            · have c3 : i < k + 1 := by omega
              simp [c1, c2, c3]
            · have c3 : ¬ i < k + 1 := by omega
              simp [c1, c2, c3])
      have RO : Out w.heap.size w1.heap.size w2 (wr.setCell ⟨w.heap.size, k, none⟩ (.int .u8 y)) := hout.trans (out_store wr _ _ _ k _ (Nat.le_refl _) hz1)
      have hkm : (k : Int) < (m : Int) := by omega
      rw [← hy] at cv
      clear hown hout hy
      go_wp2
      go_roundw
      case rel => exact ⟨k + 1, by omega, by go_num, RW, RO⟩
      case measure => simp [intOf]; omega
    · obtain rfl : k = n := by omega
      have B6 : Below w.heap.size w wr := HB2.out.trans hout.below
      have hsz := hout.size
      clear hout
      go_wp2
      go_ret
      exact ⟨_, rfl, hown.weaken (Nat.le_refl _) (by omega), B6⟩

end Go.Proofs.Ytoadjpacchhleaa

namespace Go.Proofs.Ytoadjpacchhleaa
open Go.RowKit F256
set_option linter.unusedVariables false
set_option linter.unusedSimpArgs false

set_option maxHeartbeats 4000000 in
theorem specShare_any (g c want : Int) (v : Value) (m : Nat) (h : Nat → Int) (l1 h1 : Nat) (w : World) (o : OwnI w l1 h1 v m h) (hh : h1 ≤ w.heap.size) (hm9 : m ≤ 1000000000) :
    Calls Try.prog 35 #[.int .i64 g, .int .i64 c, v, .int .i64 want] w fun ee w' => ∃ x v', ee = .returned (bytesR x v') ∧ ShAns g c m h want x ∧ Own w' w.heap.size w'.heap.size v' (if x = 0 then m else 0) (shareN g.toNat (fun k => (h k).toNat) want.toNat) ∧ Below w.heap.size w w' := by
  have HO : Hid (OwnI w l1 h1 v m h) := o
  obtain ⟨ao, cap, rfl⟩ := o.slice
  clear o
  go_enter Try.func35, Try.ntmps35
  go_wp2_with fail
  refine (l3Shape_any g c _).mono ?_
  rintro e w1 ⟨b1, rfl, hb1, b1'⟩
  have HS : Hid (b1 = true ↔ Shp3 g c) := hb1
  have B1 : Below w.heap.size w w1 := bnew b1'
  have X1 : Box w1 w.heap.size #[.int .i64 0, .slice none 0 0] 36 := (box_new w _ _).below b1' (by simp)
  have z1 : w.heap.size < w1.heap.size := X1.lt
  obtain ⟨x0, x1, y0, y1⟩ := res_cells X1
  clear hb1 b1'
  cases b1 with
  | false =>
    have HNO : Hid (¬ Shp3 g c) := fun h => by have := HS.out.mpr h; cases this
    clear HS
    go_wp2
    exact bodyPost_ret (v := bytesR 3 (.slice none 0 0)) (by simp [results, Try.results35, go_sem, bytesR, x0, x1]) rfl ⟨3, _, rfl, .inl ⟨rfl, HNO.out⟩, own_nil _ _ _ _, (B1.setCell (Nat.le_refl _) _).setCell (Nat.le_refl _) _⟩
  | true =>
    have hsh := HS.out.mp rfl
    have HSH : Hid (Shp3 g c) := hsh
    obtain ⟨q1, q2, q3, q4⟩ := hsh
    obtain ⟨D, rfl⟩ : ∃ D : Nat, g = D := ⟨g.toNat, by omega⟩
    obtain ⟨S, rfl⟩ : ∃ S : Nat, c = S := ⟨c.toNat, by omega⟩
    have CR := l2Rise_any (.slice ao m cap) m h h1 ((D : Int) + (S : Int) - 1) w1 (HO.out.below B1 hh).rd
    clear HS x0 x1 y0 y1
    go_wp2_with fail
    refine CR.mono ?_
    rintro e w2 ⟨b2, rfl, hb2, b2'⟩
    have HRI : Hid (b2 = true ↔ RiseP m h ((D : Int) + (S : Int) - 1)) := hb2
    have B2 : Below w.heap.size w w2 := B1.trans (b2'.mono B1.size)
    have X2 : Box w2 w.heap.size #[.int .i64 0, .slice none 0 0] 36 := X1.below b2' z1
    have z2 : w.heap.size < w2.heap.size := X2.lt
    obtain ⟨x0, x1, y0, y1⟩ := res_cells X2
    clear hb2 b2' X1 B1 z1 CR
    cases b2 with
    | false =>
      have HNO : Hid (¬ RiseP m h ((D : Int) + (S : Int) - 1)) := fun hh => by have := HRI.out.mpr hh; cases this
      clear HRI
      go_wp2
      exact bodyPost_ret (v := bytesR 1 (.slice none 0 0)) (by simp [results, Try.results35, go_sem, bytesR, x0, x1]) rfl ⟨1, _, rfl, .inr (.inl ⟨rfl, HSH.out, HNO.out⟩), own_nil _ _ _ _, (B2.setCell (Nat.le_refl _) _).setCell (Nat.le_refl _) _⟩
    | true =>
      have HRP : Hid (RiseP m h ((D : Int) + (S : Int) - 1)) := HRI.out.mp rfl
      clear HRI
      by_cases hw : 0 ≤ want ∧ want ≤ (D : Int) + (S : Int) - 1
      · have HW : Hid (0 ≤ want ∧ want ≤ (D : Int) + (S : Int) - 1) := hw
        have CL := l1In_yes want 0 ((D : Int) + (S : Int) - 1) hw.1 hw.2 w2
        have CH := l1Has_any (.slice ao m cap) m h h1 want w2 (HO.out.below B2 hh).rd
        clear hw x0 x1 y0 y1
        go_wp2_with fail
        refine CL.mono ?_
        rintro e w3 ⟨rfl, hw3⟩
        obtain rfl := hw3.symm
        clear CL
        go_wp2_with fail
        refine CH.mono ?_
        rintro e w3 ⟨b3, rfl, hb3, b3'⟩
        have HH : Hid (b3 = true ↔ HasP m h want) := hb3
        have B3 : Below w.heap.size w w3 := B2.trans (b3'.mono B2.size)
        have X3 : Box w3 w.heap.size #[.int .i64 0, .slice none 0 0] 36 := X2.below b3' z2
        have z3 : w.heap.size < w3.heap.size := X3.lt
        obtain ⟨x0, x1, y0, y1⟩ := res_cells X3
        clear hb3 b3' X2 B2 z2 CH
        cases b3 with
        | true =>
          have HY : Hid (HasP m h want) := HH.out.mp rfl
          clear HH
          go_wp2
          exact bodyPost_ret (v := bytesR 7 (.slice none 0 0)) (by simp [results, Try.results35, go_sem, bytesR, x0, x1]) rfl ⟨7, _, rfl, .inr (.inr (.inr (.inl ⟨rfl, HSH.out, HRP.out, HW.out, HY.out⟩))), own_nil _ _ _ _, (B3.setCell (Nat.le_refl _) _).setCell (Nat.le_refl _) _⟩
        | false =>
          have HN : Hid (¬ HasP m h want) := fun hh => by have := HH.out.mpr hh; cases this
          clear HH
          by_cases hlt : m < D
          · have tl : (m : Int) < (D : Int) := by omega
            go_wp2
            exact bodyPost_ret (v := bytesR 10 (.slice none 0 0)) (by simp [results, Try.results35, go_sem, bytesR, x0, x1]) rfl ⟨10, _, rfl, .inr (.inr (.inr (.inr (.inl ⟨rfl, HSH.out, HRP.out, HW.out, HN.out, tl⟩)))), own_nil _ _ _ _, (B3.setCell (Nat.le_refl _) _).setCell (Nat.le_refl _) _⟩
          · have tl : decide ((m : Int) < (D : Int)) = false := by simp; omega
            have hw := HW.out
            obtain ⟨W, rfl⟩ : ∃ W : Nat, want = W := ⟨want.toNat, by omega⟩
            obtain ⟨n1, n2, n3⟩ := rise_nat' (n := D) HRP.out (by omega)
            have CX := l3Share_any D W (.slice ao m cap) m h (fun k => (h k).toNat) l1 h1 w3 (HO.out.below B3 hh) (Nat.le_trans hh B3.size) n1 (by omega) hm9 (by omega) (by omega) (fun k hk => by have := n2 k hk; show (h k).toNat < D + 2; omega) n3 (by omega)
            clear n1 n2 n3 hw x0 x1 y0 y1
            go_wp2_with fail
            refine CX.mono ?_
            rintro e w4 ⟨v4, rfl, o4, b4⟩
            obtain ⟨ao4, cap4, rfl⟩ := o4.slice
            have HO4 : Hid (Own w4 w3.heap.size w4.heap.size (.slice ao4 m cap4) m (shareN D (fun k => (h k).toNat) W)) := o4
            have B4 : Below w.heap.size w w4 := B3.trans (b4.mono (by omega))
            have X4 : Box w4 w.heap.size #[.int .i64 0, .slice none 0 0] 36 := X3.below b4 z3
            have z4 := X4.lt
            obtain ⟨x0, x1, y0, y1⟩ := res_cells X4
            clear o4 b4 CX X4 X3
            go_wp2
            refine bodyPost_ret (v := bytesR 0 (.slice ao4 m cap4)) (by simp [results, Try.results35, go_sem, bytesR, x0, x1]) rfl ⟨0, _, rfl, .inr (.inr (.inr (.inr (.inr ⟨rfl, HSH.out, HRP.out, HW.out, HN.out, by omega⟩)))), ?_, (B4.setCell (Nat.le_refl _) _).setCell (Nat.le_refl _) _⟩
            have o1 := out_store w4 w.heap.size (w.heap.size + 1) w.heap.size 0 (.int .i64 0) (Nat.le_refl _) (by omega)
            have o2 := out_store (w4.setCell ⟨w.heap.size, 0, none⟩ (.int .i64 0)) w.heap.size (w.heap.size + 1) w.heap.size 1 (.slice ao4 m cap4) (Nat.le_refl _) (by omega)
            simp only [if_pos]
            rw [Int.toNat_natCast, Int.toNat_natCast]
            exact (HO4.out.out (o1.trans o2) (.inr (by omega))).weaken (by omega) (by rw [(o1.trans o2).size]; exact Nat.le_refl _)
      · have HNW : Hid (¬ (0 ≤ want ∧ want ≤ (D : Int) + (S : Int) - 1)) := hw
        have CL := l1In_no want 0 ((D : Int) + (S : Int) - 1) (by omega) w2
        clear hw
        go_wp2_with fail
        refine CL.mono ?_
        rintro e w3 ⟨rfl, hw3⟩
        obtain rfl := hw3.symm
        clear CL
        go_wp2
        exact bodyPost_ret (v := bytesR 3 (.slice none 0 0)) (by simp [results, Try.results35, go_sem, bytesR, x0, x1]) rfl ⟨3, _, rfl, .inr (.inr (.inl ⟨rfl, HSH.out, HRP.out, HNW.out⟩)), own_nil _ _ _ _, (B2.setCell (Nat.le_refl _) _).setCell (Nat.le_refl _) _⟩
end Go.Proofs.Ytoadjpacchhleaa

namespace Go.Proofs.Ytoadjpacchhleaa
open Go.RowKit F256
set_option linter.unusedVariables false
set_option linter.unusedSimpArgs false

/-- what the program's ShareOf answers -/
def ShaCok : Prop := ∀ (g c want : Int) (v : Value) (m : Nat) (h : Nat → Int) (l1 h1 : Nat) (w : World), OwnI w l1 h1 v m h → h1 ≤ w.heap.size → m ≤ 1000 → (∀ i, -9223372036854775808 ≤ h i ∧ h i ≤ 9223372036854775807) →
  Calls Try.prog 34 #[.int .i64 g, .int .i64 c, v, .int .i64 want] w fun ee w' => ∃ x v', ee = .returned (bytesR x v') ∧ ShAns g c m h want x ∧ Own w' w.heap.size w'.heap.size v' (if x = 0 then m else 0) (shareN g.toNat (fun k => (h k).toNat) want.toNat) ∧ Below w.heap.size w w'
def AdsCok : Prop := ∀ (v1 v2 : Value) (n m : Nat) (f g : Nat → Nat) (c : Nat) (h1 h2 : Nat) (w : World), Rd w h1 v1 n f → Rd w h2 v2 m g → h1 ≤ w.heap.size → h2 ≤ w.heap.size → (∀ i, f i < 256) → (∀ i, g i < 256) → c < 256 →
  Calls Try.prog 36 #[v1, v2, .int .u8 c] w fun ee w' => ∃ x v', ee = .returned (bytesR x v') ∧ AdsAns n m x ∧ Own w' w.heap.size w'.heap.size v' (if x = 0 then n else 0) (adsN f g c) ∧ Below w.heap.size w w'

theorem fieldS0 (a : Int) (v : Value) (w : World) : (Instr.field 36 (.agg #[.int .i64 a, v]) 0).run Try.prog w = .ok (.int .i64 a) w := by kernel_rfl
theorem fieldS1 (a : Int) (v : Value) (w : World) : (Instr.field 36 (.agg #[.int .i64 a, v]) 1).run Try.prog w = .ok v w := by kernel_rfl
theorem fieldL1 (a : Int) (v : Value) (w : World) : (Instr.field 53 (.agg #[.int .i64 a, v]) 1).run Try.prog w = .ok v w := by kernel_rfl
/-- a literal of two bytes -/
theorem own_lit2 (w : World) (x y : Nat) : Own (w.alloc (.cells #[.int .u8 x, .int .u8 y] 5)) w.heap.size (w.alloc (.cells #[.int .u8 x, .int .u8 y] 5)).heap.size (.slice (some ⟨w.heap.size, 0, none⟩) 2 2) 2 (fun i => if i = 0 then x else y) := by
  have h := World.ownsRow_lit (base := w.heap.size) (e := 5) (size := 1) w #[.int .u8 x, .int .u8 y] 2 (Nat.le_refl _) (by unfold maxLen; omega) rfl
  exact ⟨h, fun k hk => (h.lt k hk).2⟩

set_option maxHeartbeats 8000000 in
theorem fnShares_over (HSC : ShaCok) (HEC : EncCok) (HAC : AdsCok) (v : Value) (n0 : Nat) (f0 : Nat → Nat) (k0 : ∀ i, f0 i < 256) (w : World) (r0 : Rd w w.heap.size v n0 f0) :
    Calls Try.prog 8 #[v] w fun e w' => e = .returned (.bool true) ∧ Below w.heap.size w w' := by
  by_cases hbig : 1048576 < n0
  · go_enter Try.func8, Try.ntmps8
    go_wp2_with fail
    refine (lwBig_yes _ n0 f0 _ _ r0 hbig).mono ?_
    rintro e w1 ⟨rfl, hw1⟩
    obtain rfl := hw1.symm
    go_wp2
    go_ret
    exact ⟨rfl, Below.refl _ _⟩
  have HR0 : Hid (Rd w w.heap.size v n0 f0) := r0
  have HK0 : Hid (∀ i, f0 i < 256) := k0
  have HE : Hid EncCok := HEC
  have HAD : Hid AdsCok := HAC
  go_enter Try.func8, Try.ntmps8
  go_wp2_with fail
  refine (lwBig_no _ n0 f0 _ _ r0 (by omega)).mono ?_
  rintro e w1 ⟨rfl, hw1⟩
  obtain rfl := hw1.symm
  go_wp2_with fail
  refine (drawShare_any _ n0 f0 _ r0 k0 (by omega)).mono ?_
  rintro e w1 ⟨a, b, want, vh, m, h, rfl, oh, hm9, hhb, ha1, ha2, hb1, hb2, hw1, hw2, b1⟩
  obtain ⟨aoh, caph, rfl⟩ := oh.slice
  have HOH : Hid (OwnI w1 w.heap.size w1.heap.size (.slice aoh m caph) m h) := oh
  have CS := HSC a b want _ m h _ _ w1 oh (Nat.le_refl _) (by omega) (fun i => by have := hhb i; omega)
  clear r0 k0 oh hhb HSC HEC HAC
  go_wp2_with fail
  refine CS.mono ?_
  rintro e w2 ⟨x, vr, rfl, hans, og, b2⟩
  have HA : Hid (ShAns a b m h want x) := hans
  obtain ⟨nb, hnb⟩ : ∃ nb, nb = (if x = 0 then m else 0) := ⟨_, rfl⟩
  rw [← hnb] at og
  obtain ⟨aor, capr, rfl⟩ := og.slice
  have HG : Hid (Own w2 w1.heap.size w2.heap.size (.slice aor nb capr) nb (shareN a.toNat (fun k => (h k).toNat) want.toNat)) := og
  have HNB : Hid (nb = (if x = 0 then m else 0)) := hnb
  have HB1 : Hid (Below w.heap.size w w1) := b1
  have HB2 : Hid (Below w1.heap.size w1 w2) := b2
  have s1 := b1.size
  have s2 := b2.size
  unfold bytesR
  clear CS hans og hnb b1 b2
  by_cases hx : x = 0
  · subst hx
    have hfacts : Shp3 a b ∧ RiseP m h (a + b - 1) ∧ (0 ≤ want ∧ want ≤ a + b - 1) ∧ a ≤ (m : Int) := by
      rcases HA.out with ⟨h, _⟩ | ⟨h, _⟩ | ⟨h, _⟩ | ⟨h, _⟩ | ⟨h, _⟩ | ⟨_, h1, h2, h3, _, h4⟩
      · omega
      · omega
      · omega
      · omega
      · omega
      · exact ⟨h1, h2, h3, h4⟩
    obtain ⟨hsh, hrise, hwant, ham⟩ := hfacts
    have HSH0 : Hid (Shp3 a b) := hsh
    obtain ⟨q1, q2, q3, q4⟩ := hsh
    obtain ⟨D, rfl⟩ : ∃ D : Nat, a = D := ⟨a.toNat, by omega⟩
    obtain ⟨c, rfl⟩ : ∃ c : Nat, b = c := ⟨b.toNat, by omega⟩
    obtain ⟨W, rfl⟩ : ∃ W : Nat, want = W := ⟨want.toNat, by omega⟩
    obtain rfl : nb = m := by rw [HNB.out]; simp
    obtain ⟨hv, hhv⟩ : ∃ hv : Nat → Nat, hv = fun k => (h k).toNat := ⟨_, rfl⟩
    obtain ⟨n1, n2, n3⟩ := rise_nat' hrise (Nat.le_refl nb)
    have N1 : ∀ k, k < nb → h k = (hv k : Int) := fun k hk => by rw [hhv]; exact n1 k hk
    have N2 : ∀ k, k < nb → hv k < D + c := fun k hk => by have := n2 k hk; rw [hhv]; show (h k).toNat < D + c; omega
    have N3 : ∀ k, k + 1 < nb → hv k < hv (k + 1) := fun k hk => by rw [hhv]; exact n3 k hk
    have HN1 : Hid (∀ k, k < nb → h k = (hv k : Int)) := N1
    have HN2 : Hid (∀ k, k < nb → hv k < D + c) := N2
    have HN3 : Hid (∀ k, k + 1 < nb → hv k < hv (k + 1)) := N3
    rw [Int.toNat_natCast, Int.toNat_natCast, ← hhv] at HG
    have hWD : W < D + c := by omega
    have hDn : D ≤ nb := by omega
    obtain ⟨gr, capr', hvr, hgr1, hgr2, hgr3, hgr4⟩ := HG.out.form (by omega)
    cases hvr
    obtain ⟨gh, caph', hvh, hgh1, hgh2, hgh3, hgh4⟩ := HOH.out.form (by omega)
    cases hvh
    clear hrise hwant ham n1 n2 n3 N1 N2 N3 hhv HNB HA hw1 hw2
    have bx : Below w2.heap.size w2 (w2.alloc (.cells #[.int .i64 0, .slice (some ⟨gr, 0, none⟩) nb capr] 36)) := (Below.refl _ _).alloc (Nat.le_refl _) _
    have X3 : Box (w2.alloc (.cells #[.int .i64 0, .slice (some ⟨gr, 0, none⟩) nb capr] 36)) w2.heap.size #[.int .i64 0, .slice (some ⟨gr, 0, none⟩) nb capr] 36 := box_new _ _ _
    obtain ⟨w3, hw3⟩ : ∃ w3, w3 = w2.alloc (.cells #[.int .i64 0, .slice (some ⟨gr, 0, none⟩) nb capr] 36) := ⟨_, rfl⟩
    rw [← hw3] at bx X3
    have HZ3 : Hid (w2.heap.size + 1 = w3.heap.size) := by show w2.heap.size + 1 = w3.heap.size; rw [hw3]; simp
    have z3 : w2.heap.size < w3.heap.size := X3.lt
    have HX3 : Hid (Box w3 w2.heap.size #[.int .i64 0, .slice (some ⟨gr, 0, none⟩) nb capr] 36) := X3
    have HB3 : Hid (Below w2.heap.size w2 w3) := bx
    have s3 := bx.size
    have hl := World.ownsRow_lit (base := w3.heap.size) (e := 22) (size := 1) w3 #[] 0 (Nat.le_refl _) (Nat.zero_le _) rfl
    have B0 : BldR (w3.alloc (.cells #[] 22)) w3.heap.size (w3.alloc (.cells #[] 22)).heap.size (.slice (some ⟨w3.heap.size, 0, none⟩) 0 0) 0 (fun _ => 2) (fun _ _ => 0) (fun _ => nilS) := ⟨hl, by simp, fun b hb => (hl.lt b hb).2, fun i hi => by omega, fun i j hi => by omega, by simp, Nat.le_refl _⟩
    clear bx X3 hl
    go_wp2
    rw [← hw3]
    clear hw3
    go_loopw [8, 9] (fun u i wr => ∃ k : Nat, k ≤ D ∧ i = .int .i64 k ∧ ∃ ff e, BldR wr w3.heap.size wr.heap.size u k (fun _ => 2) ff e ∧ Byt ff ∧ Below w3.heap.size w3 wr) (fun _ i _ => D - (intOf i).toNat)
    case atStart => exact ⟨0, Nat.zero_le _, rfl, fun _ _ => 0, fun _ => nilS, by rw [HZ3.out]; exact B0, fun _ _ => by show (0 : Nat) < 256; omega, (Below.refl _ _).alloc (Nat.le_refl _) _⟩
    case round =>
      clear B0
      obtain ⟨k, hk, rfl, ff, e, hB, kff, hbel⟩ := hrel
      have szr := hbel.size
      by_cases hlt : k < D
      · have bw : Below w.heap.size w wr := HB1.out.trans ((HB2.out.mono s1).trans ((HB3.out.mono (by omega)).trans (hbel.mono (by omega))))
        have HBw : Hid (Below w.heap.size w wr) := bw
        have CL := lwAt_any _ n0 f0 k 256 (by omega) (by omega) (by omega) w.heap.size wr (HR0.out.below bw (Nat.le_refl _)) HK0.out (by omega)
        have e2 : ((256 : Nat) : Int) = 256 := rfl
        rw [e2] at CL
        have HB : Hid (BldR wr w3.heap.size wr.heap.size u8 k (fun _ => 2) ff e) := hB
        have HF : Hid (Byt ff) := kff
        have HBL : Hid (Below w3.heap.size w3 wr) := hbel
        clear hB kff hbel bw e2
        go_wp2_with fail
        refine CL.mono ?_
        rintro ee w4 ⟨r, hr, rfl, b4⟩
        have B4 : Below w.heap.size w w4 := HBw.out.trans (b4.mono HBw.out.size)
        have CL2 := lwAt_any _ n0 f0 (k + 7) 256 (by omega) (by omega) (by omega) w.heap.size w4 (HR0.out.below B4 (Nat.le_refl _)) HK0.out (by omega)
        have e1 : ((k + 7 : Nat) : Int) = (k : Int) + 7 := by simp
        have e2 : ((256 : Nat) : Int) = 256 := rfl
        rw [e1, e2] at CL2
        have HB4 : Hid (Below wr.heap.size wr w4) := b4
        have hrm : (r : Int) % 256 = (r : Int) := by omega
        have hrn : r % 256 = r := by omega
        clear CL b4 B4 e1 e2
        go_wp2_with fail
        refine CL2.mono ?_
        rintro ee w5 ⟨r2, hr2, rfl, b5⟩
        have hrm2 : (r2 : Int) % 256 = (r2 : Int) := by omega
        have hrn2 : r2 % 256 = r2 := by omega
        have b45 : Below wr.heap.size wr w5 := HB4.out.trans (b5.mono HB4.out.size)
        have s45 := b45.size
        obtain ⟨w6, hw6⟩ : ∃ w6, w6 = w5.alloc (.cells #[.int .u8 r, .int .u8 r2] 5) := ⟨_, rfl⟩
        have o6 := own_lit2 w5 r r2
        rw [← hw6] at o6
        have b6 : Below wr.heap.size wr w6 := by rw [hw6]; exact b45.alloc s45 _
        have s6 : w5.heap.size + 1 = w6.heap.size := by rw [hw6]; simp
        have HS6 : Hid (w5.heap.size + 1 = w6.heap.size) := s6
        have HBX : Hid (BldR w6 w3.heap.size wr.heap.size u8 k (fun _ => 2) ff e) := HB.out.kept (fun b h1 h2 => b6.block b h2) b6.size
        have HW6 : Hid (w6 = w5.alloc (.cells #[.int .u8 r, .int .u8 r2] 5)) := hw6
        have hz6 : w3.heap.size ≤ w5.heap.size := by omega
        clear CL2 b5 HB hw6 s6
        go_wp2_with (at_builtin; refine wp_appendM rfl (.tmp 45) (.tmp 56) rfl w3.heap.size u8 k e ?_ ?_ (w5.heap.size + 1) 1 (.slice (some ⟨w5.heap.size, 0, none⟩) 2 2) ?_ ?_ rfl (by omega) ?_ ?_; (simp [Act.eval]); (rw [hrm, hrm2] at *; exact (by have hh := HBX.out.row.alloc (.cells #[.slice (some ⟨w5.heap.size, 0, none⟩) 2 2] 22); rw [HW6.out] at hh; exact hh)); (simp [Act.eval]); (simp); (simp; omega); intro v9 w9 hr9 hg9 hn9)
        rw [← HW6.out] at hg9
        have NX := HBX.out.next (n' := fun _ => 2) (f' := fun i => if i = k then (fun j => if j = 0 then r else r2) else ff i) (by simpa using o6) s45 (fun _ _ => rfl) (fun i hi => by simp [show ¬ i = k by omega]) hr9 hg9 hn9
        have b9 : Below w3.heap.size w6 w9 := ((Below.refl w3.heap.size w6).alloc (by have := HS6.out; omega) _).grown hg9 (by simp; have := HS6.out; omega) (fun b hb' => (HBX.out.row.lt b hb').1)
        have R2 : Below w3.heap.size w3 w9 := (HBL.out.trans (b6.mono szr)).trans b9
        have R3 : Byt (fun i => if i = k then (fun j => if j = 0 then r else r2) else ff i) := fun i j => by
          show (if i = k then (fun j => if j = 0 then r else r2) else ff i) j < 256
          by_cases c : i = k
          · rw [if_pos c]
            show (if j = 0 then r else r2) < 256
            split <;> omega
          · rw [if_neg c]; exact HF.out i j
        clear hr9 hg9 hn9 b9 o6 b6 HBX HW6 HS6 b45
        go_wp2
        go_roundw
        case rel => exact ⟨k + 1, by omega, by go_num, _, _, NX, R3, R2⟩
        case measure => simp [intOf]; omega
      · obtain rfl : k = D := by omega
        obtain ⟨g8, cap8, hE8⟩ := hB.done
        have hv8 := hE8.val
        subst hv8
        have HE8 : Hid (OwnE wr w3.heap.size wr.heap.size (.slice (some ⟨g8, 0, none⟩) k cap8) k (fun _ => 2) ff g8 cap8 e) := hE8
        have HKF : Hid (Byt ff) := kff
        have HBL : Hid (Below w3.heap.size w3 wr) := hbel
        have hg8 : g8 < wr.heap.size := hE8.high
        have rl := hE8.rd
        obtain ⟨wB, hwB⟩ : ∃ wB, wB = wr.alloc (.cells #[] 22) := ⟨_, rfl⟩
        have HLA : Hid (RowsAt (wr.alloc (.cells #[] 22)) (some ⟨g8, 0, none⟩) k fun i => e (0 + i)) := ⟨fun _ => ⟨g8, 0, rfl, fun i hi => by
            simp only [Nat.zero_add]
            exact (cell_alloc_old wr _ g8 i hg8).trans (hE8.cell i hi)⟩, fun i hi => by
            simp only [Nat.zero_add]
            obtain ⟨a1, a2, a3⟩ := (hE8.each i hi).slice
            rw [a3]
            rfl⟩
        have HRL : Hid (RdM wr wr.heap.size (.slice (some ⟨g8, 0, none⟩) k cap8) k (fun _ => 2) ff) := rl
        have hnk : ¬ ((k : Int) < (k : Int)) := by omega
        clear hB hE8 kff hbel rl hwB wB
        go_wp2_with (at_builtin; refine wp_appendRowsG rfl (.tmp 58) (.tmp 59) rfl wr.heap.size (.slice (some ⟨wr.heap.size, 0, none⟩) 0 0) 0 e ?_ ?_ (some ⟨g8, 0, none⟩) k cap8 ?_ ?_ (by omega) ?_ ?_; (simp [Act.eval]); exact World.ownsRow_lit (base := wr.heap.size) (e := 22) (size := 1) wr #[] 0 (Nat.le_refl _) (Nat.zero_le _) rfl; (simp [Act.eval]); exact HLA.out; simp; intro v10 w10 hr10 hg10)
        simp only [Nat.zero_add] at hr10
        have B10 : Below wr.heap.size wr w10 := below_lit (o := .cells #[] 22) hg10 rfl rfl rfl rfl
        have s10 := B10.size
        have CE := HE.out _ k (fun _ => 2) ff (c : Int) wr.heap.size w10 (HRL.out.below B10 (Nat.le_refl _)) s10 HKF.out ⟨by omega, by omega⟩
        have HCE : Hid (CeAns k (fun _ => 2) (c : Int) 0) := .inr (.inr (.inr ⟨rfl, HSH0.out, fun _ _ => rfl, by show (2 : Nat) ≤ 4000; omega⟩))
        have HR10 : Hid (w10.ownsRow wr.heap.size 22 1 v10 k (valsOf k e)) := hr10
        have HB10 : Hid (Below wr.heap.size wr w10) := B10
        clear hr10 hg10 B10 HLA HRL
        refine CE.mono ?_
        rintro ee w11 ⟨x11, v11, rfl, ha11, o11, b11⟩
        obtain rfl : x11 = 0 := ha11.one HCE.out
        simp only [if_pos] at o11
        rw [Int.toNat_natCast] at o11
        obtain ⟨ao11, cap11, ep, hv11, hml11, hrp1, hrp2, hk11⟩ := o11
        subst hv11
        obtain ⟨ea, hea⟩ : ∃ ea : Nat → Value, ea = fun i => if i < k then e i else ep (i - k) := ⟨_, rfl⟩
        have ea1 : ∀ i, i < k → ea i = e i := fun i hi => by rw [hea]; simp [hi]
        have ea2 : ∀ i, i < c → ea (k + i) = ep i := fun i hi => by
          rw [hea]
          show (if k + i < k then e (k + i) else ep (k + i - k)) = ep i
          rw [if_neg (by omega), show k + i - k = i by omega]
        have s11 := b11.size
        have b811 : Below wr.heap.size wr w11 := HB10.out.trans (b11.mono s10)
        have HK11 : Hid (∀ w'' : World, (∀ b, w10.heap.size ≤ b → b < w11.heap.size → w''.heap[b]? = w11.heap[b]?) → ∀ i, i < c → Rd w'' w11.heap.size (ea (k + i)) 2 (parN k ff i)) := fun w'' hw i hi => by rw [ea2 i hi]; exact hk11 w'' hw i hi
        have HEA1 : Hid (∀ i, i < k → ea i = e i) := ea1
        have HL10 : Hid (∀ q, v10.ownBlock = some q → q < w10.heap.size) := fun q hq => (HR10.out.lt q hq).2
        have HP : Hid (RowsAt w11 ao11 c fun i => ea (k + i)) := hrp1.shift ea2
        have HR11 : Hid (w11.ownsRow wr.heap.size 22 1 v10 k (valsOf k ea)) := by
          show w11.ownsRow wr.heap.size 22 1 v10 k (valsOf k ea)
          rw [valsOf_eq (g := e) ea1]
          exact row_kept HR10.out fun q hq => b11.block q (HR10.out.lt q hq).2
        have HB11 : Hid (Below wr.heap.size wr w11) := b811
        unfold bytesR
        have hfl := fieldL1 0 (.slice ao11 c cap11)
        clear CE ha11 b11 b811 hrp1 hrp2 hk11 ea1 ea2 hea HCE HR10
        go_wp2_with (at_builtin; refine wp_appendRowsG rfl (.tmp 60) (.tmp 64) rfl wr.heap.size v10 k ea ?_ ?_ ao11 c cap11 ?_ ?_ (by omega) ?_ ?_; (simp [Act.eval]); exact HR11.out; (simp [Act.eval]); exact HP.out; exact HB11.out.size; intro v12 w12 hr12 hg12; have B12 : Below wr.heap.size wr w12 := HB11.out.grown hg12 HB11.out.size (fun q hq => (HR11.out.lt q hq).1); obtain ⟨g12, cap12, hv12, hg121, hg122⟩ := row_form hr12 (by omega); subst hv12; obtain ⟨x0, x1, -, -⟩ := res_cells (HX3.out.below (HBL.out.trans (B12.mono szr)) z3))
        have s12 := B12.size
        have hgr12 : gr < wr.heap.size := by omega
        have hgh12 : gh < wr.heap.size := by omega
        obtain ⟨w13, hw13⟩ : ∃ w13, w13 = w12.alloc (.cells #[.int .u8 (0 : Nat), .int .u8 (0 : Nat)] 5) := ⟨_, rfl⟩
        have o13 := own_lit2 w12 0 0
        rw [← hw13] at o13
        have b13 : Below w12.heap.size w12 w13 := by rw [hw13]; exact (Below.refl _ _).alloc (Nat.le_refl _) _
        have s13 := b13.size
        have HW13 : Hid (w12.alloc (.cells #[.int .u8 (0 : Nat), .int .u8 (0 : Nat)] 5) = w13) := hw13.symm
        have HB12 : Hid (Below wr.heap.size wr w12) := B12
        have HR12 : Hid (w12.ownsRow wr.heap.size 22 1 (.slice (some ⟨g12, 0, none⟩) (k + c) cap12) (k + c) (valsOf (k + c) ea)) := hr12
        have s1112 : w11.heap.size ≤ w12.heap.size := hg12.size
        have HEA : Hid (∀ i, i < k + c → Rd w12 w12.heap.size (ea i) 2 (allN k ff i)) := fun i hi => by
          by_cases cc : i < k
          · rw [HEA1.out i cc]
            unfold allN
            rw [if_pos cc]
            exact ((HE8.out.each i cc).rd.below HB12.out (Nat.le_refl _)).mono (by omega)
          · have := HK11.out w12 (fun b h1 h2 => hg12.block b h2 (fun hh => by have := HL10.out b hh.symm; omega)) (i - k) (by omega)
            rw [show k + (i - k) = i by omega] at this
            unfold allN
            rw [if_neg cc]
            exact this.mono s1112
        have ew : w12.alloc (.cells #[.int .u8 0, .int .u8 0] 5) = w13 := hw13.symm
        have R13 : Rd w13 w13.heap.size (.slice (some ⟨w12.heap.size, 0, none⟩) 2 2) 2 (topN (shareN k hv W) (fun q => allN k ff (hv q)) nb 0) := (o13.congr (fun i _ => by show (if i = 0 then 0 else 0) = 0; split <;> rfl)).rd
        clear hw13 o13 B12 hr12 hg12 x0 x1
        rw [ew]
        clear ew
        have HBR : Hid (Below wr.heap.size wr w13) := HB12.out.trans (b13.mono s12)
        have s813 := HBR.out.size
        have HEA3 : Hid (∀ i, i < k + c → Rd w13 w12.heap.size (ea i) 2 (allN k ff i)) := fun i hi => (HEA.out i hi).below b13 (Nat.le_refl _)
        have HC12 : Hid (∀ i, i < k + c → w13.cell? ⟨g12, i, none⟩ = some (ea i)) := fun i hi => (b13.cell (p := ⟨g12, i, none⟩) hg122).trans ((HR12.out.cellAt i (by omega)).trans (valsOf_get _ _ _ hi))
        have b2w : Below w2.heap.size w2 w13 := HB3.out.trans ((HBL.out.mono s3).trans (HBR.out.mono (by omega)))
        have HCR : Hid (∀ i, i < nb → w13.cell? ⟨gr, i, none⟩ = some (.int .u8 (shareN k hv W i))) := fun i hi => (b2w.cell (p := ⟨gr, i, none⟩) hgr2).trans ((HG.out.1.cellAt i (by omega)).trans (cellsOf_get _ _ _ hi))
        have HCHv : Hid (∀ i, i < nb → w13.cell? ⟨gh, i, none⟩ = some (.int .i64 (hv i : Int))) := fun i hi => by
          rw [((HB2.out.trans (b2w.mono s2)).cell (p := ⟨gh, i, none⟩) hgh2), HOH.out.1.cellAt i (by omega), intsOf_get _ _ _ hi, HN1.out i hi]
        have HX13 : Hid (Box w13 w2.heap.size #[.int .i64 0, .slice (some ⟨gr, 0, none⟩) nb capr] 36) := HX3.out.below (HBL.out.trans (HBR.out.mono szr)) z3
        have BW13 : Hid (Below w.heap.size w w13) := HB1.out.trans ((HB2.out.mono s1).trans (b2w.mono (by omega)))
        have z13 : w2.heap.size < w13.heap.size := HX13.out.lt
        clear b13 b2w
        go_loopw [11, 12] (fun u i wq => ∃ d : Nat, d ≤ nb ∧ i = .int .i64 ((nb : Int) - 1 - (d : Int)) ∧ Rd wq wq.heap.size u 2 (topN (shareN k hv W) (fun q => allN k ff (hv q)) nb d) ∧ Below w13.heap.size w13 wq) (fun _ i _ => (intOf i + 1).toNat)
        case atStart => exact ⟨0, Nat.zero_le _, by simp, R13, Below.refl _ _⟩
        case round =>
          clear R13
          obtain ⟨d, hd, rfl, hrd, hb⟩ := hrel
          have HB : Hid (Below w13.heap.size w13 wr) := hb
          have HRD : Hid (Rd wr wr.heap.size u11 2 (topN (shareN k hv W) (fun q => allN k ff (hv q)) nb d)) := hrd
          have kr : ∀ i, shareN k hv W i < 256 := shareN_lt k hv W
          obtain ⟨x0, x1, -, -⟩ := res_cells (HX13.out.below hb z13)
          by_cases hlt : d < nb
          · obtain ⟨j, hj⟩ : ∃ j, j = nb - 1 - d := ⟨_, rfl⟩
            have hjn : j < nb := by omega
            have ej : (nb : Int) - 1 - (d : Int) = (j : Int) := by omega
            obtain ⟨P, hP⟩ : ∃ P, P = hv j := ⟨_, rfl⟩
            have hPk : P < k + c := by rw [hP]; exact HN2.out j hjn
            have c1 : wr.cell? ⟨gh, j, none⟩ = some (.int .i64 (P : Int)) := by rw [hP]; exact (hb.cell (p := ⟨gh, j, none⟩) (by show gh < w13.heap.size; omega)).trans (HCHv.out j hjn)
            have c2 : wr.cell? ⟨g12, P, none⟩ = some (ea P) := (hb.cell (p := ⟨g12, P, none⟩) (by show g12 < w13.heap.size; omega)).trans (HC12.out P hPk)
            have c3 : wr.cell? ⟨gr, j, none⟩ = some (.int .u8 (shareN k hv W j)) := (hb.cell (p := ⟨gr, j, none⟩) (by show gr < w13.heap.size; omega)).trans (HCR.out j hjn)
            have rP := (HEA3.out P hPk).below hb s13
            obtain ⟨y, hy⟩ : ∃ y, y = ea P := ⟨_, rfl⟩
            rw [← hy] at c2 rP
            obtain ⟨z, hz⟩ : ∃ z, z = shareN k hv W j := ⟨_, rfl⟩
            rw [← hz] at c3
            have hz256 : z < 256 := by rw [hz]; exact kr j
            have szr2 := hb.size
            have CA : ∀ q, Calls Try.prog 36 #[u11, y, .int .u8 z] (wr.drewN q) fun ee w' => ∃ x v', ee = .returned (bytesR x v') ∧ AdsAns 2 2 x ∧ Own w' (wr.drewN q).heap.size w'.heap.size v' (if x = 0 then 2 else 0) (adsN (topN (shareN k hv W) (fun q => allN k ff (hv q)) nb d) (allN k ff P) z) ∧ Below (wr.drewN q).heap.size (wr.drewN q) w' := fun q => HAD.out u11 y 2 2 _ (allN k ff P) z wr.heap.size w12.heap.size (wr.drewN q) HRD.out rP (Nat.le_refl _) (by show w12.heap.size ≤ wr.heap.size; omega) (fun i => topN_lt kr d i) (fun i => allN_byt HKF.out P i) hz256
            have CA1 := CA 1
            have HTP : Hid (∀ t, adsN (topN (shareN k hv W) (fun q => allN k ff (hv q)) nb d) (allN k ff P) z t = topN (shareN k hv W) (fun q => allN k ff (hv q)) nb (d + 1) t) := fun t => by
              show topN (shareN k hv W) (fun q => allN k ff (hv q)) nb d t ^^^ mulN z (allN k ff P t) = topN (shareN k hv W) (fun q => allN k ff (hv q)) nb d t ^^^ mulN (shareN k hv W (nb - 1 - d)) (allN k ff (hv (nb - 1 - d)) t)
              rw [← hj, hz, hP]
            have HADS : Hid (AdsAns 2 2 0) := .inr (.inr ⟨rfl, rfl, by omega⟩)
            obtain ⟨aoy, capy, hsy, _, _⟩ := rP
            subst hsy
            obtain ⟨aou, capu, hsu, _, _⟩ := hrd
            subst hsu
            have hfd := fun (vv : Value) => fieldS1 0 vv
            have hjni : (j : Int) < (nb : Int) := by omega
            have hPki : (P : Int) < (k : Int) + (c : Int) := by omega
            have HEJ : Hid ((nb : Int) - 1 - (d : Int) = (j : Int)) := ej
            have HJ : Hid (j = nb - 1 - d) := hj
            rw [ej]
            clear hb hy hz hP CA kr ej hj
            go_wp2
            go_region_with (go_at_call 36; refine CA1.mono ?_; rintro ee w15 ⟨x15, v15, rfl, ha15, o15, b15⟩; obtain rfl := ha15.one HADS.out; simp only [if_pos] at o15; obtain ⟨ao15, cap15, rfl⟩ := o15.slice; unfold bytesR)
            all_goals
              have R15 : Rd w15 w15.heap.size (.slice ao15 2 cap15) 2 (topN (shareN k hv W) (fun q => allN k ff (hv q)) nb (d + 1)) := (o15.congr (fun t _ => HTP.out t)).rd
              have B15 : Below w13.heap.size w13 w15 := HB.out.trans ((undrewX b15).mono HB.out.size)
              clear b15 o15 ha15 c1 c2 c3 x0 x1 CA1
              go_wp2
              go_roundw
              case rel => exact ⟨d + 1, by omega, by (first | (have := HEJ.out; have := HJ.out; refine congrArg (Value.int IntKind.i64) ?_; omega) | go_num), R15, B15⟩
              case measure => (have := HEJ.out; have := HJ.out; simp [intOf] <;> omega)
          · obtain rfl : d = nb := by omega
            have c2 : wr.cell? ⟨g12, W, none⟩ = some (ea W) := (hb.cell (p := ⟨g12, W, none⟩) (by show g12 < w13.heap.size; omega)).trans (HC12.out W hWD)
            have rW := (HEA3.out W hWD).below hb s13
            have rS : Rd wr wr.heap.size u11 2 (allN k ff W) := by
              obtain ⟨a1, a2, a3, a4, a5⟩ := hrd
              refine ⟨a1, a2, a3, a4, fun h0 => ?_⟩
              obtain ⟨p1, p2, p3, p4, p5⟩ := a5 h0
              exact ⟨p1, p2, p3, p4, fun t ht => by rw [p5 t ht, shares_sum (by omega) (by omega) hDn (fun q hq => by have := HN2.out q hq; omega) HN3.out HKF.out]⟩
            have CW := lwBytes_same u11 (ea W) 2 (allN k ff W) wr.heap.size w12.heap.size wr rS rW
            obtain ⟨y, hy⟩ : ∃ y, y = ea W := ⟨_, rfl⟩
            rw [← hy] at c2 rW CW
            obtain ⟨aoy, capy, hsy, _, _⟩ := rW
            subst hsy
            have ej : (d : Int) - 1 - (d : Int) = -1 := by omega
            have hWi : (W : Int) < (k : Int) + (c : Int) := by omega
            have HBF : Hid (Below w.heap.size w wr) := BW13.out.trans (hb.mono BW13.out.size)
            clear hb hrd rS hy x0 x1 kr
            rw [ej]
            clear ej
            go_wp2_with fail
            refine CW.mono ?_
            rintro ee w15 ⟨rfl, b15⟩
            have BF : Below w.heap.size w w15 := HBF.out.trans (b15.mono HBF.out.size)
            clear CW b15
            go_wp2
            go_ret
            exact ⟨rfl, BF⟩
  · have HX : Hid (x ≠ 0) := hx
    have tx : (x != 0) = true := by simp [hx]
    have CSp := fun (w3 : World) (b3 : Below w2.heap.size w2 w3) => specShare_any a b want _ m h _ _ w3 ((HOH.out.below HB2.out (Nat.le_refl _)).below b3 s2) (Nat.le_trans s2 b3.size) (by omega)
    have HCS : Hid (∀ (w3 : World), Below w2.heap.size w2 w3 → Calls Try.prog 35 #[.int .i64 a, .int .i64 b, .slice aoh m caph, .int .i64 want] w3 fun ee w' => ∃ x v', ee = .returned (bytesR x v') ∧ ShAns a b m h want x ∧ Own w' w3.heap.size w'.heap.size v' (if x = 0 then m else 0) (shareN a.toNat (fun k => (h k).toNat) want.toNat) ∧ Below w3.heap.size w3 w') := CSp
    clear CSp HG HNB hx
    have hfd := fun (vv : Value) => fieldS0 x vv
    have txx : (x == x) = true := by simp
    go_wp2
    first | go_region_with (go_at_call 35; refine (HCS.out _ ?_).mono ?_; exact below_drewN ((Below.refl _ _).alloc (Nat.le_refl _) _) _; rintro e w4 ⟨x', vb', rfl, ha', ob', b4⟩; obtain rfl := ha'.one HA.out; obtain ⟨ao', cap', rfl⟩ := ob'.slice; unfold bytesR; have b4' : Below w2.heap.size w2 w4 := ((Below.refl w2.heap.size w2).alloc (Nat.le_refl _) _).trans ((undrewX b4).mono (by simp)); obtain ⟨q0, -, -, -⟩ := res_cells ((box_new w2 #[.int .i64 x', .slice aor nb capr] 36).below (undrewX b4) (by simp))) | fail
    all_goals
      have B4 : Below w.heap.size w w4 := HB1.out.trans ((HB2.out.mono s1).trans (b4'.mono (by omega)))
      clear b4 b4' q0 ob' ha'
      go_wp2
      go_ret
      exact ⟨rfl, B4⟩
end Go.Proofs.Ytoadjpacchhleaa

namespace Go.Proofs.Ytoadjpacchhleaa
open Go.RowKit F256
set_option linter.unusedVariables false
set_option linter.unusedSimpArgs false

theorem rowInBounds_any (d s : Int) (w : World) :
    Calls Try.prog 52 #[.int .i64 d, .int .i64 s] w (BoolP (Shp d s) w) := by
  by_cases h1 : 1 ≤ d
  · by_cases h2 : d ≤ 3
    · by_cases h3 : 0 ≤ s
      · by_cases h4 : s ≤ 2
        · go_enter Try.func52, Try.ntmps52
          go_wp2
          go_ret
          exact boolYes rfl ⟨by omega, by omega, by omega, by omega⟩ (Below.refl _ _)
        · have e4 : decide (s ≤ 2) = false := by simp; omega
          have H : Hid (¬ Shp d s) := fun h => h4 h.2.2.2
          clear h4
          go_enter Try.func52, Try.ntmps52
          go_wp2
          go_ret
          exact boolNo rfl H.out (Below.refl _ _)
      · have e3 : decide (0 ≤ s) = false := by simp; omega
        have H : Hid (¬ Shp d s) := fun h => h3 h.2.2.1
        clear h3
        go_enter Try.func52, Try.ntmps52
        go_wp2
        go_ret
        exact boolNo rfl H.out (Below.refl _ _)
    · have e2 : decide (d ≤ 3) = false := by simp; omega
      have H : Hid (¬ Shp d s) := fun h => h2 h.2.1
      clear h2
      go_enter Try.func52, Try.ntmps52
      go_wp2
      go_ret
      exact boolNo rfl H.out (Below.refl _ _)
  · have e1 : decide (1 ≤ d) = false := by simp; omega
    have H : Hid (¬ Shp d s) := fun h => h1 h.1
    clear h1
    go_enter Try.func52, Try.ntmps52
    go_wp2
    go_ret
    exact boolNo rfl H.out (Below.refl _ _)

theorem allThere_any (v : Value) (R : Nat) (n : Nat → Nat) (f : Nat → Nat → Nat) (hi : Nat) (N : Int) (w : World) (r : RdM w hi v R n f) :
    Calls Try.prog 56 #[.int .i64 N, v] w (BoolP (WholeP R n N) w) := by
  obtain ⟨ao, cap, e, rfl, hm, hc, he⟩ := r
  unfold maxLen at hm
  by_cases hN : (R : Int) = N
  · subst hN
    go_enter Try.func56, Try.ntmps56
    go_wp2
    go_loop [5, 12] (fun _ i => ∃ k : Nat, k ≤ R ∧ i = .int .i64 k ∧ ∀ i, i < k → n i = 4) (fun _ i => R - (intOf i).toNat)
    case atStart => exact ⟨0, Nat.zero_le _, rfl, fun i hi => by omega⟩
    case round =>
      obtain ⟨k, hk, rfl, hall⟩ := hrel
      have HALL : Hid (∀ i, i < k → n i = 4) := hall
      clear hall
      by_cases hlt : k < R
      · obtain ⟨b, off, rfl, hblt, hcell⟩ := hc (by omega)
        have hck : w.cell? ⟨b, off + k, none⟩ = some (e k) := hcell k hlt
        obtain ⟨aok, capk, hsk, hmk, hqk⟩ := he k hlt
        unfold maxLen at hmk
        rw [hsk] at hck
        obtain ⟨nk, hnk⟩ : ∃ x, x = n k := ⟨_, rfl⟩
        have HK : Hid (nk = n k) := hnk
        rw [← hnk] at hck hmk
        clear hc hcell he hsk hqk hnk
        by_cases heq : nk = 4
        · subst heq
          go_wp2
          go_round
          case rel => exact ⟨k + 1, by omega, by go_num, fun i hi => by
                        by_cases c : i = k
                        · rw [c, ← HK.out]
                        · exact HALL.out i (by omega)⟩
          case measure => simp [intOf]; omega
        · have tn : ((nk : Int) != 4) = true := by simp; omega
          go_wp2
          go_ret
          exact boolNo rfl (fun h => absurd (h.1 k hlt) (by rw [← HK.out]; exact heq)) (Below.refl _ _)
      · have hkn : k = R := by omega
        subst hkn
        go_wp2
        go_ret
        exact boolYes rfl ⟨HALL.out, rfl⟩ (Below.refl _ _)
  · have tN : ((R : Int) != N) = true := by simp [hN]
    have H : Hid (¬ WholeP R n N) := fun h => hN h.2
    clear hc he hN
    go_enter Try.func56, Try.ntmps56
    go_wp2
    go_ret
    exact boolNo rfl H.out (Below.refl _ _)

/-- so many blocks, each there or empty -/
def ThereP (R : Nat) (n : Nat → Nat) (N : Int) : Prop := (R : Int) = N ∧ ∀ i, i < R → n i = 0 ∨ n i = 4
theorem thereOrNot_any (v : Value) (R : Nat) (n : Nat → Nat) (f : Nat → Nat → Nat) (hi : Nat) (N : Int) (w : World) (r : RdM w hi v R n f) :
    Calls Try.prog 59 #[.int .i64 N, v] w (BoolP (ThereP R n N) w) := by
  obtain ⟨ao, cap, e, rfl, hm, hc, he⟩ := r
  unfold maxLen at hm
  by_cases hN : (R : Int) = N
  · subst hN
    go_enter Try.func59, Try.ntmps59
    go_wp2
    go_loop [5, 12] (fun _ i => ∃ k : Nat, k ≤ R ∧ i = .int .i64 k ∧ ∀ i, i < k → n i = 0 ∨ n i = 4) (fun _ i => R - (intOf i).toNat)
    case atStart => exact ⟨0, Nat.zero_le _, rfl, fun i hi => by omega⟩
    case round =>
      obtain ⟨k, hk, rfl, hall⟩ := hrel
      have HALL : Hid (∀ i, i < k → n i = 0 ∨ n i = 4) := hall
      clear hall
      by_cases hlt : k < R
      · obtain ⟨b, off, rfl, hblt, hcell⟩ := hc (by omega)
        have hck : w.cell? ⟨b, off + k, none⟩ = some (e k) := hcell k hlt
        obtain ⟨aok, capk, hsk, hmk, hqk⟩ := he k hlt
        unfold maxLen at hmk
        rw [hsk] at hck
        obtain ⟨nk, hnk⟩ : ∃ x, x = n k := ⟨_, rfl⟩
        have HK : Hid (nk = n k) := hnk
        rw [← hnk] at hck hmk
        clear hc hcell he hsk hqk hnk
        by_cases heq : nk = 4
        · subst heq
          go_wp2
          go_round
          case rel => exact ⟨k + 1, by omega, by go_num, fun i hi => by
                        by_cases c : i = k
                        · right; rw [c, ← HK.out]
                        · exact HALL.out i (by omega)⟩
          case measure => simp [intOf]; omega
        · by_cases heq0 : nk = 0
          · subst heq0
            clear heq
            go_wp2
            go_round
            case rel => exact ⟨k + 1, by omega, by go_num, fun i hi => by
                          by_cases c : i = k
                          · left; rw [c, ← HK.out]
                          · exact HALL.out i (by omega)⟩
            case measure => simp [intOf]; omega
          · have tn : ((nk : Int) != 4) = true := by simp; omega
            have t0 : ((nk : Int) != 0) = true := by simp; omega
            have H : Hid (¬ ThereP R n (R : Int)) := fun h => by
              have := h.2 k hlt
              rw [← HK.out] at this
              omega
            clear heq heq0
            go_wp2
            go_ret
            exact boolNo rfl H.out (Below.refl _ _)
      · have hkn : k = R := by omega
        subst hkn
        go_wp2
        go_ret
        exact boolYes rfl ⟨rfl, HALL.out⟩ (Below.refl _ _)
  · have tN : ((R : Int) != N) = true := by simp [hN]
    have H : Hid (¬ ThereP R n N) := fun h => hN h.1
    clear hc he hN
    go_enter Try.func59, Try.ntmps59
    go_wp2
    go_ret
    exact boolNo rfl H.out (Below.refl _ _)

set_option maxHeartbeats 1000000 in
theorem factorsFrom_any (base n p F : Nat) (hF : F = 128 + base) (hb : base ≤ 64) (hn : n ≤ 16) (hp : p < n + 16) (w : World) :
    Calls Try.prog 93 #[.int .i64 F, .int .i64 n, .int .i64 p] w fun e w' => ∃ v', e = .returned v' ∧ Own w' w.heap.size w'.heap.size v' n (genN n p base) ∧ Below w.heap.size w w' := by
  by_cases hpn : p < n
  · have hd1 : decide ((p : Int) < (n : Int)) = true := by simp; omega
    go_enter Try.func93, Try.ntmps93
    have HG : Hid (∀ i, i < n → genN n p base i = if i = p then 1 else 0) := fun i hi => by simp [genN, show ¬ n ≤ p by omega]
    go_wp2_with (at_make; refine wp_makeB _ rfl _ _ rfl _ _ n rfl rfl rfl rfl (by omega) ?_; intro w1 hown1 hb1 hz1; have hco : w1.cell? ⟨w.heap.size, p, none⟩ = some (.int .u8 (0 : Nat)) := (by have := hown1.1.cellAt p (by omega); rw [this, cellsOf_get _ _ _ hpn]); have hfo : w1.frozen? ⟨w.heap.size, p, none⟩ = false := hown1.1.frozenAt p)
    have R := hown1.store p 1 hpn (g' := genN n p base) (fun i hi => HG.out i hi)
    have RB : Below w.heap.size w (w1.setCell ⟨w.heap.size, p, none⟩ (.int .u8 (1 : Nat))) := hb1.setCell (Nat.le_refl _) _
    go_ret
    exact ⟨_, rfl, R.mono (by simp), RB⟩
  · have hd1 : decide ((p : Int) < (n : Int)) = false := by simp; omega
    have hd2 : decide (p < n) = false := by simp; omega
    obtain ⟨s, hs⟩ : ∃ s, p = n + s := ⟨p - n, by omega⟩
    have hs16 : s < 16 := by omega
    obtain ⟨Q, hQ⟩ : ∃ Q, Q = F + s := ⟨_, rfl⟩
    have hQ2 : Q ≤ 128 + 80 := by omega
    have HG : Hid (∀ i, genN n p base i = powN (Q ^^^ i) 254) := fun i => by
      simp only [genN, if_pos (show n ≤ p by omega)]
      rw [show 128 + (base + p - n) = Q by omega]
    have hadd : IntKind.i64.wrap ((F : Int) + (p : Int)) = (F : Int) + (p : Int) := by rw [IntKind.wrap_i64]; omega
    have hsub : (F : Int) + (p : Int) - (n : Int) = (Q : Int) := by omega
    have HPS : Hid (p = n + s) := hs
    clear hpn hs hF hQ
    go_enter Try.func93, Try.ntmps93
    go_wp2_with (at_make; refine wp_makeB _ rfl _ _ rfl _ _ n rfl rfl rfl rfl (by omega) ?_; intro w1 hown1 hb1 hz1)
    go_loopw [8, 19] (fun _ i wr => ∃ k : Nat, k ≤ n ∧ i = .int .i64 k ∧ Own wr w.heap.size w1.heap.size (.slice (some ⟨w.heap.size, 0, none⟩) n n) n (fun i => if i < k then genN n p base i else 0) ∧ Below w.heap.size w wr ∧ w1.heap.size ≤ wr.heap.size) (fun _ i _ => n - (intOf i).toNat)
    case atStart => exact ⟨0, Nat.zero_le _, rfl, hown1, hb1, Nat.le_refl _⟩
    case round =>
      clear hown1 hb1
      obtain ⟨k, hk, rfl, hown, hbel, hz2⟩ := hrel
      by_cases hlt : k < n
      · obtain ⟨y, hy⟩ : ∃ y, y = Q ^^^ k := ⟨_, rfl⟩
        have hx : bits .xor .i64 (Q : Int) (k : Int) = (y : Int) := by rw [hy]; exact i64_xor_nat Q k (by omega) (by omega)
        have hl : y < 256 := by rw [hy]; exact xor_lt (by omega) (by omega)
        have HV : Hid (powN y 254 = genN n p base k) := by show powN y 254 = genN n p base k; rw [HG.out, hy]
        have HO : Hid (Own wr w.heap.size w1.heap.size (.slice (some ⟨w.heap.size, 0, none⟩) n n) n (fun i => if i < k then genN n p base i else 0)) := hown
        have szr := hbel.size
        have HBL : Hid (Below w.heap.size w wr) := hbel
        clear hy hown hbel
        go_wp2_with fail
        refine (implInv_any y hl _).mono ?_
        rintro e w2 ⟨rfl, hb2⟩
        have hz3 := hb2.size
        have hown2 := HO.out.below hb2 (by omega)
        have hco : w2.cell? ⟨w.heap.size, k, none⟩ = some (.int .u8 (0 : Nat)) := by
          have := hown2.1.cellAt k (by omega)
          rw [this, cellsOf_get _ _ _ hlt, if_neg (Nat.lt_irrefl k)]
        have hfo : w2.frozen? ⟨w.heap.size, k, none⟩ = false := hown2.1.frozenAt k
        have RW : Own (w2.setCell ⟨w.heap.size, k, none⟩ (.int .u8 (powN y 254))) w.heap.size w1.heap.size (.slice (some ⟨w.heap.size, 0, none⟩) n n) n (fun i => if i < k + 1 then genN n p base i else 0) :=
          hown2.store k _ hlt (fun i _ => by
            by_cases c1 : i = k
            · subst c1; simp [HV.out]
            · by_cases c2 : i < k
              · have c3 : i < k + 1 := by omega
                simp [c1, c2, c3]
              · have c3 : ¬ i < k + 1 := by omega
                simp [c1, c2, c3])
        have RB : Below w.heap.size w (w2.setCell ⟨w.heap.size, k, none⟩ (.int .u8 (powN y 254))) := (HBL.out.trans (hb2.mono szr)).setCell (Nat.le_refl _) _
        have RS : w1.heap.size ≤ (w2.setCell ⟨w.heap.size, k, none⟩ (.int .u8 (powN y 254))).heap.size := by simp; omega
        clear hown2 hb2 HO HBL
        go_wp2
        go_roundw
        case rel => exact ⟨k + 1, by omega, by go_num, RW, RB, RS⟩
        case measure => simp [intOf]; omega
      · have hkn : k = n := by omega
        subst hkn
        have h6 := hown.congr (g := genN k p base) (fun i hi => by simp [hi])
        clear hown
        go_wp2
        go_ret
        exact ⟨_, rfl, h6.weaken (Nat.le_refl _) hz2, hbel⟩
theorem factorsAt_any (n p : Nat) (hn : n ≤ 16) (hp : p < n + 16) (w : World) :
    Calls Try.prog 89 #[.int .i64 n, .int .i64 p] w fun e w' => ∃ v', e = .returned v' ∧ Own w' w.heap.size w'.heap.size v' n (genN n p 0) ∧ Below w.heap.size w w' := by
  go_enter Try.func89, Try.ntmps89
  go_wp2_with fail
  refine (factorsFrom_any 0 n p 128 rfl (by omega) hn hp _).mono ?_
  rintro e w1 ⟨v1, rfl, ho, hb⟩
  obtain ⟨ao, cap, rfl⟩ := ho.slice
  go_wp2
  go_ret
  exact ⟨_, rfl, ho, hb⟩
end Go.Proofs.Ytoadjpacchhleaa

namespace Go.Proofs.Ytoadjpacchhleaa
open Go.RowKit F256
set_option linter.unusedVariables false
set_option linter.unusedSimpArgs false

theorem columnInBounds_any (d s : Int) (w : World) :
    Calls Try.prog 66 #[.int .i64 d, .int .i64 s] w (BoolP (Shp3 d s) w) := by
  by_cases h1 : 1 ≤ d
  · by_cases h2 : d ≤ 4
    · by_cases h3 : 0 ≤ s
      · by_cases h4 : s ≤ 2
        · go_enter Try.func66, Try.ntmps66
          go_wp2
          go_ret
          exact boolYes rfl ⟨by omega, by omega, by omega, by omega⟩ (Below.refl _ _)
        · have e4 : decide (s ≤ 2) = false := by simp; omega
          have H : Hid (¬ Shp3 d s) := fun h => h4 h.2.2.2
          clear h4
          go_enter Try.func66, Try.ntmps66
          go_wp2
          go_ret
          exact boolNo rfl H.out (Below.refl _ _)
      · have e3 : decide (0 ≤ s) = false := by simp; omega
        have H : Hid (¬ Shp3 d s) := fun h => h3 h.2.2.1
        clear h3
        go_enter Try.func66, Try.ntmps66
        go_wp2
        go_ret
        exact boolNo rfl H.out (Below.refl _ _)
    · have e2 : decide (d ≤ 4) = false := by simp; omega
      have H : Hid (¬ Shp3 d s) := fun h => h2 h.2.1
      clear h2
      go_enter Try.func66, Try.ntmps66
      go_wp2
      go_ret
      exact boolNo rfl H.out (Below.refl _ _)
  · have e1 : decide (1 ≤ d) = false := by simp; omega
    have H : Hid (¬ Shp3 d s) := fun h => h1 h.1
    clear h1
    go_enter Try.func66, Try.ntmps66
    go_wp2
    go_ret
    exact boolNo rfl H.out (Below.refl _ _)

/-- the row i changed in its place, whatever the rows' lengths -/
theorem OwnE.updN {w w' : World} {lo hi : Nat} {v : Value} {R : Nat} {n : Nat → Nat} {M M' : Mat} {g cap : Nat} {e : Nat → Value} (h : OwnE w lo hi v R n M g cap e) (i : Nat) (hi' : i < R) (hc : Chg (tlo (e i) lo) (thi (e i) lo) w w')
    (ho : Own w' lo hi (e i) (n i) (M' i)) (hM : ∀ j, j < R → j ≠ i → M' j = M j) : OwnE w' lo hi v R n M' g cap e := by
  refine ⟨h.val, h.low, h.high, row_kept h.row fun k hk => ?_, fun j hj => ?_, h.apart⟩
  · have hlt := (h.row.lt k hk).2
    rw [h.val] at hk
    simp [Value.ownBlock] at hk
    subst hk
    exact hc.block g hlt (not_in_tight fun q hq hh => h.apart.1 i hi' (by rw [hq, hh]))
  · by_cases e1 : j = i
    · subst e1; exact ho
    · rw [hM j hj e1]
      refine (h.each j hj).kept fun k hk => ?_
      exact hc.block k ((h.each j hj).1.lt k hk).2 (not_in_tight fun q hq hh => h.apart.2 i j hi' hj (fun x => e1 x.symm) q hq (by rw [← hh]; exact hk))
/-- R rows, none of them there yet -/
theorem ownE_made {w : World} {lo hi g R : Nat} {f : Mat} {n : Nat → Nat} (h : w.ownsRow lo 22 1 (.slice (some ⟨g, 0, none⟩) R R) R (valsOf R fun _ => nilS)) (h1 : lo ≤ g) (h2 : g < hi) (hn : ∀ i, i < R → n i = 0) :
    OwnE w lo hi (.slice (some ⟨g, 0, none⟩) R R) R n f g R (fun _ => nilS) :=
  ⟨rfl, h1, h2, h, fun i hi => by rw [hn i hi]; exact own_nil _ _ _ _, ⟨fun i hi h => by simp [Value.ownBlock] at h, fun i j hi hj hne k hk => by simp [Value.ownBlock] at hk⟩⟩
/-- the rows' lengths behind k of them -/
def lenN (N k : Nat) : Nat → Nat := fun i => if i < k then N else 0
/-- the rows P, of which the row k is summed up to m -/
def sumM (P : Mat) (f : Mat) (G : Nat → Nat) (k m : Nat) : Mat := fun i => if i = k then mixN f G m else P i

set_option maxHeartbeats 4000000 in
theorem parityOf_any (v : Value) (R C N : Nat) (n : Nat → Nat) (f : Mat) (h1 : Nat) (w : World) (r : RdM w h1 v R n f) (hh : h1 ≤ w.heap.size) (hR1 : 1 ≤ R) (hR : R ≤ 4) (hC : C ≤ 2) (hN : ∀ i, i < R → n i = N) (hN2 : N ≤ 1000000000) (kf : Byt f) :
    Calls Try.prog 67 #[v, .int .i64 C] w fun e w' => ∃ v', e = .returned v' ∧ OwnM w' w.heap.size w'.heap.size v' C (fun _ => N) (parN R f) ∧ Below w.heap.size w w' := by
  obtain ⟨ao, cap, e, rfl, hm, hc, he⟩ := r
  unfold maxLen at hm
  obtain ⟨b, off, rfl, hblt, hcell⟩ := hc (by omega)
  have hbw : b < w.heap.size := by omega
  have HE : Hid (∀ i, i < R → Rd w h1 (e i) N (f i)) := fun i hi => by have := he i hi; rw [hN i hi] at this; exact this
  have HC : Hid (∀ i, i < R → w.cell? ⟨b, off + i, none⟩ = some (e i)) := hcell
  obtain ⟨ao0, cap0, hs0, hm0, hq0⟩ := HE.out 0 (by omega)
  have HC0 : Hid (w.cell? ⟨b, off, none⟩ = some (.slice ao0 N cap0)) := by
    show w.cell? ⟨b, off, none⟩ = some (.slice ao0 N cap0)
    rw [← hs0]
    exact hcell 0 (by omega)
  clear hc he hN hs0 hq0 hm0 hcell
  go_enter Try.func67, Try.ntmps67
  go_wp2_with (at_make; refine wp_makeM _ rfl _ _ rfl _ _ C rfl rfl rfl rfl (by omega) ?_; intro w1 hown1 hb1 hz1)
  have E0 : OwnE w1 w.heap.size w1.heap.size (.slice (some ⟨w.heap.size, 0, none⟩) C C) C (lenN N 0) (parN R f) w.heap.size C (fun _ => nilS) := ownE_made hown1 (Nat.le_refl _) hz1 (fun i hi => by simp [lenN])
  clear hown1
  go_loopw [15] (fun i wr => ∃ k : Nat, k ≤ C ∧ i = .int .i64 k ∧ ∃ e', OwnE wr w.heap.size wr.heap.size (.slice (some ⟨w.heap.size, 0, none⟩) C C) C (lenN N k) (parN R f) w.heap.size C e' ∧ Below w.heap.size w wr) (fun i _ => C - (intOf i).toNat)
  case atStart => exact ⟨0, Nat.zero_le _, rfl, _, E0, hb1⟩
  case round =>
    clear E0 hb1 hz1
    obtain ⟨k, hk, rfl, e', hE, hb⟩ := hrel
    by_cases hlt : k < C
    · have HOE : Hid (OwnE wr w.heap.size wr.heap.size (.slice (some ⟨w.heap.size, 0, none⟩) C C) C (lenN N k) (parN R f) w.heap.size C e') := hE
      have HB : Hid (Below w.heap.size w wr) := hb
      have c0 : wr.cell? ⟨b, off, none⟩ = some (.slice ao0 N cap0) := (hb.cell (p := ⟨b, off, none⟩) hbw).trans HC0.out
      have szr := hb.size
      have hgr := hE.high
      clear hE hb
      go_wp2_with (at_make; refine wp_makeB _ rfl _ _ rfl _ _ N rfl rfl rfl rfl (by omega) ?_; intro w2 ho2 hb2 hz2; have q1 : w2.cell? ⟨w.heap.size, k, none⟩ = some (e' k) := (HOE.out.below hb2 (Nat.le_refl _)).cell k hlt; have q2 : w2.frozen? ⟨w.heap.size, k, none⟩ = false := (HOE.out.below hb2 (Nat.le_refl _)).frozen k)
      have eRk : ((R + k : Nat) : Int) = (R : Int) + (k : Int) := by simp
      have e136 : ((136 : Nat) : Int) = 136 := rfl
      obtain ⟨wk, hwk⟩ : ∃ wk, wk = wr := ⟨_, rfl⟩
      rw [← hwk] at ho2 hb2 hz2 HOE HB szr hgr ⊢
      obtain ⟨row, hrow⟩ : ∃ row : Value, row = .slice (some ⟨wk.heap.size, 0, none⟩) N N := ⟨_, rfl⟩
      obtain ⟨E1, hE1k, ER⟩ : ∃ E1 : Nat → Value, E1 k = row ∧ OwnE (w2.setCell ⟨w.heap.size, k, none⟩ (.slice (some ⟨wk.heap.size, 0, none⟩) N N)) w.heap.size w2.heap.size (.slice (some ⟨w.heap.size, 0, none⟩) C C) C (lenN N (k + 1)) (sumM (parN R f) f (genN R (R + k) 8) k 0) w.heap.size C E1 :=
        ⟨_, by simp [hrow], (HOE.out.below hb2 (Nat.le_refl _)).lay k hlt (n' := lenN N (k + 1)) (M' := sumM (parN R f) f (genN R (R + k) 8) k 0) (lo2 := wk.heap.size) (hi2 := w2.heap.size) (by
          rw [show lenN N (k + 1) k = N by simp [lenN]]
          exact ho2.congr (fun i _ => by simp [sumM, mixN])) (Nat.le_refl _) hb2.size (fun j hj hne => by
          unfold lenN
          by_cases c : j < k
          · rw [if_pos c, if_pos (by omega)]
          · rw [if_neg c, if_neg (by omega)]) (fun j hj hne => by simp [sumM, hne])⟩
      have BA : Below w.heap.size w (w2.setCell ⟨w.heap.size, k, none⟩ (.slice (some ⟨wk.heap.size, 0, none⟩) N N)) := (HB.out.trans (hb2.mono szr)).setCell (Nat.le_refl _) _
      obtain ⟨wA, hwA⟩ : ∃ wA, wA = w2.setCell ⟨w.heap.size, k, none⟩ (.slice (some ⟨wk.heap.size, 0, none⟩) N N) := ⟨_, rfl⟩
      have hsA : wA.heap.size = w2.heap.size := by rw [hwA]; simp
      have CF := factorsFrom_any 8 R (R + k) 136 rfl (by omega) (by omega) (by omega) wA
      rw [eRk, e136] at CF
      rw [← hwA] at ER BA ⊢
      clear ho2 hb2 q1 q2 HOE HB c0 hwk hwA
      refine CF.mono ?_
      rintro ee w3 ⟨v3, rfl, o3, b3⟩
      obtain ⟨gv, capv, hgv, h31, h32, h33, h34⟩ := o3.form (by omega)
      subst hgv
      have s3 := b3.size
      rw [hsA] at o3 h31 s3
      have E3 := ER.below b3 (by omega)
      have B3 : Below w.heap.size w w3 := BA.trans (b3.mono (by omega))
      clear CF b3 ER BA
      go_wp2
      go_loopw [32] (fun i wr => ∃ m : Nat, m ≤ R ∧ i = .int .i64 m ∧ OwnE wr w.heap.size w2.heap.size (.slice (some ⟨w.heap.size, 0, none⟩) C C) C (lenN N (k + 1)) (sumM (parN R f) f (genN R (R + k) 8) k m) w.heap.size C E1 ∧ Own wr w2.heap.size w3.heap.size (.slice (some ⟨gv, 0, none⟩) R capv) R (genN R (R + k) 8) ∧ Below w.heap.size w wr ∧ w3.heap.size ≤ wr.heap.size) (fun i _ => R - (intOf i).toNat)
      case atStart => exact ⟨0, Nat.zero_le _, rfl, E3, o3, B3, Nat.le_refl _⟩
      case round =>
        clear E3 o3 B3
        obtain ⟨m, hm', rfl, hE, ho, hb, hsz⟩ := hrel
        by_cases hmR : m < R
        · obtain ⟨y, hy⟩ : ∃ y, y = genN R (R + k) 8 m := ⟨_, rfl⟩
          have hyl : y < 256 := by rw [hy]; exact genN_lt R (R + k) 8 m
          have c1 : wr.cell? ⟨w.heap.size, k, none⟩ = some (.slice (some ⟨wk.heap.size, 0, none⟩) N N) := by rw [← hrow, ← hE1k]; exact hE.cell k hlt
          have c2 : wr.cell? ⟨b, off + m, none⟩ = some (e m) := (hb.cell (p := ⟨b, off + m, none⟩) hbw).trans (HC.out m hmR)
          have c3 : wr.cell? ⟨gv, m, none⟩ = some (.int .u8 y) := by rw [hy]; exact (ho.1.cellAt m (by omega)).trans (cellsOf_get _ _ _ hmR)
          have ok : Own wr w.heap.size w2.heap.size (.slice (some ⟨wk.heap.size, 0, none⟩) N N) N (mixN f (genN R (R + k) 8) m) := by
            have := hE.each k hlt
            rw [hE1k, hrow, show lenN N (k + 1) k = N by simp [lenN], show sumM (parN R f) f (genN R (R + k) 8) k m k = mixN f (genN R (R + k) 8) m by simp [sumM]] at this
            exact this
          have rm : Rd wr h1 (e m) N (f m) := (HE.out m hmR).below hb hh
          have CA := addScaled_any (.slice (some ⟨wk.heap.size, 0, none⟩) N N) (e m) N (mixN f (genN R (R + k) 8) m) (f m) (mixN f (genN R (R + k) 8) (m + 1)) y wk.heap.size (wk.heap.size + 1) h1 (wr.drewN 1) (ok.tight.drewN 1) (by show wk.heap.size + 1 ≤ wr.heap.size; omega) rm (by omega) (by show h1 ≤ wr.heap.size; omega) (mixN_lt f _ (genN_lt R (R + k) 8) m) (kf m) hyl (fun i _ => by rw [hy]; rfl) hN2
          have HOE : Hid (OwnE wr w.heap.size w2.heap.size (.slice (some ⟨w.heap.size, 0, none⟩) C C) C (lenN N (k + 1)) (sumM (parN R f) f (genN R (R + k) 8) k m) w.heap.size C E1) := hE
          have HO : Hid (Own wr w2.heap.size w3.heap.size (.slice (some ⟨gv, 0, none⟩) R capv) R (genN R (R + k) 8)) := ho
          have HOK : Hid (Own wr w.heap.size w2.heap.size (.slice (some ⟨wk.heap.size, 0, none⟩) N N) N (mixN f (genN R (R + k) 8) m)) := ok
          have HBL : Hid (Below w.heap.size w wr) := hb
          obtain ⟨x, hx⟩ : ∃ x, x = e m := ⟨_, rfl⟩
          rw [← hx] at c2 CA rm
          obtain ⟨aox, capx, hsx, _, _⟩ := rm
          subst hsx
          have HE1 : Hid (E1 k = row) := hE1k
          have HRW : Hid (row = .slice (some ⟨wk.heap.size, 0, none⟩) N N) := hrow
          clear hE ho hb ok hx hy hE1k hrow
          go_wp2
          go_region_with (go_at_call 61; refine CA.mono ?_; rintro ee w7 ⟨rfl, o7, ch7⟩)
          all_goals
            have E7 := (HOE.out.drewN 1).updN (M' := sumM (parN R f) f (genN R (R + k) 8) k (m + 1)) k hlt (by rw [HE1.out, HRW.out]; exact ch7) (by
              rw [HE1.out, HRW.out, show lenN N (k + 1) k = N by simp [lenN], show sumM (parN R f) f (genN R (R + k) 8) k (m + 1) k = mixN f (genN R (R + k) 8) (m + 1) by simp [sumM]]
              exact HOK.out.untight o7) (fun j hj hne => by simp [sumM, hne])
            have O7 : Own w7 w2.heap.size w3.heap.size (.slice (some ⟨gv, 0, none⟩) R capv) R (genN R (R + k) 8) := (HO.out.drewN 1).chg ch7 (.inr (by omega))
            have B7 : Below w.heap.size w w7 := (below_drewN HBL.out 1).trans (ch7.below (by omega) HBL.out.size)
            have S7 : w3.heap.size ≤ w7.heap.size := Nat.le_trans hsz ch7.size
            have q5 := HE1.out
            have q6 := HRW.out
            clear o7 ch7 HOE HO HBL HOK CA c1 c2 c3
            go_wp2
            go_roundw
            case rel => exact ⟨m + 1, by omega, by go_num, E7, O7, B7, S7⟩
            case measure => simp [intOf]; omega
        · obtain rfl : m = R := by omega
          have E8 : OwnE wr w.heap.size wr.heap.size (.slice (some ⟨w.heap.size, 0, none⟩) C C) C (lenN N (k + 1)) (parN m f) w.heap.size C E1 := by
            have h9 := hE.weaken (hi' := wr.heap.size) (by omega)
            have e9 : sumM (parN m f) f (genN m (m + k) 8) k m = parN m f := by
              funext i
              unfold sumM
              by_cases c : i = k
              · rw [if_pos c, c]; rfl
              · rw [if_neg c]
            rw [e9] at h9
            exact h9
          clear hE ho
          go_wp2
          go_roundw
          case rel => exact ⟨k + 1, by omega, by go_num, E1, E8, hb⟩
          case measure => simp [intOf]; omega
    · obtain rfl : k = C := by omega
      have E9 := hE.congrN (n' := fun _ => N) (fun i hi => by simp [lenN, hi])
      clear hE
      go_wp2
      go_ret
      exact ⟨_, rfl, ⟨_, _, _, E9⟩, hb⟩
end Go.Proofs.Ytoadjpacchhleaa

namespace Go.Proofs.Ytoadjpacchhleaa
open Go.RowKit F256
set_option linter.unusedVariables false
set_option linter.unusedSimpArgs false

set_option maxHeartbeats 4000000 in
theorem implEncodeC_any (v : Value) (R : Nat) (n : Nat → Nat) (f : Mat) (c : Int) (h1 : Nat) (w : World) (r : RdM w h1 v R n f) (hh : h1 ≤ w.heap.size) (kf : Byt f) :
    Calls Try.prog 29 #[v, .int .i64 c] w fun ee w' => ∃ x v', ee = .returned (bytesR x v') ∧ CeAns R n c x ∧ OwnB w' w.heap.size w'.heap.size v' (if x = 0 then c.toNat else 0) (fun _ => n 0) (parN R f) ∧ Below w.heap.size w w' := by
  have HR : Hid (RdM w h1 v R n f) := r
  obtain ⟨ao, cap, e, rfl, hm, hc, he⟩ := r
  have HHE : Hid (∀ i, i < R → Rd w h1 (e i) (n i) (f i)) := he
  have HHC : Hid (R ≠ 0 → ∃ b off, ao = some ⟨b, off, none⟩ ∧ b < h1 ∧ ∀ i, i < R → w.cell? ⟨b, off + i, none⟩ = some (e i)) := hc
  unfold maxLen at hm
  clear hc he
  go_enter Try.func29, Try.ntmps29
  go_wp2_with fail
  refine (columnInBounds_any R c _).mono ?_
  rintro e0 w1 ⟨b1, rfl, hb1, b1'⟩
  have HS : Hid (b1 = true ↔ Shp3 R c) := hb1
  have B1 : Below w.heap.size w w1 := bnew b1'
  have X1 : Box w1 w.heap.size #[.int .i64 0, .slice none 0 0] 53 := (box_new w _ _).below b1' (by simp)
  have z1 : w.heap.size < w1.heap.size := X1.lt
  obtain ⟨x0, x1, y0, y1⟩ := res_cells X1
  clear hb1 b1'
  cases b1 with
  | false =>
    have HNO : Hid (¬ Shp3 R c) := fun h => by have := HS.out.mpr h; cases this
    clear HS
    go_wp2
    exact bodyPost_ret (v := bytesR 3 (.slice none 0 0)) (by simp [results, Try.results29, go_sem, bytesR, x0, x1]) rfl ⟨3, _, rfl, .inl ⟨rfl, HNO.out⟩, OwnB.none _ _ _ _ _, (B1.setCell (Nat.le_refl _) _).setCell (Nat.le_refl _) _⟩
  | true =>
    have hsh := HS.out.mp rfl
    have HSH : Hid (Shp3 R c) := hsh
    obtain ⟨q1, q2, q3, q4⟩ := hsh
    obtain ⟨C, rfl⟩ : ∃ C : Nat, c = C := ⟨c.toNat, by omega⟩
    have CE := equallyLong_any (.slice ao R cap) R n f h1 w1 (HR.out.below B1 hh)
    clear HS x0 x1 y0 y1
    go_wp2_with fail
    refine CE.mono ?_
    rintro e0 w2 ⟨b2, rfl, hb2, b2'⟩
    have HE2 : Hid (b2 = true ↔ EvenP R n) := hb2
    have B2 : Below w.heap.size w w2 := B1.trans (b2'.mono B1.size)
    have X2 : Box w2 w.heap.size #[.int .i64 0, .slice none 0 0] 53 := X1.below b2' z1
    have z2 : w.heap.size < w2.heap.size := X2.lt
    obtain ⟨x0, x1, y0, y1⟩ := res_cells X2
    clear hb2 b2' X1 B1 z1 CE
    cases b2 with
    | false =>
      have HNO : Hid (¬ EvenP R n) := fun h => by have := HE2.out.mpr h; cases this
      clear HE2
      go_wp2
      exact bodyPost_ret (v := bytesR 1 (.slice none 0 0)) (by simp [results, Try.results29, go_sem, bytesR, x0, x1]) rfl ⟨1, _, rfl, .inr (.inl ⟨rfl, HSH.out, HNO.out⟩), OwnB.none _ _ _ _ _, (B2.setCell (Nat.le_refl _) _).setCell (Nat.le_refl _) _⟩
    | true =>
      have HEV : Hid (EvenP R n) := HE2.out.mp rfl
      obtain ⟨b, off, hao, hblt, hcell⟩ := HHC.out (by omega)
      subst hao
      have c0 : w2.cell? ⟨b, off, none⟩ = some (e 0) := (B2.cell (p := ⟨b, off, none⟩) (by show b < w.heap.size; omega)).trans (hcell 0 (by omega))
      obtain ⟨ao0, cap0, hs0, hm0, hq0⟩ := HHE.out 0 (by omega)
      obtain ⟨N, hN⟩ : ∃ N, N = n 0 := ⟨_, rfl⟩
      have HN : Hid (N = n 0) := hN
      rw [hs0, ← hN] at c0
      rw [← hN] at hm0
      unfold maxLen at hm0
      clear HE2 hs0 hq0 hcell hN
      by_cases hbig : 4000 < N
      · have tb : (4000 : Int) < (N : Int) := by omega
        go_wp2
        exact bodyPost_ret (v := bytesR 2 (.slice none 0 0)) (by simp [results, Try.results29, go_sem, bytesR, x0, x1]) rfl ⟨2, _, rfl, .inr (.inr (.inl ⟨rfl, HSH.out, HEV.out, by rw [← HN.out]; exact hbig⟩)), OwnB.none _ _ _ _ _, (B2.setCell (Nat.le_refl _) _).setCell (Nat.le_refl _) _⟩
      · have tb : decide ((4000 : Int) < (N : Int)) = false := by simp; omega
        have CX := parityOf_any (.slice (some ⟨b, off, none⟩) R cap) R C N n f h1 w2 (HR.out.below B2 hh) (Nat.le_trans hh B2.size) (by omega) (by omega) (by omega) (fun i hi => by rw [HEV.out i hi, ← HN.out]) (by omega) kf
        clear x0 x1 y0 y1
        go_wp2_with fail
        refine CX.mono ?_
        rintro e0 w4 ⟨v4, rfl, om, b4⟩
        have hsl : ∃ ao cap, v4 = .slice ao C cap := by
          obtain ⟨g, cap, e, h⟩ := om
          exact ⟨_, _, h.val⟩
        obtain ⟨ao4, cap4, rfl⟩ := hsl
        have HOM : Hid (OwnM w4 w2.heap.size w4.heap.size (.slice ao4 C cap4) C (fun _ => N) (parN R f)) := om
        have B4 : Below w.heap.size w w4 := B2.trans (b4.mono (by omega))
        have X4 : Box w4 w.heap.size #[.int .i64 0, .slice none 0 0] 53 := X2.below b4 z2
        have z4 := X4.lt
        obtain ⟨x0, x1, y0, y1⟩ := res_cells X4
        clear om b4 CX X4 X2 c0
        go_wp2
        refine bodyPost_ret (v := bytesR 0 (.slice ao4 C cap4)) (by simp [results, Try.results29, go_sem, bytesR, x0, x1]) rfl ⟨0, _, rfl, .inr (.inr (.inr ⟨rfl, HSH.out, HEV.out, by rw [← HN.out]; omega⟩)), ?_, (B4.setCell (Nat.le_refl _) _).setCell (Nat.le_refl _) _⟩
        have o1 := out_store w4 w.heap.size (w.heap.size + 1) w.heap.size 0 (.int .i64 0) (Nat.le_refl _) (by omega)
        have o2 := out_store (w4.setCell ⟨w.heap.size, 0, none⟩ (.int .i64 0)) w.heap.size (w.heap.size + 1) w.heap.size 1 (.slice ao4 C cap4) (Nat.le_refl _) (by omega)
        simp only [if_pos]
        rw [Int.toNat_natCast, ← HN.out]
        exact .inr ((HOM.out.out (o1.trans o2) (.inr (by omega))).weaken (by omega) (by rw [(o1.trans o2).size]; exact Nat.le_refl _))
end Go.Proofs.Ytoadjpacchhleaa

namespace Go.Proofs.Ytoadjpacchhleaa
open F256

theorem Sol.to_swap {R r a : Nat} {M : Mat} {x : Nat → Nat} (hr : r < R) (ha : a < R) (h : Sol R M x) : Sol R (swapM M r a) x := fun i hi => by
  unfold swapM
  split
  · exact h a ha
  · split
    · exact h r hr
    · exact h i hi
theorem Sol.to_scale {R r c : Nat} {M : Mat} {x : Nat → Nat} (kM : Byt M) (kx : ∀ j, x j < 256) (h : Sol R M x) : Sol R (scaleM M r c) x := fun i hi => by
  by_cases e : i = r
  · subst e
    simp only [scaleM, if_pos]
    rw [dotN_scale (powN_lt _) (kM i) kx, h i hi]
  · simp only [scaleM, if_neg e]
    exact h i hi
theorem Sol.to_clear {R r c : Nat} {M : Mat} {x : Nat → Nat} (kM : Byt M) (kx : ∀ j, x j < 256) (hr : r < R) (h : Sol R M x) : Sol R (clearM M r c R) x := fun i hi => by
  by_cases e : i < R ∧ i ≠ r
  · simp only [clearM, if_pos e]
    rw [dotN_add (kM i) (fun j => mulN_lt (kM i c)), dotN_scale (kM i c) (kM r) kx, h i hi, h r hr]
  · simp only [clearM, if_neg e]
    exact h i hi
theorem Sol.to_step {R c : Nat} {s : Mat × Nat} {x : Nat → Nat} (kM : Byt s.1) (kx : ∀ j, x j < 256) (hr : s.2 ≤ R) (h : Sol R s.1 x) : Sol R (stepM R s c).1 x := by
  have hl := lead_is s.1 c R s.2 hr
  unfold stepM
  by_cases e : lead s.1 c R s.2 = R
  · rw [if_pos e]; exact h
  · rw [if_neg e]
    have h1 := hl.1
    have h2 := hl.2.1
    have hrR : s.2 < R := by omega
    have k1 := swapM_byt kM s.2 (lead s.1 c R s.2)
    exact Sol.to_clear (scaleM_byt k1 s.2 c) kx hrR (Sol.to_scale k1 kx (Sol.to_swap hrR (by omega) h))
theorem Sol.to_gauss {R : Nat} {M : Mat} {x : Nat → Nat} (kM : Byt M) (kx : ∀ j, x j < 256) (h : Sol R M x) : ∀ k, Sol R (gaussM R M k).1 x
  | 0 => h
  | k + 1 => Sol.to_step (gaussM_byt kM k) kx (gaussM_le k).1 (Sol.to_gauss kM kx h k)
/-- where all rows lead, a solution is the right column -/
theorem gaussM_only {R : Nat} {M : Mat} {x : Nat → Nat} (kM : Byt M) (kx : ∀ j, x j < 256) (hf : (gaussM R M R).2 = R) (h : Sol R M x) (i : Nat) (hi : i < R) : (gaussM R M R).1 i R = x i := by
  have h1 := Sol.to_gauss kM kx h R i hi
  have u := gaussM_unit kM R (Nat.le_refl _) hf
  rw [dotN_unit (i := i) kx R (fun j hj => u i j hi hj), if_pos hi] at h1
  exact h1.symm
/-- a place that is at hand weighs 1, the others 0 -/
theorem weights_unit {n base k0 : Nat} {hv : Nat → Nat} (hk : k0 < n) (hfull : (gaussM n (aug n (wtM n base hv) (genN n (hv k0) base)) n).2 = n) (i : Nat) (hi : i < n) :
    weightsN n base hv (hv k0) i = if i = k0 then 1 else 0 := by
  refine gaussM_only (x := fun i => if i = k0 then 1 else 0) (aug_byt (wtM_byt n base hv) (genN_lt n (hv k0) base)) (fun j => by show (if j = k0 then 1 else 0) < 256; split <;> omega) hfull (fun i hi => ?_) i hi
  have h1 : aug n (wtM n base hv) (genN n (hv k0) base) i n = genN n (hv k0) base i := by simp [aug]
  have kA : ∀ j, aug n (wtM n base hv) (genN n (hv k0) base) i j < 256 := fun j => aug_byt (wtM_byt n base hv) (genN_lt n (hv k0) base) i j
  have ku : ∀ j, (fun i => if i = k0 then 1 else 0 : Nat → Nat) j < 256 := fun j => by show (if j = k0 then 1 else 0) < 256; split <;> omega
  rw [h1, dotN_swap kA ku, dotN_unit (i := k0) kA n (fun j _ => by
    show (if j = k0 then 1 else 0) = if k0 = j then 1 else 0
    by_cases e : j = k0
    · rw [if_pos e, if_pos e.symm]
    · rw [if_neg e, if_neg (fun h => e h.symm)]), if_pos hk]
  simp [aug, hk, wtM]
end Go.Proofs.Ytoadjpacchhleaa

namespace Go.Proofs.Ytoadjpacchhleaa
open F256
set_option linter.unusedVariables false

/-- the rows of the places hv, the one matrix behind them -/
def eyeM (n : Nat) (hv : Nat → Nat) : Mat := fun k j => if j < n then genN n (hv k) 8 j else if j = n + k then 1 else 0
theorem eyeM_byt (n : Nat) (hv : Nat → Nat) : Byt (eyeM n hv) := fun k j => by
  unfold eyeM
  split
  · exact genN_lt n (hv k) 8 j
  · split <;> omega
/-- what stands ahead is what stands behind, times F -/
def LinP (n : Nat) (F M : Mat) : Prop := ∀ i j, i < n → j < n → M i j = dotN (fun k => M i (n + k)) (fun k => F k j) n
theorem LinP.swap {n r a : Nat} {F M : Mat} (hr : r < n) (ha : a < n) (h : LinP n F M) : LinP n F (swapM M r a) := fun i j hi hj => by
  by_cases e : i = r
  · simp only [swapM, if_pos e]
    exact h a j ha hj
  · by_cases e2 : i = a
    · simp only [swapM, if_neg e, if_pos e2]
      exact h r j hr hj
    · simp only [swapM, if_neg e, if_neg e2]
      exact h i j hi hj
theorem LinP.scale {n r c : Nat} {F M : Mat} (kF : Byt F) (kM : Byt M) (h : LinP n F M) : LinP n F (scaleM M r c) := fun i j hi hj => by
  by_cases e : i = r
  · subst e
    simp only [scaleM, if_pos]
    rw [dotN_scale (powN_lt _) (fun k => kM i (n + k)) (fun k => kF k j), h i j hi hj]
  · simp only [scaleM, if_neg e]
    exact h i j hi hj
theorem LinP.clear {n r c : Nat} {F M : Mat} (kF : Byt F) (kM : Byt M) (hr : r < n) (h : LinP n F M) : LinP n F (clearM M r c n) := fun i j hi hj => by
  by_cases e : i < n ∧ i ≠ r
  · simp only [clearM, if_pos e]
    rw [dotN_add (fun k => kM i (n + k)) (fun k => mulN_lt (kM i c)), dotN_scale (kM i c) (fun k => kM r (n + k)) (fun k => kF k j), ← h i j hi hj, ← h r j hr hj]
  · simp only [clearM, if_neg e]
    exact h i j hi hj
theorem LinP.step {n c : Nat} {F : Mat} {s : Mat × Nat} (kF : Byt F) (kM : Byt s.1) (hr : s.2 ≤ n) (h : LinP n F s.1) : LinP n F (stepM n s c).1 := by
  have hl := lead_is s.1 c n s.2 hr
  unfold stepM
  by_cases e : lead s.1 c n s.2 = n
  · rw [if_pos e]; exact h
  · rw [if_neg e]
    have h1 := hl.1
    have h2 := hl.2.1
    have hrR : s.2 < n := by omega
    have k1 := swapM_byt kM s.2 (lead s.1 c n s.2)
    exact LinP.clear kF (scaleM_byt k1 s.2 c) hrR (LinP.scale kF k1 (LinP.swap hrR (by omega) h))
theorem LinP.gauss {n : Nat} {F M : Mat} (kF : Byt F) (kM : Byt M) (h : LinP n F M) : ∀ k, LinP n F (gaussM n M k).1
  | 0 => h
  | k + 1 => LinP.step kF (gaussM_byt kM k) (gaussM_le k).1 (LinP.gauss kF kM h k)
/-- the places as rows -/
def plM (n : Nat) (hv : Nat → Nat) : Mat := fun k j => genN n (hv k) 8 j
theorem plM_byt (n : Nat) (hv : Nat → Nat) : Byt (plM n hv) := fun k j => genN_lt n (hv k) 8 j
theorem eyeM_lin (n : Nat) (hv : Nat → Nat) : LinP n (plM n hv) (eyeM n hv) := fun i j hi hj => by
  rw [dotN_unit (i := i) (fun k => plM_byt n hv k j) n (fun k hk => by
    have h1 : ¬ n + k < n := by omega
    simp only [eyeM, if_neg h1]
    by_cases e : i = k
    · rw [if_pos e, if_pos (by omega)]
    · rw [if_neg e, if_neg (by omega)]), if_pos hi]
  simp only [eyeM, if_pos hj, plM]
theorem eye_full (n : Nat) (h1 : 1 ≤ n) (h2 : n ≤ 4) (hv : Nat → Nat) (hlt : ∀ j, j < n → hv j < n + 2) (hr : ∀ j, j + 1 < n → hv j < hv (j + 1)) : (gaussM n (eyeM n hv) n).2 = n := by
  have hsame : Same n (eyeM n hv) (fun k j => if j < n then genN n (hv k) 8 j else 0) := fun i j hj => by simp only [eyeM, if_pos hj]
  rw [(gaussM_same (R := n) hsame n (Nat.le_refl _)).2]
  have kc : ∀ c i : Nat, (if i = c then 1 else 0 : Nat) < 256 := fun c i => by split <;> omega
  have kB : Byt fun c k => (gaussM n (aug n (wtM n 8 hv) (fun i => if i = c then 1 else 0)) n).1 k n := fun c k => gaussM_byt (aug_byt (wtM_byt n 8 hv) (kc c)) n k n
  have kA : Byt fun k j => if j < n then genN n (hv k) 8 j else 0 := fun k j => by
    show (if j < n then genN n (hv k) 8 j else 0) < 256
    split
    · exact genN_lt n (hv k) 8 j
    · omega
  refine full_of_inv kA kB (fun i => by simp) fun c j hc hj => ?_
  have hs := gaussM_solves (aug_byt (wtM_byt n 8 hv) (kc c)) (col_full n h1 h2 hv (fun i => if i = c then 1 else 0) hlt hr) j hj
  have e1 : aug n (wtM n 8 hv) (fun i => if i = c then 1 else 0) j n = if j = c then 1 else 0 := by simp [aug]
  rw [e1] at hs
  show dotN (fun k => (gaussM n (aug n (wtM n 8 hv) (fun i => if i = c then 1 else 0)) n).1 k n) (fun k => if j < n then genN n (hv k) 8 j else 0) n = _
  rw [dotN_swap (kB c) (fun k => kA k j)]
  have e2 : dotN (fun k => if j < n then genN n (hv k) 8 j else 0) (fun k => (gaussM n (aug n (wtM n 8 hv) (fun i => if i = c then 1 else 0)) n).1 k n) n = dotN (aug n (wtM n 8 hv) (fun i => if i = c then 1 else 0) j) (fun k => (gaussM n (aug n (wtM n 8 hv) (fun i => if i = c then 1 else 0)) n).1 k n) n :=
    dotN_congr fun k hk => by simp [aug, hk, hj, wtM]
  rw [e2, hs]
  by_cases e : c = j
  · rw [if_pos e, if_pos e.symm]
  · rw [if_neg e, if_neg (fun h => e h.symm)]
/-- by which bytes the places hv sum up to the data places -/
def dW (n : Nat) (hv : Nat → Nat) : Mat := fun i k => (gaussM n (eyeM n hv) n).1 i (n + k)
theorem dW_byt (n : Nat) (hv : Nat → Nat) : Byt (dW n hv) := fun i k => gaussM_byt (eyeM_byt n hv) n i (n + k)
theorem dW_inv {n : Nat} {hv : Nat → Nat} (hf : (gaussM n (eyeM n hv) n).2 = n) (i j : Nat) (hi : i < n) (hj : j < n) : dotN (dW n hv i) (fun k => genN n (hv k) 8 j) n = if i = j then 1 else 0 := by
  have h1 := LinP.gauss (plM_byt n hv) (eyeM_byt n hv) (eyeM_lin n hv) n i j hi hj
  have h2 := gaussM_unit (eyeM_byt n hv) n (Nat.le_refl _) hf i j hi hj
  exact h1.symm.trans h2
/-- the sums of these are the weights -/
theorem weights_way {n want : Nat} (h1 : 1 ≤ n) (h2 : n ≤ 4) {hv : Nat → Nat} (hlt : ∀ j, j < n → hv j < n + 2) (hr : ∀ j, j + 1 < n → hv j < hv (j + 1)) (k : Nat) (hk : k < n) :
    dotN (genN n want 8) (fun t => dW n hv t k) n = weightsN n 8 hv want k := by
  have hf := eye_full n h1 h2 hv hlt hr
  have kg := genN_lt n want 8
  have kx : ∀ k, (fun k => dotN (genN n want 8) (fun t => dW n hv t k) n) k < 256 := fun k => dotN_lt kg n
  refine (gaussM_only (x := fun k => dotN (genN n want 8) (fun t => dW n hv t k) n) (aug_byt (wtM_byt n 8 hv) kg) kx (col_full n h1 h2 hv (genN n want 8) hlt hr) (fun i hi => ?_) k hk).symm
  have e1 : aug n (wtM n 8 hv) (genN n want 8) i n = genN n want 8 i := by simp [aug]
  have kp : ∀ k, (fun k => genN n (hv k) 8 i) k < 256 := fun k => genN_lt n (hv k) 8 i
  rw [e1, dotN_congr (s := fun k => genN n (hv k) 8 i) (fun k hk => by simp [aug, hk, wtM]), dotN_swap kp kx, dotN_comb (R := n) kg (dW_byt n hv) kp n (Nat.le_refl _) n,
    dotN_congr2 (y := fun t => if i = t then 1 else 0) (fun t ht => by
      show dotN (dW n hv t) (fun k => genN n (hv k) 8 i) n = _
      rw [dW_inv hf t i ht hi]
      by_cases e : t = i
      · rw [if_pos e, if_pos e.symm]
      · rw [if_neg e, if_neg (fun h => e h.symm)]),
    dotN_swap kg (fun t => by show (if i = t then 1 else 0) < 256; split <;> omega), dotN_unit (i := i) kg n (fun t _ => rfl), if_pos hi]
end Go.Proofs.Ytoadjpacchhleaa

namespace Go.Proofs.Ytoadjpacchhleaa
open Go.RowKit F256
set_option linter.unusedVariables false
set_option linter.unusedSimpArgs false

/-- list[d:] -/
theorem run_slice_tail (gr N cap d : Nat) (h1 : d < N) (h2 : N ≤ cap) (w : World) :
    (Instr.slice 22 (.slice (some ⟨gr, 0, none⟩) N cap) (some (.int .i64 (d : Int))) none none).run Try.prog w = .ok (.slice (some ⟨gr, d, none⟩) (N - d) (cap - d)) w := by
  have e1 : (0 : Int) ≤ (d : Int) ∧ (d : Int) ≤ (N : Int) := by omega
  have e4 : ¬ cap = d := by omega
  have e5 : d ≤ N := by omega
  simp [Instr.slice, run_underlying Try.underlying22, Instr.sliceBounds, Instr.sliceBound, asIntOf, go_sem, e1, e4, e5]

set_option maxHeartbeats 4000000 in
theorem dataWeights_any (D : Nat) (vh : Value) (hv : Nat → Nat) (h1 : Nat) (w : World) (rh : RdI w h1 vh D (fun i => (hv i : Int))) (hh : h1 ≤ w.heap.size) (hD1 : 1 ≤ D) (hD : D ≤ 4) (hb : ∀ k, k < D → hv k < D + 2) :
    Calls Try.prog 101 #[.int .i64 D, vh] w fun e w' => ∃ v', e = .returned v' ∧ RdM w' w'.heap.size v' D (fun _ => D) (dW D hv) ∧ Below w.heap.size w w' := by
  obtain ⟨aoh, caph, rfl, hmm, hch⟩ := rh
  obtain ⟨bh, oh, rfl, hbh, hcell⟩ := hch (by omega)
  have HC : Hid (∀ i, i < D → w.cell? ⟨bh, oh + i, none⟩ = some (.int .i64 (hv i : Int))) := hcell
  have HBD : Hid (∀ k, k < D → hv k < D + 2) := hb
  have hbw : bh < w.heap.size := by omega
  have e136 : ((136 : Nat) : Int) = 136 := rfl
  clear hch hcell hb hmm
  go_enter Try.func101, Try.ntmps101
  go_wp2_with (at_make; refine wp_makeM _ rfl _ _ rfl _ _ D rfl rfl rfl rfl (by omega) ?_; intro w1 hown1 hb1 hz1)
  go_loopw [12] (fun i wr => ∃ k : Nat, k ≤ D ∧ i = .int .i64 k ∧ ∃ e', Cpy w wr D k (fun _ => D + D) (eyeM D hv) e') (fun i _ => D - (intOf i).toNat)
  case atStart => exact ⟨0, Nat.zero_le _, rfl, fun _ => nilS, ⟨by rw [valsOf_eq (g := fun _ => nilS) (fun i hi => by simp)]; exact hown1, fun i hi => by omega, ⟨fun i hi => by omega, fun i j hi => by omega⟩, hb1, hz1⟩⟩
  case round =>
    clear hown1 hb1 hz1
    obtain ⟨k, hk, rfl, e', hcp⟩ := hrel
    by_cases hlt : k < D
    · have HCP : Hid (Cpy w wr D k (fun _ => D + D) (eyeM D hv) e') := hcp
      have hl := hcp.lt
      have ck : wr.cell? ⟨bh, oh + k, none⟩ = some (.int .i64 (hv k : Int)) := (hcp.bel.cell (p := ⟨bh, oh + k, none⟩) hbw).trans (HC.out k hlt)
      obtain ⟨p, hp⟩ : ∃ p, p = hv k := ⟨_, rfl⟩
      have HP : Hid (p = hv k) := hp
      have hp2 : p < D + 2 := by rw [hp]; exact HBD.out k hlt
      rw [← hp] at ck
      have szr := hcp.bel.size
      clear hcp hp
      go_wp2_with (at_make; refine wp_makeB _ rfl _ _ rfl _ _ D rfl rfl rfl rfl (by omega) ?_; intro w2 ho2 hb2 hz2; have hco : w2.cell? ⟨wr.heap.size, k, none⟩ = some (.int .u8 (0 : Nat)) := (by have := ho2.1.cellAt k (by omega); rw [this, cellsOf_get _ _ _ hlt]); have hfo : w2.frozen? ⟨wr.heap.size, k, none⟩ = false := ho2.1.frozenAt k; have ck2 : (w2.setCell ⟨wr.heap.size, k, none⟩ (.int .u8 1)).cell? ⟨bh, oh + k, none⟩ = some (.int .i64 (p : Int)) := ((hb2.setCell (Nat.le_refl _) _).cell (p := ⟨bh, oh + k, none⟩) (by show bh < wr.heap.size; omega)).trans ck)
      have oU : Own (w2.setCell ⟨wr.heap.size, k, none⟩ (.int .u8 (1 : Nat))) wr.heap.size w2.heap.size (.slice (some ⟨wr.heap.size, 0, none⟩) D D) D (fun i => if i = k then 1 else 0) := ho2.store k 1 hlt (fun i hi => rfl)
      have BU : Below wr.heap.size wr (w2.setCell ⟨wr.heap.size, k, none⟩ (.int .u8 (1 : Nat))) := hb2.setCell (Nat.le_refl _) _
      obtain ⟨wU, hwU⟩ : ∃ wU, wU = w2.setCell ⟨wr.heap.size, k, none⟩ (.int .u8 (1 : Nat)) := ⟨_, rfl⟩
      have hsU : wU.heap.size = w2.heap.size := by rw [hwU]; simp
      have CF := factorsFrom_any 8 D p 136 rfl (by omega) (by omega) (by omega) wU
      rw [e136] at CF
      have e1 : ((1 : Nat) : Int) = 1 := rfl
      rw [e1] at hwU oU BU
      rw [← hwU] at oU BU ⊢
      clear ho2 hb2 hco hfo ck2 ck hwU
      refine CF.mono ?_
      rintro ee w3 ⟨v3, rfl, o3, b3⟩
      obtain ⟨ao3, cap3, rfl⟩ := o3.slice
      have s3 := b3.size
      have oU3 := (oU.below b3 (by omega)).rd
      have B3 : Below wr.heap.size wr w3 := BU.trans (b3.mono (by omega))
      have CJ := joined_some (.slice ao3 D cap3) (.slice (some ⟨wr.heap.size, 0, none⟩) D D) D D (genN D p 8) (fun i => if i = k then 1 else 0) (eyeM D hv k) w3.heap.size w2.heap.size w3 o3.rd oU3 (Nat.le_refl _) (by omega) (by omega) (by omega) (by omega) (fun i hi => by
        simp only [eyeM, HP.out]
        by_cases c : i < D
        · rw [if_pos c, if_pos c]
        · rw [if_neg c, if_neg c]
          by_cases c2 : i = D + k
          · rw [if_pos c2, if_pos (by omega)]
          · rw [if_neg c2, if_neg (by omega)])
      clear CF o3 oU oU3 b3 BU
      go_wp2_with fail
      refine CJ.mono ?_
      rintro ee w4 ⟨v4, rfl, o4, b4⟩
      obtain ⟨ao4, cap4, rfl⟩ := o4.slice
      have B4 : Below wr.heap.size wr w4 := B3.trans (b4.mono (by omega))
      have q1 : w4.cell? ⟨w.heap.size, k, none⟩ = some nilS := by
        rw [B4.cell (p := ⟨w.heap.size, k, none⟩) hl, HCP.out.row.cellAt k (by omega), valsOf_get _ _ _ hlt, if_neg (Nat.lt_irrefl k)]
      have q2 : w4.frozen? ⟨w.heap.size, k, none⟩ = false := (B4.frozen (p := ⟨w.heap.size, k, none⟩) hl).trans (HCP.out.row.frozenAt k)
      have N1 := HCP.out.next hlt B4 (o4.weaken (by omega) (Nat.le_refl _))
      clear HCP CJ o4 b4 B4 B3
      go_wp2
      go_roundw
      case rel => exact ⟨k + 1, by omega, by go_num, _, N1⟩
      case measure => simp [intOf]; omega
    · obtain rfl : k = D := by omega
      obtain ⟨gg, cc, e2, hE⟩ := hcp.done
      have hval := hE.val
      simp only [Value.slice.injEq, Option.some.injEq, Addr.mk.injEq, and_true, true_and] at hval
      obtain ⟨rfl, rfl⟩ := hval
      have hbel := hcp.bel
      have RD := reduceRows_any _ k (k + k) k (eyeM k hv) w.heap.size w.heap.size k e2 (by omega) (by omega) (by omega) (eyeM_byt k hv) wr hE
      clear hE hcp
      go_wp2_with fail
      refine RD.mono ?_
      rintro ee w4 ⟨rfl, ⟨e4, hE4⟩, hb4⟩
      have HE4 : Hid (OwnE w4 w.heap.size w4.heap.size (.slice (some ⟨w.heap.size, 0, none⟩) k k) k (fun _ => k + k) (gaussM k (eyeM k hv) k).1 w.heap.size k e4) := hE4
      have B4 : Below w.heap.size w w4 := hbel.trans hb4
      have hf4 : ∀ i, i < k → ∃ gi ci, e4 i = .slice (some ⟨gi, 0, none⟩) (k + k) ci ∧ gi ≠ w.heap.size ∧ gi < w4.heap.size ∧ k + k ≤ ci := fun i hi => by
        obtain ⟨gi, ci, h5, h6, h7, h8, h9⟩ := (hE4.each i hi).form (by omega)
        exact ⟨gi, ci, h5, fun hg => hE4.apart.1 i hi (by rw [h5, hg]; rfl), h8, h9⟩
      have HF4 : Hid (∀ i, i < k → ∃ gi ci, e4 i = .slice (some ⟨gi, 0, none⟩) (k + k) ci ∧ gi ≠ w.heap.size ∧ gi < w4.heap.size ∧ k + k ≤ ci) := hf4
      have hr4 := hE4.row
      have hz4 := hE4.high
      clear RD hb4 hbel hE4 hf4
      go_wp2
      go_loopw [36] (fun i wr => ∃ q : Nat, q ≤ k ∧ i = .int .i64 q ∧ ∃ e5 : Nat → Value, wr.ownsRow w.heap.size 22 1 (.slice (some ⟨w.heap.size, 0, none⟩) k k) k (valsOf k e5) ∧ (∀ i, i < k → q ≤ i → e5 i = e4 i) ∧ (∀ i, i < q → ∃ gi ci cj, e4 i = .slice (some ⟨gi, 0, none⟩) (k + k) ci ∧ e5 i = .slice (some ⟨gi, k, none⟩) k cj) ∧ (∀ b, b ≠ w.heap.size → wr.heap[b]? = w4.heap[b]?) ∧ Below w.heap.size w wr ∧ wr.heap.size = w4.heap.size) (fun i _ => k - (intOf i).toNat)
      case atStart => exact ⟨0, Nat.zero_le _, rfl, e4, hr4, fun _ _ _ => rfl, fun i hi => by omega, fun _ _ => rfl, B4, rfl⟩
      case round =>
        clear hr4 B4
        obtain ⟨q, hq, rfl, e5, hr5, h51, h52, h53, h54, h55⟩ := hrel
        by_cases hqk : q < k
        · obtain ⟨gi, ci, h61, h62, h63, h64⟩ := HF4.out q hqk
          have c1 : wr.cell? ⟨w.heap.size, q, none⟩ = some (.slice (some ⟨gi, 0, none⟩) (k + k) ci) := by
            rw [hr5.cellAt q (by omega), valsOf_get k e5 q hqk, h51 q hqk (Nat.le_refl _), h61]
          have c2 : wr.frozen? ⟨w.heap.size, q, none⟩ = false := hr5.frozenAt q
          obtain ⟨T, hT⟩ : ∃ T, T = k + k := ⟨_, rfl⟩
          have HT : Hid (T = k + k) := hT
          have hsl := fun w => run_slice_tail gi T ci k (by omega) (by omega) w
          have hTk : T - k = k := by omega
          rw [hTk] at hsl
          rw [← hT] at c1
          have NR : (wr.setCell ⟨w.heap.size, q, none⟩ (.slice (some ⟨gi, k, none⟩) k (ci - k))).ownsRow w.heap.size 22 1 (.slice (some ⟨w.heap.size, 0, none⟩) k k) k (valsOf k fun i => if i = q then .slice (some ⟨gi, k, none⟩) k (ci - k) else e5 i) := by
            have := (hr5.stored q (.slice (some ⟨gi, k, none⟩) k (ci - k))).1
            rw [valsOf_set k e5 (fun i => if i = q then .slice (some ⟨gi, k, none⟩) k (ci - k) else e5 i) q _ hqk (fun i _ => rfl)] at this
            exact this
          have HX : Hid ((∀ i, i < k → q + 1 ≤ i → (if i = q then Value.slice (some ⟨gi, k, none⟩) k (ci - k) else e5 i) = e4 i) ∧ (∀ i, i < q + 1 → ∃ gi' ci' cj, e4 i = .slice (some ⟨gi', 0, none⟩) (k + k) ci' ∧ (if i = q then Value.slice (some ⟨gi, k, none⟩) k (ci - k) else e5 i) = .slice (some ⟨gi', k, none⟩) k cj)) :=
            ⟨fun i hi hqi => by rw [if_neg (by omega)]; exact h51 i hi (by omega), fun i hi => by
              by_cases c : i = q
              · exact ⟨gi, ci, ci - k, by rw [c]; exact h61, by rw [if_pos c]⟩
              · rw [if_neg c]; exact h52 i (by omega)⟩
          have N3 : ∀ b, b ≠ w.heap.size → (wr.setCell ⟨w.heap.size, q, none⟩ (.slice (some ⟨gi, k, none⟩) k (ci - k))).heap[b]? = w4.heap[b]? := fun b hb => (heap_setCell_other wr ⟨w.heap.size, q, none⟩ b _ hb).trans (h53 b hb)
          have N4 : Below w.heap.size w (wr.setCell ⟨w.heap.size, q, none⟩ (.slice (some ⟨gi, k, none⟩) k (ci - k))) := h54.setCell (Nat.le_refl _) _
          have N5 : (wr.setCell ⟨w.heap.size, q, none⟩ (.slice (some ⟨gi, k, none⟩) k (ci - k))).heap.size = w4.heap.size := by simp [h55]
          clear hr5 h51 h52 h53 h54 h61 hT
          go_wp2
          go_roundw
          case rel => exact ⟨q + 1, by omega, by go_num, _, NR, HX.out.1, HX.out.2, N3, N4, N5⟩
          case measure => simp [intOf]; omega
        · obtain rfl : q = k := by omega
          have HM : Hid (RdM wr wr.heap.size (.slice (some ⟨w.heap.size, 0, none⟩) q q) q (fun _ => q) (dW q hv)) := by
            refine ⟨_, _, e5, rfl, by unfold maxLen; omega, fun _ => ⟨w.heap.size, 0, rfl, by omega, fun i hi => ?_⟩, fun i hi => ?_⟩
            · rw [Nat.zero_add, hr5.cellAt i (by omega), valsOf_get q e5 i hi]
            · show Rd wr wr.heap.size (e5 i) q (dW q hv i)
              obtain ⟨gi, ci, cj, h61, h62⟩ := h52 i hi
              obtain ⟨gi', ci', h63, h64, h65, h66⟩ := HF4.out i hi
              rw [h61] at h63
              cases h63
              rw [h62]
              refine ⟨_, _, rfl, by unfold maxLen; omega, fun _ => ⟨gi, q, rfl, by omega, fun j hj => ?_⟩⟩
              have o6 := HE4.out.each i hi
              rw [h61] at o6
              have c6 := o6.1.cellAt (q + j) (by omega)
              rw [cellsOf_get _ _ _ (by omega)] at c6
              exact (World.cell?_of_block (h53 gi h64)).trans c6
          clear hr5 h51 h52 h53
          go_wp2
          go_ret
          exact ⟨_, rfl, HM.out, h54⟩
end Go.Proofs.Ytoadjpacchhleaa

namespace Go.Proofs.Ytoadjpacchhleaa
open Go.RowKit F256
set_option linter.unusedVariables false
set_option linter.unusedSimpArgs false

/-- the weights as the program reckons them -/
def colW (D : Nat) (hv : Nat → Nat) : Mat := fun p => mixN (dW D hv) (genN D p 8) D

set_option maxHeartbeats 4000000 in
theorem columnWeights_any (D C : Nat) (vh : Value) (hv : Nat → Nat) (h1 : Nat) (w : World) (rh : RdI w h1 vh D (fun i => (hv i : Int))) (hh : h1 ≤ w.heap.size) (hD1 : 1 ≤ D) (hD : D ≤ 4) (hC : C ≤ 2) (hbd : ∀ k, k < D → hv k < D + 2) :
    Calls Try.prog 94 #[.int .i64 D, .int .i64 C, vh] w fun e w' => ∃ v', e = .returned v' ∧ OwnM w' w.heap.size w'.heap.size v' (D + C) (fun _ => D) (colW D hv) ∧ Below w.heap.size w w' := by
  have CD := dataWeights_any D vh hv h1 w rh hh hD1 hD hbd
  obtain ⟨aoh, caph, rfl, hmm, hch⟩ := rh
  have e136 : ((136 : Nat) : Int) = 136 := rfl
  obtain ⟨Q, hQ⟩ : ∃ Q, Q = D + C := ⟨_, rfl⟩
  have HQ : Hid (Q = D + C) := hQ
  have hQ6 : Q ≤ 6 := by omega
  clear hch hmm hQ
  go_enter Try.func94, Try.ntmps94
  go_wp2_with fail
  refine CD.mono ?_
  rintro e0 wD ⟨vD, rfl, rD, BD⟩
  obtain ⟨ao, cap, e, rfl, hm, hc, he⟩ := rD
  obtain ⟨b, off, rfl, hbw, hcell⟩ := hc (by omega)
  have HE : Hid (∀ i, i < D → Rd wD wD.heap.size (e i) D (dW D hv i)) := he
  have HC : Hid (∀ i, i < D → wD.cell? ⟨b, off + i, none⟩ = some (e i)) := hcell
  clear hc he hcell hm CD
  go_wp2_with (at_make; refine wp_makeM _ rfl _ _ rfl _ _ Q rfl rfl (by have := HQ.out; omega) (by have := HQ.out; omega) (by omega) ?_; intro w1 hown1 hb1 hz1)
  have E0 : OwnE w1 wD.heap.size w1.heap.size (.slice (some ⟨wD.heap.size, 0, none⟩) Q Q) Q (lenN D 0) (colW D hv) wD.heap.size Q (fun _ => nilS) := ownE_made hown1 (Nat.le_refl _) hz1 (fun i hi => by simp [lenN])
  clear hown1
  go_loopw [22] (fun i wr => ∃ k : Nat, k ≤ Q ∧ i = .int .i64 k ∧ ∃ e', OwnE wr wD.heap.size wr.heap.size (.slice (some ⟨wD.heap.size, 0, none⟩) Q Q) Q (lenN D k) (colW D hv) wD.heap.size Q e' ∧ Below wD.heap.size wD wr) (fun i _ => Q - (intOf i).toNat)
  case atStart => exact ⟨0, Nat.zero_le _, rfl, _, E0, hb1⟩
  case round =>
    clear E0 hb1 hz1
    obtain ⟨k, hk, rfl, e', hE, hb⟩ := hrel
    by_cases hlt : k < Q
    · have HOE : Hid (OwnE wr wD.heap.size wr.heap.size (.slice (some ⟨wD.heap.size, 0, none⟩) Q Q) Q (lenN D k) (colW D hv) wD.heap.size Q e') := hE
      have HB : Hid (Below wD.heap.size wD wr) := hb
      have hlti : (k : Int) < (D : Int) + (C : Int) := by have := HQ.out; omega
      have szr := hb.size
      have hgr := hE.high
      clear hE hb
      go_wp2_with (at_make; refine wp_makeB _ rfl _ _ rfl _ _ D rfl rfl rfl rfl (by omega) ?_; intro w2 ho2 hb2 hz2; have q1 : w2.cell? ⟨wD.heap.size, k, none⟩ = some (e' k) := (HOE.out.below hb2 (Nat.le_refl _)).cell k hlt; have q2 : w2.frozen? ⟨wD.heap.size, k, none⟩ = false := (HOE.out.below hb2 (Nat.le_refl _)).frozen k)
      have e136 : ((136 : Nat) : Int) = 136 := rfl
      obtain ⟨wk, hwk⟩ : ∃ wk, wk = wr := ⟨_, rfl⟩
      rw [← hwk] at ho2 hb2 hz2 HOE HB szr hgr ⊢
      obtain ⟨row, hrow⟩ : ∃ row : Value, row = .slice (some ⟨wk.heap.size, 0, none⟩) D D := ⟨_, rfl⟩
      obtain ⟨E1, hE1k, ER⟩ : ∃ E1 : Nat → Value, E1 k = row ∧ OwnE (w2.setCell ⟨wD.heap.size, k, none⟩ (.slice (some ⟨wk.heap.size, 0, none⟩) D D)) wD.heap.size w2.heap.size (.slice (some ⟨wD.heap.size, 0, none⟩) Q Q) Q (lenN D (k + 1)) (sumM (colW D hv) (dW D hv) (genN D k 8) k 0) wD.heap.size Q E1 :=
        ⟨_, by simp [hrow], (HOE.out.below hb2 (Nat.le_refl _)).lay k hlt (n' := lenN D (k + 1)) (M' := sumM (colW D hv) (dW D hv) (genN D k 8) k 0) (lo2 := wk.heap.size) (hi2 := w2.heap.size) (by
          rw [show lenN D (k + 1) k = D by simp [lenN]]
          exact ho2.congr (fun i _ => by simp [sumM, mixN])) (Nat.le_refl _) hb2.size (fun j hj hne => by
          unfold lenN
          by_cases c : j < k
          · rw [if_pos c, if_pos (by omega)]
          · rw [if_neg c, if_neg (by omega)]) (fun j hj hne => by simp [sumM, hne])⟩
      have BA : Below wD.heap.size wD (w2.setCell ⟨wD.heap.size, k, none⟩ (.slice (some ⟨wk.heap.size, 0, none⟩) D D)) := (HB.out.trans (hb2.mono szr)).setCell (Nat.le_refl _) _
      obtain ⟨wA, hwA⟩ : ∃ wA, wA = w2.setCell ⟨wD.heap.size, k, none⟩ (.slice (some ⟨wk.heap.size, 0, none⟩) D D) := ⟨_, rfl⟩
      have hsA : wA.heap.size = w2.heap.size := by rw [hwA]; simp
      have CF := factorsFrom_any 8 D k 136 rfl (by omega) (by omega) (by have := HQ.out; omega) wA
      rw [e136] at CF
      rw [← hwA] at ER BA ⊢
      clear ho2 hb2 q1 q2 HOE HB hwk hwA
      refine CF.mono ?_
      rintro ee w3 ⟨v3, rfl, o3, b3⟩
      obtain ⟨gv, capv, hgv, h31, h32, h33, h34⟩ := o3.form (by omega)
      subst hgv
      have s3 := b3.size
      rw [hsA] at o3 h31 s3
      have E3 := ER.below b3 (by omega)
      have B3 : Below wD.heap.size wD w3 := BA.trans (b3.mono (by omega))
      clear CF b3 ER BA
      go_wp2
      go_loopw [34] (fun i wr => ∃ m : Nat, m ≤ D ∧ i = .int .i64 m ∧ OwnE wr wD.heap.size w2.heap.size (.slice (some ⟨wD.heap.size, 0, none⟩) Q Q) Q (lenN D (k + 1)) (sumM (colW D hv) (dW D hv) (genN D k 8) k m) wD.heap.size Q E1 ∧ Own wr w2.heap.size w3.heap.size (.slice (some ⟨gv, 0, none⟩) D capv) D (genN D k 8) ∧ Below wD.heap.size wD wr ∧ w3.heap.size ≤ wr.heap.size) (fun i _ => D - (intOf i).toNat)
      case atStart => exact ⟨0, Nat.zero_le _, rfl, E3, o3, B3, Nat.le_refl _⟩
      case round =>
        clear E3 o3 B3
        obtain ⟨m, hm', rfl, hE, ho, hb, hsz⟩ := hrel
        by_cases hmR : m < D
        · obtain ⟨y, hy⟩ : ∃ y, y = genN D k 8 m := ⟨_, rfl⟩
          have hyl : y < 256 := by rw [hy]; exact genN_lt D k 8 m
          have c1 : wr.cell? ⟨wD.heap.size, k, none⟩ = some (.slice (some ⟨wk.heap.size, 0, none⟩) D D) := by rw [← hrow, ← hE1k]; exact hE.cell k hlt
          have c2 : wr.cell? ⟨b, off + m, none⟩ = some (e m) := (hb.cell (p := ⟨b, off + m, none⟩) hbw).trans (HC.out m hmR)
          have c3 : wr.cell? ⟨gv, m, none⟩ = some (.int .u8 y) := by rw [hy]; exact (ho.1.cellAt m (by omega)).trans (cellsOf_get _ _ _ hmR)
          have ok : Own wr wD.heap.size w2.heap.size (.slice (some ⟨wk.heap.size, 0, none⟩) D D) D (mixN (dW D hv) (genN D k 8) m) := by
            have := hE.each k hlt
            rw [hE1k, hrow, show lenN D (k + 1) k = D by simp [lenN], show sumM (colW D hv) (dW D hv) (genN D k 8) k m k = mixN (dW D hv) (genN D k 8) m by simp [sumM]] at this
            exact this
          have rm : Rd wr wD.heap.size (e m) D (dW D hv m) := (HE.out m hmR).below hb (Nat.le_refl _)
          have CA := addScaled_any (.slice (some ⟨wk.heap.size, 0, none⟩) D D) (e m) D (mixN (dW D hv) (genN D k 8) m) (dW D hv m) (mixN (dW D hv) (genN D k 8) (m + 1)) y wk.heap.size (wk.heap.size + 1) wD.heap.size (wr.drewN 1) (ok.tight.drewN 1) (by show wk.heap.size + 1 ≤ wr.heap.size; omega) rm (by omega) (by show wD.heap.size ≤ wr.heap.size; omega) (mixN_lt (dW D hv) _ (genN_lt D k 8) m) (dW_byt D hv m) hyl (fun i _ => by rw [hy]; rfl) (by omega)
          have HOE : Hid (OwnE wr wD.heap.size w2.heap.size (.slice (some ⟨wD.heap.size, 0, none⟩) Q Q) Q (lenN D (k + 1)) (sumM (colW D hv) (dW D hv) (genN D k 8) k m) wD.heap.size Q E1) := hE
          have HO : Hid (Own wr w2.heap.size w3.heap.size (.slice (some ⟨gv, 0, none⟩) D capv) D (genN D k 8)) := ho
          have HOK : Hid (Own wr wD.heap.size w2.heap.size (.slice (some ⟨wk.heap.size, 0, none⟩) D D) D (mixN (dW D hv) (genN D k 8) m)) := ok
          have HBL : Hid (Below wD.heap.size wD wr) := hb
          obtain ⟨x, hx⟩ : ∃ x, x = e m := ⟨_, rfl⟩
          rw [← hx] at c2 CA rm
          obtain ⟨aox, capx, hsx, _, _⟩ := rm
          subst hsx
          have HE1 : Hid (E1 k = row) := hE1k
          have HRW : Hid (row = .slice (some ⟨wk.heap.size, 0, none⟩) D D) := hrow
          clear hE ho hb ok hx hy hE1k hrow
          go_wp2
          go_region_with (go_at_call 61; refine CA.mono ?_; rintro ee w7 ⟨rfl, o7, ch7⟩)
          all_goals
            have E7 := (HOE.out.drewN 1).updN (M' := sumM (colW D hv) (dW D hv) (genN D k 8) k (m + 1)) k hlt (by rw [HE1.out, HRW.out]; exact ch7) (by
              rw [HE1.out, HRW.out, show lenN D (k + 1) k = D by simp [lenN], show sumM (colW D hv) (dW D hv) (genN D k 8) k (m + 1) k = mixN (dW D hv) (genN D k 8) (m + 1) by simp [sumM]]
              exact HOK.out.untight o7) (fun j hj hne => by simp [sumM, hne])
            have O7 : Own w7 w2.heap.size w3.heap.size (.slice (some ⟨gv, 0, none⟩) D capv) D (genN D k 8) := (HO.out.drewN 1).chg ch7 (.inr (by omega))
            have B7 : Below wD.heap.size wD w7 := (below_drewN HBL.out 1).trans (ch7.below (by omega) HBL.out.size)
            have S7 : w3.heap.size ≤ w7.heap.size := Nat.le_trans hsz ch7.size
            have q5 := HE1.out
            have q6 := HRW.out
            clear o7 ch7 HOE HO HBL HOK CA c1 c2 c3
            go_wp2
            go_roundw
            case rel => exact ⟨m + 1, by omega, by go_num, E7, O7, B7, S7⟩
            case measure => simp [intOf]; omega
        · obtain rfl : m = D := by omega
          have E8 : OwnE wr wD.heap.size wr.heap.size (.slice (some ⟨wD.heap.size, 0, none⟩) Q Q) Q (lenN m (k + 1)) (colW m hv) wD.heap.size Q E1 := by
            have h9 := hE.weaken (hi' := wr.heap.size) (by omega)
            have e9 : sumM (colW m hv) (dW m hv) (genN m k 8) k m = colW m hv := by
              funext i
              unfold sumM
              by_cases c : i = k
              · rw [if_pos c, c]; rfl
              · rw [if_neg c]
            rw [e9] at h9
            exact h9
          clear hE ho
          go_wp2
          go_roundw
          case rel => exact ⟨k + 1, by omega, by go_num, E1, E8, hb⟩
          case measure => simp [intOf]; omega
    · have hlti : ¬ ((k : Int) < (D : Int) + (C : Int)) := by have := HQ.out; omega
      obtain rfl : k = Q := by omega
      have E9 := hE.congrN (n' := fun _ => D) (fun i hi => by simp [lenN, hi])
      clear hE
      go_wp2
      go_ret
      refine ⟨_, rfl, ?_, BD.trans (hb.mono BD.size)⟩
      rw [← HQ.out]
      exact OwnM.weaken ⟨_, _, _, E9⟩ BD.size (Nat.le_refl _)
end Go.Proofs.Ytoadjpacchhleaa

namespace Go.Proofs.Ytoadjpacchhleaa
open Go.RowKit F256
set_option linter.unusedVariables false
set_option linter.unusedSimpArgs false

/-- six bytes as an array -/
def arr6 (f : Nat → Nat) : Value := .agg #[.int .u8 (f 0), .int .u8 (f 1), .int .u8 (f 2), .int .u8 (f 3), .int .u8 (f 4), .int .u8 (f 5)]
theorem arr6_cells (f : Nat → Nat) (h : ∀ j, f j < 256) : arr6 f = .agg (([UInt8.ofNat (f 0), UInt8.ofNat (f 1), UInt8.ofNat (f 2), UInt8.ofNat (f 3), UInt8.ofNat (f 4), UInt8.ofNat (f 5)] : List UInt8).map Extern.Stop.cell).toArray := by
  have e : ∀ j, Extern.Stop.cell (UInt8.ofNat (f j)) = Value.int .u8 (f j) := fun j => by
    have : (UInt8.ofNat (f j)).toNat = f j := by simp [UInt8.toNat_ofNat, Nat.mod_eq_of_lt (h j)]
    simp [Extern.Stop.cell, this]
  simp [arr6, e]
theorem eq6_run (f : Nat → Nat) (hf : ∀ j, f j < 256) (w : World) : (Op.equalIn 10000 112 (arr6 f) (arr6 f)).run Try.prog w = .ok true w := by
  rw [arr6_cells f hf, run_equalIn_bytes w 9998 112 5 6 Try.underlying112 Try.underlying5 (fun w => by kernel_rfl) _ _ rfl rfl]
  simp
theorem check6 (em : Bool) (f : Nat → Nat) (w : World) : (Instr.checkKey em 10000 112 (arr6 f)).run Try.prog w = .ok () w := by kernel_rfl
theorem find6_none (f : Nat → Nat) (w : World) : (Instr.findKey 112 (arr6 f) []).run Try.prog w = .ok none w := by kernel_rfl
theorem find6_one (f : Nat → Nat) (hf : ∀ j, f j < 256) (val : Value) (t : Nat) (w : World) : (Instr.findKey 112 (arr6 f) [⟨arr6 f, val, t⟩]).run Try.prog w = .ok (some (0, val)) w := by
  have h := eq6_run f hf w
  have hn : Instr.findNow (.array 6 5) (arr6 f) [⟨arr6 f, val, t⟩] 0 = none := rfl
  simp [Instr.findKey, run_underlying Try.underlying112, hn, Instr.findAsking, Op.equal, Op.maxDepth, h, Result.andThen]
theorem zero_lists (w : World) : (zeroValue 32).run Try.prog w = .ok nilS w := by kernel_rfl
/-- the block of a map -/
def MapAt (w : World) (b : Nat) (es : Array MapEntry) (t : Nat) : Prop := w.heap[b]? = some (.map es t)
theorem MapAt.lt {w : World} {b : Nat} {es : Array MapEntry} {t : Nat} (h : MapAt w b es t) : b < w.heap.size := (Array.getElem?_eq_some_iff.1 h).1
theorem MapAt.below {w w' : World} {b B : Nat} {es : Array MapEntry} {t : Nat} (h : MapAt w b es t) (hb : Below B w w') (hB : b < B) : MapAt w' b es t := (hb.block b hB).trans h
theorem mapAt_new (w : World) : MapAt (w.alloc (.map #[] 0)) w.heap.size #[] 0 := heap_alloc_new w _
/-- _, known := book[key], where it has none -/
theorem look6_none {w : World} {b : Nat} (h : MapAt w b #[] 0) (f : Nat → Nat) : (Instr.lookup 94 (.map (some b)) (arr6 f) true).run Try.prog w = .ok (.tuple #[nilS, .bool false]) w := by
  simp [Instr.lookup, run_underlying Try.underlying94, MapKept.run_getObj_map h, check6, find6_none, zero_lists, Result.andThen]
theorem look6_one {w : World} {b : Nat} {f : Nat → Nat} (hf : ∀ j, f j < 256) {val : Value} {t u : Nat} (h : MapAt w b #[⟨arr6 f, val, t⟩] u) (c : Bool) : (Instr.lookup 94 (.map (some b)) (arr6 f) c).run Try.prog w = .ok (if c then .tuple #[val, .bool true] else val) w := by
  simp [Instr.lookup, run_underlying Try.underlying94, MapKept.run_getObj_map h, check6, find6_one f hf, Result.andThen]
/-- book[key] = val, where it has none -/
theorem put6_none {w : World} {b : Nat} (h : MapAt w b #[] 0) (f : Nat → Nat) (val : Value) : (Instr.mapUpdate 94 (.map (some b)) (arr6 f) val).run Try.prog w = .ok () (ChangeMaps.setBlock w b (.map #[⟨arr6 f, val, 0⟩] 1)) := by
  simp [Instr.mapUpdate, run_underlying Try.underlying94, MapKept.run_getObj_map h, check6, find6_none, Result.andThen]
  exact MapKept.run_setObj_map _ h
theorem setB_same {w : World} {b : Nat} {es : Array MapEntry} {t : Nat} (h : MapAt w b es t) (o : Obj) : (ChangeMaps.setBlock w b o).heap[b]? = some o := ChangeMaps.heap_setBlock_same h o
theorem setB_other {w : World} {b : Nat} {es : Array MapEntry} {t : Nat} (h : MapAt w b es t) (o : Obj) {i : Nat} (hi : i ≠ b) : (ChangeMaps.setBlock w b o).heap[i]? = w.heap[i]? := ChangeMaps.heap_setBlock_other h o hi
theorem setB_size (w : World) (b : Nat) (o : Obj) : (ChangeMaps.setBlock w b o).heap.size = w.heap.size := by simp [ChangeMaps.setBlock]
theorem setB_chg {w : World} {b : Nat} {es : Array MapEntry} {t : Nat} (h : MapAt w b es t) (o : Obj) : Chg b (b + 1) w (ChangeMaps.setBlock w b o) :=
  ⟨rfl, rfl, rfl, Nat.le_of_eq (setB_size w b o).symm, fun k _ hk => setB_other h o (by omega)⟩
theorem below_chg {lo hi B : Nat} {w w' : World} (h : Below B w w') (hB : w.heap.size ≤ B) : Chg lo hi w w' := ⟨h.os, h.tape, h.output, h.size, fun k hk _ => h.block k (by omega)⟩
end Go.Proofs.Ytoadjpacchhleaa

namespace Go.Proofs.Ytoadjpacchhleaa
open Go.RowKit F256
set_option linter.unusedVariables false
set_option linter.unusedSimpArgs false

/-- the lineup behind k places -/
def keyN (hv : Nat → Nat) : Nat → Nat → Nat
  | 0, _ => 0
  | k + 1, i => if i = hv k then 1 else keyN hv k i
theorem keyN_lt (hv : Nat → Nat) : ∀ k i, keyN hv k i < 256
  | 0, _ => by simp [keyN]
  | k + 1, i => by
    simp only [keyN]
    split
    · omega
    · exact keyN_lt hv k i
def keyA (hv : Nat → Nat) (k : Nat) : Array Value := #[.int .u8 (keyN hv k 0), .int .u8 (keyN hv k 1), .int .u8 (keyN hv k 2), .int .u8 (keyN hv k 3), .int .u8 (keyN hv k 4), .int .u8 (keyN hv k 5)]
theorem keyA_size (hv : Nat → Nat) (k : Nat) : (keyA hv k).size = 6 := rfl
theorem keyA_set (hv : Nat → Nat) (k p : Nat) (hp : p = hv k) (h6 : p < 6) : (keyA hv k).setIfInBounds p (.int .u8 1) = keyA hv (k + 1) := by
  have : p = 0 ∨ p = 1 ∨ p = 2 ∨ p = 3 ∨ p = 4 ∨ p = 5 := by omega
  rcases this with rfl | rfl | rfl | rfl | rfl | rfl <;> simp [keyA, keyN, ← hp]

set_option maxRecDepth 20000 in
set_option maxHeartbeats 4000000 in
theorem weights_new (B D C : Nat) (vh : Value) (hv : Nat → Nat) (h1 : Nat) (w : World) (hM : MapAt w B #[] 0) (rh : RdI w h1 vh D (fun i => (hv i : Int))) (hh : h1 ≤ w.heap.size) (hD1 : 1 ≤ D) (hD : D ≤ 4) (hC : C ≤ 2) (hbd : ∀ k, k < D → hv k < D + 2) :
    Calls Try.prog 74 #[.map (some B), .int .i64 D, .int .i64 C, vh] w fun e w' => ∃ v', e = .returned v' ∧ OwnM w' w.heap.size w'.heap.size v' (D + C) (fun _ => D) (colW D hv) ∧ MapAt w' B #[⟨arr6 (keyN hv D), v', 0⟩] 1 ∧ Chg B (B + 1) w w' := by
  have HRH : Hid (RdI w h1 vh D (fun i => (hv i : Int))) := rh
  obtain ⟨aoh, caph, rfl, hmm, hch⟩ := rh
  obtain ⟨bh, oh, rfl, hbh, hcell⟩ := hch (by omega)
  have HC : Hid (∀ i, i < D → w.cell? ⟨bh, oh + i, none⟩ = some (.int .i64 (hv i : Int))) := hcell
  have HBD : Hid (∀ k, k < D → hv k < D + 2) := hbd
  have hbw : bh < w.heap.size := by omega
  have hBw := hM.lt
  have HM : Hid (MapAt w B #[] 0) := hM
  clear hch hcell hbd hmm hM
  go_enter Try.func74, Try.ntmps74
  go_wp2
  go_loopw [16] (fun i wr => ∃ k : Nat, k ≤ D ∧ i = .int .i64 k ∧ wr = w.alloc (.cells (keyA hv k) 112)) (fun i _ => D - (intOf i).toNat)
  case atStart => exact ⟨0, Nat.zero_le _, rfl, rfl⟩
  case round =>
    obtain ⟨k, hk, rfl, rfl⟩ := hrel
    by_cases hlt : k < D
    · obtain ⟨p, hp⟩ : ∃ p, p = hv k := ⟨_, rfl⟩
      have ck : (w.alloc (.cells (keyA hv k) 112)).cell? ⟨bh, oh + k, none⟩ = some (.int .i64 (p : Int)) := by
        rw [cell_alloc_old _ _ _ _ hbw, hp]
        exact HC.out k hlt
      have hp6 : p < 6 := by have := HBD.out k hlt; omega
      have hT := keyA_size hv k
      have HP : Hid (p = hv k) := hp
      clear hp
      go_wp2
      go_roundw
      case rel => exact ⟨k + 1, by omega, by go_num, by rw [keyA_set hv k p HP.out hp6]⟩
      case measure => simp [intOf]; omega
    · obtain rfl : k = D := by omega
      obtain ⟨k0, hk0⟩ : ∃ x, x = keyN hv k 0 := ⟨_, rfl⟩
      obtain ⟨k1, hk1⟩ : ∃ x, x = keyN hv k 1 := ⟨_, rfl⟩
      obtain ⟨k2, hk2⟩ : ∃ x, x = keyN hv k 2 := ⟨_, rfl⟩
      obtain ⟨k3, hk3⟩ : ∃ x, x = keyN hv k 3 := ⟨_, rfl⟩
      obtain ⟨k4, hk4⟩ : ∃ x, x = keyN hv k 4 := ⟨_, rfl⟩
      obtain ⟨k5, hk5⟩ : ∃ x, x = keyN hv k 5 := ⟨_, rfl⟩
      have HKA : Hid (arr6 (keyN hv k) = .agg #[.int .u8 k0, .int .u8 k1, .int .u8 k2, .int .u8 k3, .int .u8 k4, .int .u8 k5]) := by
        show arr6 (keyN hv k) = _
        rw [hk0, hk1, hk2, hk3, hk4, hk5]
        rfl
      have ha : keyA hv k = #[.int .u8 k0, .int .u8 k1, .int .u8 k2, .int .u8 k3, .int .u8 k4, .int .u8 k5] := by
        rw [hk0, hk1, hk2, hk3, hk4, hk5]
        rfl
      obtain ⟨wK, hwK⟩ : ∃ wK, wK = w.alloc (.cells (keyA hv k) 112) := ⟨_, rfl⟩
      have BK : Below w.heap.size w wK := by rw [hwK]; exact (Below.refl _ _).alloc (Nat.le_refl _) _
      have XK : Box wK w.heap.size #[.int .u8 k0, .int .u8 k1, .int .u8 k2, .int .u8 k3, .int .u8 k4, .int .u8 k5] 112 := by rw [hwK, ← ha]; exact box_new w _ _
      have MK : MapAt wK B #[] 0 := HM.out.below BK hBw
      have L1 := look6_none MK (keyN hv k)
      rw [HKA.out] at L1
      rw [← hwK]
      have d0 := XK.cell 0
      have d1 := XK.cell 1
      have d2 := XK.cell 2
      have d3 := XK.cell 3
      have d4 := XK.cell 4
      have d5 := XK.cell 5
      simp only [List.getElem?_toArray, List.getElem?_cons_zero, List.getElem?_cons_succ] at d0 d1 d2 d3 d4 d5
      clear ha hwK hk0 hk1 hk2 hk3 hk4 hk5
      go_wp2
      have CW := columnWeights_any k C (.slice (some ⟨bh, oh, none⟩) k caph) hv h1 (wK.drewN 1) (HRH.out.below (below_drewN BK 1) hh) (Nat.le_trans hh BK.size) hD1 hD hC HBD.out
      clear L1 HC
      go_region_with (go_at_call 94; refine CW.mono ?_; rintro ee w3 ⟨v3, rfl, o3, b3⟩; obtain ⟨gW, cW, eW, hW⟩ := o3; have hval := hW.val; subst hval; have b4 : Below wK.heap.size wK w3 := undrewN' b3; have M3 : MapAt w3 B #[] 0 := MK.below b4 (by show B < wK.heap.size; have := BK.size; omega); have PU := put6_none M3 (keyN hv k) (.slice (some ⟨gW, 0, none⟩) (k + C) cW); rw [HKA.out] at PU; have X3 : Box w3 w.heap.size #[.int .u8 k0, .int .u8 k1, .int .u8 k2, .int .u8 k3, .int .u8 k4, .int .u8 k5] 112 := XK.below b4 XK.lt; have f0 : w3.cell? ⟨w.heap.size, 0, none⟩ = some (.int .u8 k0) := X3.cell 0; have f1 : w3.cell? ⟨w.heap.size, 1, none⟩ = some (.int .u8 k1) := X3.cell 1; have f2 : w3.cell? ⟨w.heap.size, 2, none⟩ = some (.int .u8 k2) := X3.cell 2; have f3 : w3.cell? ⟨w.heap.size, 3, none⟩ = some (.int .u8 k3) := X3.cell 3; have f4 : w3.cell? ⟨w.heap.size, 4, none⟩ = some (.int .u8 k4) := X3.cell 4; have f5 : w3.cell? ⟨w.heap.size, 5, none⟩ = some (.int .u8 k5) := X3.cell 5)
      all_goals
        obtain ⟨w5, hw5⟩ : ∃ w5, w5 = ChangeMaps.setBlock w3 B (.map #[⟨.agg #[.int .u8 k0, .int .u8 k1, .int .u8 k2, .int .u8 k3, .int .u8 k4, .int .u8 k5], .slice (some ⟨gW, 0, none⟩) (k + C) cW, 0⟩] 1) := ⟨_, rfl⟩
        have sK := BK.size
        have s4 := b4.size
        have hs5 : w5.heap.size = w3.heap.size := by rw [hw5]; exact setB_size _ _ _
        have M5 : MapAt w5 B #[⟨arr6 (keyN hv k), .slice (some ⟨gW, 0, none⟩) (k + C) cW, 0⟩] 1 := by rw [hw5, HKA.out]; exact setB_same M3 _
        have C5 : Chg B (B + 1) w w5 := by
          have h5 := setB_chg M3 (.map #[⟨.agg #[.int .u8 k0, .int .u8 k1, .int .u8 k2, .int .u8 k3, .int .u8 k4, .int .u8 k5], .slice (some ⟨gW, 0, none⟩) (k + C) cW, 0⟩] 1)
          rw [← hw5] at h5
          exact ((below_chg (lo := B) (hi := B + 1) BK (Nat.le_refl _)).trans (below_chg b4 (Nat.le_refl _))).trans h5
        have oth : ∀ b, b ≠ B → w5.heap[b]? = w3.heap[b]? := fun b hb => by rw [hw5]; exact setB_other M3 _ hb
        have OM : OwnM w5 w.heap.size w5.heap.size (.slice (some ⟨gW, 0, none⟩) (k + C) cW) (k + C) (fun _ => k) (colW k hv) := by
          have h6 := hW.keep (w2 := w5) (fun b hb1 _ => oth b (by have hb2 : wK.heap.size ≤ b := hb1; omega))
          have h7 : OwnM w5 wK.heap.size w3.heap.size (.slice (some ⟨gW, 0, none⟩) (k + C) cW) (k + C) (fun _ => k) (colW k hv) := ⟨_, _, _, h6⟩
          exact h7.weaken sK (by omega)
        have L5 := look6_one (keyN_lt hv k) M5 false
        rw [HKA.out] at L5
        simp only [Bool.false_eq_true, if_false] at L5
        have X5 : Box w5 w.heap.size #[.int .u8 k0, .int .u8 k1, .int .u8 k2, .int .u8 k3, .int .u8 k4, .int .u8 k5] 112 := (oth _ (by omega)).trans X3
        have g0 : w5.cell? ⟨w.heap.size, 0, none⟩ = some (.int .u8 k0) := X5.cell 0
        have g1 : w5.cell? ⟨w.heap.size, 1, none⟩ = some (.int .u8 k1) := X5.cell 1
        have g2 : w5.cell? ⟨w.heap.size, 2, none⟩ = some (.int .u8 k2) := X5.cell 2
        have g3 : w5.cell? ⟨w.heap.size, 3, none⟩ = some (.int .u8 k3) := X5.cell 3
        have g4 : w5.cell? ⟨w.heap.size, 4, none⟩ = some (.int .u8 k4) := X5.cell 4
        have g5 : w5.cell? ⟨w.heap.size, 5, none⟩ = some (.int .u8 k5) := X5.cell 5
        have HOM : Hid (OwnM w5 w.heap.size w5.heap.size (.slice (some ⟨gW, 0, none⟩) (k + C) cW) (k + C) (fun _ => k) (colW k hv)) := OM
        have HM5 : Hid (MapAt w5 B #[⟨arr6 (keyN hv k), .slice (some ⟨gW, 0, none⟩) (k + C) cW, 0⟩] 1) := M5
        rw [← hw5]
        clear hw5 oth PU M3 X3 f0 f1 f2 f3 f4 f5 b3 b4 hW CW MK BK XK d0 d1 d2 d3 d4 d5 OM M5
        go_wp2
        go_ret
        exact ⟨_, rfl, HOM.out, HM5.out, C5⟩

set_option maxRecDepth 20000 in
set_option maxHeartbeats 4000000 in
theorem weights_old (B D C : Nat) (vh : Value) (hv : Nat → Nat) (h1 : Nat) (w : World) (t u : Nat) (ao : Option Addr) (nv cv : Nat) (hM : MapAt w B #[⟨arr6 (keyN hv D), .slice ao nv cv, t⟩] u) (rh : RdI w h1 vh D (fun i => (hv i : Int))) (hh : h1 ≤ w.heap.size) (hD1 : 1 ≤ D) (hD : D ≤ 4) (hbd : ∀ k, k < D → hv k < D + 2) :
    Calls Try.prog 74 #[.map (some B), .int .i64 D, .int .i64 C, vh] w fun e w' => e = .returned (.slice ao nv cv) ∧ Below w.heap.size w w' := by
  obtain ⟨aoh, caph, rfl, hmm, hch⟩ := rh
  obtain ⟨bh, oh, rfl, hbh, hcell⟩ := hch (by omega)
  have HC : Hid (∀ i, i < D → w.cell? ⟨bh, oh + i, none⟩ = some (.int .i64 (hv i : Int))) := hcell
  have HBD : Hid (∀ k, k < D → hv k < D + 2) := hbd
  have hbw : bh < w.heap.size := by omega
  have hBw := hM.lt
  have HM : Hid (MapAt w B #[⟨arr6 (keyN hv D), .slice ao nv cv, t⟩] u) := hM
  clear hch hcell hbd hmm hM
  go_enter Try.func74, Try.ntmps74
  go_wp2
  go_loopw [16] (fun i wr => ∃ k : Nat, k ≤ D ∧ i = .int .i64 k ∧ wr = w.alloc (.cells (keyA hv k) 112)) (fun i _ => D - (intOf i).toNat)
  case atStart => exact ⟨0, Nat.zero_le _, rfl, rfl⟩
  case round =>
    obtain ⟨k, hk, rfl, rfl⟩ := hrel
    by_cases hlt : k < D
    · obtain ⟨p, hp⟩ : ∃ p, p = hv k := ⟨_, rfl⟩
      have ck : (w.alloc (.cells (keyA hv k) 112)).cell? ⟨bh, oh + k, none⟩ = some (.int .i64 (p : Int)) := by
        rw [cell_alloc_old _ _ _ _ hbw, hp]
        exact HC.out k hlt
      have hp6 : p < 6 := by have := HBD.out k hlt; omega
      have hT := keyA_size hv k
      have HP : Hid (p = hv k) := hp
      clear hp
      go_wp2
      go_roundw
      case rel => exact ⟨k + 1, by omega, by go_num, by rw [keyA_set hv k p HP.out hp6]⟩
      case measure => simp [intOf]; omega
    · obtain rfl : k = D := by omega
      obtain ⟨k0, hk0⟩ : ∃ x, x = keyN hv k 0 := ⟨_, rfl⟩
      obtain ⟨k1, hk1⟩ : ∃ x, x = keyN hv k 1 := ⟨_, rfl⟩
      obtain ⟨k2, hk2⟩ : ∃ x, x = keyN hv k 2 := ⟨_, rfl⟩
      obtain ⟨k3, hk3⟩ : ∃ x, x = keyN hv k 3 := ⟨_, rfl⟩
      obtain ⟨k4, hk4⟩ : ∃ x, x = keyN hv k 4 := ⟨_, rfl⟩
      obtain ⟨k5, hk5⟩ : ∃ x, x = keyN hv k 5 := ⟨_, rfl⟩
      have HKA : Hid (arr6 (keyN hv k) = .agg #[.int .u8 k0, .int .u8 k1, .int .u8 k2, .int .u8 k3, .int .u8 k4, .int .u8 k5]) := by
        show arr6 (keyN hv k) = _
        rw [hk0, hk1, hk2, hk3, hk4, hk5]
        rfl
      have ha : keyA hv k = #[.int .u8 k0, .int .u8 k1, .int .u8 k2, .int .u8 k3, .int .u8 k4, .int .u8 k5] := by
        rw [hk0, hk1, hk2, hk3, hk4, hk5]
        rfl
      obtain ⟨wK, hwK⟩ : ∃ wK, wK = w.alloc (.cells (keyA hv k) 112) := ⟨_, rfl⟩
      have BK : Below w.heap.size w wK := by rw [hwK]; exact (Below.refl _ _).alloc (Nat.le_refl _) _
      have XK : Box wK w.heap.size #[.int .u8 k0, .int .u8 k1, .int .u8 k2, .int .u8 k3, .int .u8 k4, .int .u8 k5] 112 := by rw [hwK, ← ha]; exact box_new w _ _
      have MK : MapAt wK B #[⟨arr6 (keyN hv k), .slice ao nv cv, t⟩] u := HM.out.below BK hBw
      have L1 := look6_one (keyN_lt hv k) MK true
      have L2 := look6_one (keyN_lt hv k) MK false
      rw [HKA.out] at L1 L2
      simp only [Bool.false_eq_true, if_false, if_true] at L1 L2
      rw [← hwK]
      have d0 : wK.cell? ⟨w.heap.size, 0, none⟩ = some (.int .u8 k0) := XK.cell 0
      have d1 : wK.cell? ⟨w.heap.size, 1, none⟩ = some (.int .u8 k1) := XK.cell 1
      have d2 : wK.cell? ⟨w.heap.size, 2, none⟩ = some (.int .u8 k2) := XK.cell 2
      have d3 : wK.cell? ⟨w.heap.size, 3, none⟩ = some (.int .u8 k3) := XK.cell 3
      have d4 : wK.cell? ⟨w.heap.size, 4, none⟩ = some (.int .u8 k4) := XK.cell 4
      have d5 : wK.cell? ⟨w.heap.size, 5, none⟩ = some (.int .u8 k5) := XK.cell 5
      clear ha hwK hk0 hk1 hk2 hk3 hk4 hk5
      go_wp2
      go_ret
      exact ⟨rfl, BK⟩
end Go.Proofs.Ytoadjpacchhleaa

namespace Go.Proofs.Ytoadjpacchhleaa
open Go.RowKit F256
set_option linter.unusedVariables false
set_option linter.unusedSimpArgs false

/-- the length of the first of k lists that is there -/
def flN (n : Nat → Nat) : Nat → Nat
  | 0 => 0
  | k + 1 => if flN n k = 0 then n k else flN n k
theorem flN_keep {n : Nat → Nat} {k : Nat} (h : flN n k ≠ 0) : ∀ d, flN n (k + d) = flN n k
  | 0 => rfl
  | d + 1 => by
    have := flN_keep h d
    show (if flN n (k + d) = 0 then n (k + d) else flN n (k + d)) = flN n k
    rw [this, if_neg h]
theorem flN_cnt {n : Nat → Nat} {R : Nat} : ∀ k, k ≤ R → (cntN n k = 0 ∧ flN n k = 0) ∨ (0 < cntN n k ∧ flN n k = n (nthN n R 0) ∧ flN n k ≠ 0)
  | 0, _ => .inl ⟨rfl, rfl⟩
  | k + 1, hk => by
    rcases flN_cnt (n := n) (R := R) k (by omega) with ⟨h1, h2⟩ | ⟨h1, h2, h3⟩
    · by_cases c : n k = 0
      · left
        exact ⟨by rw [cntN, if_pos c, h1], by simp only [flN, h2, if_pos, c]⟩
      · right
        have e1 : cntN n (k + 1) = 1 := by rw [cntN, if_neg c, h1]
        have e2 : flN n (k + 1) = n k := by simp only [flN, h2, if_pos]
        have e3 := nthN_is (n := n) (R := R) (j := k) (by omega) c
        rw [h1] at e3
        exact ⟨by omega, by rw [e2, e3], by rw [e2]; exact c⟩
    · right
      have e2 : flN n (k + 1) = flN n k := by simp only [flN, if_neg h3]
      have := cntN_mono n (show k ≤ k + 1 by omega)
      exact ⟨by omega, by rw [e2, h2], by rw [e2]; exact h3⟩
theorem even_fl {n : Nat → Nat} {R : Nat} : (∀ i, i < R → n i = 0 ∨ n i = flN n R) ↔ EvenM R n := by
  constructor
  · intro h t ht
    rcases flN_cnt (n := n) (R := R) R (Nat.le_refl _) with ⟨h1, h2⟩ | ⟨h1, h2, h3⟩
    · omega
    · obtain ⟨a, b, c⟩ := nthN_spec (n := n) (R := R) (k := t) ht
      show n (nthN n R t) = n (nthN n R 0)
      rw [← h2]
      exact (h _ a).resolve_left b
  · intro h i hi
    by_cases c : n i = 0
    · exact .inl c
    · right
      have e1 := nthN_is (n := n) (R := R) (j := i) hi c
      have e2 := cntN_lt hi c
      rcases flN_cnt (n := n) (R := R) R (Nat.le_refl _) with ⟨h1, h2⟩ | ⟨h1, h2, h3⟩
      · omega
      · have := h (cntN n i) e2
        show n i = flN n R
        rw [h2]
        have h4 : n (nthN n R (cntN n i)) = n (nthN n R 0) := this
        rw [e1] at h4
        exact h4

set_option maxHeartbeats 1000000 in
theorem equallyLongOrEmpty_any (v : Value) (R : Nat) (n : Nat → Nat) (f : Mat) (hi : Nat) (w : World) (r : RdM w hi v R n f) :
    Calls Try.prog 72 #[v] w (BoolP (EvenM R n) w) := by
  obtain ⟨ao, cap, e, rfl, hm, hc, he⟩ := r
  unfold maxLen at hm
  have HHE : Hid (∀ i, i < R → Rd w hi (e i) (n i) (f i)) := he
  have HHC : Hid (R ≠ 0 → ∃ b off, ao = some ⟨b, off, none⟩ ∧ b < hi ∧ ∀ i, i < R → w.cell? ⟨b, off + i, none⟩ = some (e i)) := hc
  clear hc he
  go_enter Try.func72, Try.ntmps72
  go_wp2
  go_loop [3, 7] (fun l i => ∃ k L : Nat, k ≤ R ∧ i = .int .i64 k ∧ l = .int .i64 L ∧ L = flN n k ∧ ∀ i, i < k → n i = 0 ∨ n i = flN n k) (fun _ i => R - (intOf i).toNat)
  case atStart => exact ⟨0, 0, Nat.zero_le _, rfl, rfl, rfl, fun i hi => by omega⟩
  case round =>
    obtain ⟨k, L, hk, rfl, rfl, hL, hall⟩ := hrel
    have HL : Hid (L = flN n k) := hL
    have HALL : Hid (∀ i, i < k → n i = 0 ∨ n i = flN n k) := hall
    clear hL hall
    by_cases hlt : k < R
    · obtain ⟨b, off, hao, hblt, hcell⟩ := HHC.out (by omega)
      subst hao
      have hck : w.cell? ⟨b, off + k, none⟩ = some (e k) := hcell k hlt
      obtain ⟨aok, capk, hsk, hmk, hqk⟩ := HHE.out k hlt
      unfold maxLen at hmk
      rw [hsk] at hck
      obtain ⟨nk, hnk⟩ : ∃ x, x = n k := ⟨_, rfl⟩
      have HK : Hid (nk = n k) := hnk
      rw [← hnk] at hck hmk
      clear hcell hsk hqk hnk
      by_cases hL0 : L = 0
      · have HF : Hid (flN n (k + 1) = nk) := by
          show flN n (k + 1) = nk
          simp only [flN, ← HL.out, hL0, if_pos, HK.out]
        have HZ : Hid (∀ i, i < k → n i = 0) := fun i hi => by
          rcases HALL.out i hi with h | h
          · exact h
          · rw [h, ← HL.out, hL0]
        subst hL0
        have tn : ((nk : Int) != (nk : Int)) = false := by simp
        by_cases hn0 : nk = 0
        · subst hn0
          go_wp2
          go_round
          case rel => exact ⟨k + 1, 0, by omega, by go_num, rfl, HF.out.symm, fun i hi => by
                        by_cases c : i = k
                        · left; rw [c, ← HK.out]
                        · left; exact HZ.out i (by omega)⟩
          case measure => simp [intOf]; omega
        · have t0 : ((nk : Int) != 0) = true := by simp; omega
          go_wp2
          go_round
          case rel => exact ⟨k + 1, nk, by omega, by go_num, rfl, HF.out.symm, fun i hi => by
                        by_cases c : i = k
                        · right; rw [c, HF.out, HK.out]
                        · left; exact HZ.out i (by omega)⟩
          case measure => simp [intOf]; omega
      · have HF : Hid (flN n (k + 1) = L) := by
          show flN n (k + 1) = L
          simp only [flN, ← HL.out, if_neg hL0]
        have HNZ : Hid (flN n (k + 1) ≠ 0) := by
          show flN n (k + 1) ≠ 0
          rw [HF.out]; exact hL0
        have tL : ((L : Int) == 0) = false := by simp; omega
        have HA : Hid (∀ i, i < k → n i = 0 ∨ n i = flN n (k + 1)) := fun i hi => by rw [HF.out, HL.out]; exact HALL.out i hi
        by_cases hn0 : nk = 0
        · subst hn0
          clear hL0
          go_wp2
          go_round
          case rel => exact ⟨k + 1, L, by omega, by go_num, rfl, HF.out.symm, fun i hi => by
                        by_cases c : i = k
                        · left; rw [c, ← HK.out]
                        · exact HA.out i (by omega)⟩
          case measure => simp [intOf]; omega
        · have t0 : ((nk : Int) != 0) = true := by simp; omega
          by_cases hnL : nk = L
          · subst hnL
            clear hL0 hn0
            go_wp2
            go_round
            case rel => exact ⟨k + 1, nk, by omega, by go_num, rfl, HF.out.symm, fun i hi => by
                          by_cases c : i = k
                          · right; rw [c, ← HK.out, HF.out]
                          · exact HA.out i (by omega)⟩
            case measure => simp [intOf]; omega
          · have tn : ((nk : Int) != (L : Int)) = true := by simp; omega
            have HNO : Hid (¬ EvenM R n) := fun h => by
              have h1 := even_fl.mpr h k hlt
              have h2 := flN_keep HNZ.out (R - (k + 1))
              rw [show k + 1 + (R - (k + 1)) = R by omega] at h2
              rw [h2, HF.out, ← HK.out] at h1
              omega
            clear hL0 hn0 hnL
            go_wp2
            go_ret
            exact boolNo rfl HNO.out (Below.refl _ _)
    · obtain rfl : k = R := by omega
      go_wp2
      go_ret
      exact boolYes rfl (even_fl.mp HALL.out) (Below.refl _ _)

set_option maxHeartbeats 4000000 in
theorem weighed_any (vl vh vw : Value) (R D N : Nat) (n : Nat → Nat) (f : Mat) (hv : Nat → Nat) (c : Nat → Nat) (h1 h2 h3 : Nat) (w : World) (rl : RdM w h1 vl R n f) (rh : RdI w h2 vh D (fun i => (hv i : Int))) (rw' : Rd w h3 vw D c) (hh1 : h1 ≤ w.heap.size) (hh2 : h2 ≤ w.heap.size) (hh3 : h3 ≤ w.heap.size)
    (hD1 : 1 ≤ D) (hD : D ≤ 1000) (hb : ∀ k, k < D → hv k < R) (hN : ∀ k, k < D → n (hv k) = N) (hN2 : N ≤ 1000000000) (kf : Byt f) (kc : ∀ i, c i < 256) :
    Calls Try.prog 73 #[vl, vh, vw] w fun e w' => ∃ v', e = .returned v' ∧ Own w' w.heap.size w'.heap.size v' N (mixN (fun k => f (hv k)) c D) ∧ Below w.heap.size w w' := by
  have hR0 : 0 < R := by have := hb 0 (by omega); omega
  obtain ⟨ao, cap, e, rfl, hm, hc, he⟩ := rl
  obtain ⟨b, off, rfl, hblt, hcell⟩ := hc (by omega)
  obtain ⟨aoh, caph, rfl, hmh, hch⟩ := rh
  obtain ⟨bh, oh, rfl, hbh, hcellh⟩ := hch (by omega)
  obtain ⟨aow, capw, rfl, hmw, hcw⟩ := rw'
  obtain ⟨bw, ow, rfl, hbw, hcellw⟩ := hcw (by omega)
  unfold maxLen at hm
  have HE : Hid (∀ k, k < D → Rd w h1 (e (hv k)) N (f (hv k))) := fun k hk => by have := he (hv k) (hb k hk); rw [hN k hk] at this; exact this
  have HC : Hid (∀ i, i < R → w.cell? ⟨b, off + i, none⟩ = some (e i)) := hcell
  have HCH : Hid (∀ i, i < D → w.cell? ⟨bh, oh + i, none⟩ = some (.int .i64 (hv i : Int))) := hcellh
  have HCW : Hid (∀ i, i < D → w.cell? ⟨bw, ow + i, none⟩ = some (.int .u8 (c i))) := hcellw
  have HBD : Hid (∀ k, k < D → hv k < R) := hb
  have hb0 : b < w.heap.size := by omega
  have hbh0 : bh < w.heap.size := by omega
  have hbw0 : bw < w.heap.size := by omega
  obtain ⟨p, hp⟩ : ∃ p, p = hv 0 := ⟨_, rfl⟩
  have c0 : w.cell? ⟨bh, oh, none⟩ = some (.int .i64 (p : Int)) := by rw [hp]; exact hcellh 0 (by omega)
  have hpR : p < R := by rw [hp]; exact hb 0 (by omega)
  obtain ⟨ao0, cap0, hs0, hm0, hq0⟩ := HE.out 0 (by omega)
  have c1 : w.cell? ⟨b, off + p, none⟩ = some (.slice ao0 N cap0) := by rw [← hs0, hp]; exact hcell (hv 0) (hb 0 (by omega))
  clear hc hch hcw he hb hN hcell hcellh hcellw hs0 hq0 hm0 hp hmh hmw
  go_enter Try.func73, Try.ntmps73
  go_wp2_with (at_make; refine wp_makeB _ rfl _ _ rfl _ _ N rfl rfl rfl rfl (by omega) ?_; intro w1 hown1 hb1 hz1)
  clear c0 c1
  go_loopw [20] (fun i wr => ∃ k : Nat, k ≤ D ∧ i = .int .i64 k ∧ Own wr w.heap.size w1.heap.size (.slice (some ⟨w.heap.size, 0, none⟩) N N) N (mixN (fun k => f (hv k)) c k) ∧ Below w.heap.size w wr ∧ w1.heap.size ≤ wr.heap.size) (fun i _ => D - (intOf i).toNat)
  case atStart => exact ⟨0, Nat.zero_le _, rfl, hown1, hb1, Nat.le_refl _⟩
  case round =>
    clear hown1 hb1
    obtain ⟨k, hk, rfl, ho, hb, hsz⟩ := hrel
    by_cases hlt : k < D
    · obtain ⟨p, hp⟩ : ∃ p, p = hv k := ⟨_, rfl⟩
      obtain ⟨y, hy⟩ : ∃ y, y = c k := ⟨_, rfl⟩
      have c0 : wr.cell? ⟨bh, oh + k, none⟩ = some (.int .i64 (p : Int)) := by rw [hp]; exact (hb.cell (p := ⟨bh, oh + k, none⟩) hbh0).trans (HCH.out k hlt)
      have hpR2 : p < R := by rw [hp]; exact HBD.out k hlt
      have c1 : wr.cell? ⟨b, off + p, none⟩ = some (e p) := (hb.cell (p := ⟨b, off + p, none⟩) hb0).trans (HC.out p hpR2)
      have c2 : wr.cell? ⟨bw, ow + k, none⟩ = some (.int .u8 y) := by rw [hy]; exact (hb.cell (p := ⟨bw, ow + k, none⟩) hbw0).trans (HCW.out k hlt)
      have rm : Rd wr h1 (e p) N (f p) := by rw [hp]; exact (HE.out k hlt).below hb hh1
      have CA := addScaled_any (.slice (some ⟨w.heap.size, 0, none⟩) N N) (e p) N (mixN (fun k => f (hv k)) c k) (f p) (mixN (fun k => f (hv k)) c (k + 1)) y w.heap.size w1.heap.size h1 (wr.drewN 1) (ho.drewN 1) hsz rm hh1 (Nat.le_trans hh1 hb.size) (mixN_lt _ _ kc k) (kf p) (by rw [hy]; exact kc k) (fun i _ => by rw [hy, hp]; rfl) hN2
      have HO : Hid (Own wr w.heap.size w1.heap.size (.slice (some ⟨w.heap.size, 0, none⟩) N N) N (mixN (fun k => f (hv k)) c k)) := ho
      have HBL : Hid (Below w.heap.size w wr) := hb
      obtain ⟨x, hx⟩ : ∃ x, x = e p := ⟨_, rfl⟩
      rw [← hx] at c1 CA rm
      obtain ⟨aox, capx, hsx, _, _⟩ := rm
      subst hsx
      clear ho hb hx hy hp
      go_wp2
      go_region_with (go_at_call 61; refine CA.mono ?_; rintro ee w7 ⟨rfl, o7, ch7⟩)
      all_goals
        have B7 : Below w.heap.size w w7 := (below_drewN HBL.out 1).trans (ch7.below (Nat.le_refl _) HBL.out.size)
        have S7 : w1.heap.size ≤ w7.heap.size := Nat.le_trans hsz ch7.size
        clear ch7 HO HBL CA c0 c1 c2
        go_wp2
        go_roundw
        case rel => exact ⟨k + 1, by omega, by go_num, o7, B7, S7⟩
        case measure => simp [intOf]; omega
    · obtain rfl : k = D := by omega
      go_wp2
      go_ret
      exact ⟨_, rfl, ho.weaken (Nat.le_refl _) hsz, hb⟩
end Go.Proofs.Ytoadjpacchhleaa

namespace Go.Proofs.Ytoadjpacchhleaa
open Go.RowKit F256
set_option linter.unusedVariables false
set_option linter.unusedSimpArgs false

/-- append(v, x), x a number that lies in a block of its own: what else is left -/
theorem wp_appendIt {ops : Array Oper} {rest : List Oper} {o : Oper} {a : Act} {w : World} {Q : Exit → Act → World → Prop}
    (hg : o.guard = none) (s x : Operand) (hop : o.op = Op.call { callee := Callee.builtin Builtin.append, args := #[s, x], argTypes := #[57, 57] })
    (lo hi : Nat) (v : Value) (n : Nat) (f : Nat → Int) (hs : a.eval s = v) (hown : OwnI w lo hi v n f) (b c : Nat) (hx : a.eval x = .slice (some ⟨b, 0, none⟩) 1 c) (hcell : w.cell? ⟨b, 0, none⟩ = some (.int .i64 (f n)))
    (hn : n + 1 ≤ 1000000) (hlo : lo ≤ w.heap.size)
    (hK : ∀ v' w', OwnI w' lo w'.heap.size v' (n + 1) f → w.grownBy w' v.ownBlock → wpList Try.prog ops Q rest (a.put o.dst v') w') : wpList Try.prog ops Q (o :: rest) a w := by
  obtain ⟨i0, hi0, hz0, hz1, hz2⟩ := info_parts info_i64
  refine wpList_append_own w hg s x 57 hop lo 2 i0 (.int .i64 0) 1 8 Try.underlying57 hi0 hz0 hz1 hz2 rfl (by decide) v n (intsOf n f) hs hown.1 ⟨b, 0, none⟩ 1 c [.int .i64 (f n)] hx rfl ?_ ?_ (by unfold maxLen; omega) (by omega) hlo ?_
  · intro j u hj
    match j, hj with
    | 0, hj => simp at hj; subst hj; simpa [Addr.add] using hcell
  · intro u hu
    simp at hu
    subst hu
    rfl
  · intro v' w' h1 h2 _
    rw [intsOf_snoc] at h1
    exact hK v' w' ⟨h1, fun k hk => (h1.lt k hk).2⟩ h2
/-- a row of slices and a row of numbers lie in two blocks -/
theorem two_types {w : World} {lo lo' hi : Nat} {v x : Value} {k n : Nat} {xs : List Value} {f : Nat → Int} (h : w.ownsRow lo 22 1 v k xs) (ho : OwnI w lo' hi x n f) (b : Nat) (hb : v.ownBlock = some b) : x.ownBlock ≠ some b := by
  intro hx
  rcases h.2 with ⟨rfl, _⟩ | ⟨g, cap, cur, rfl, _, hg, _⟩
  · cases hb
  · rcases ho.1.2 with ⟨rfl, _⟩ | ⟨g', cap', cur', rfl, _, hg', _⟩
    · cases hx
    · simp [Value.ownBlock] at hb hx
      subst hb
      subst hx
      rw [hg] at hg'
      simp at hg'
theorem OwnI.kept {w w' : World} {lo hi : Nat} {v : Value} {n : Nat} {f : Nat → Int} (h : OwnI w lo hi v n f) (hk : ∀ g, v.ownBlock = some g → w'.heap[g]? = w.heap[g]?) : OwnI w' lo hi v n f := by
  refine ⟨⟨h.1.1, ?_⟩, h.2⟩
  rcases h.1.2 with hn | ⟨g, cap, cur, rfl, hbg, hgg, rest⟩
  · exact .inl hn
  · exact .inr ⟨g, cap, cur, rfl, hbg, (hk g rfl).trans hgg, rest⟩

end Go.Proofs.Ytoadjpacchhleaa

namespace Go.Proofs.Ytoadjpacchhleaa
open Go.RowKit F256
set_option linter.unusedVariables false
set_option linter.unusedSimpArgs false

/-- make([]int64, 0, n) -/
theorem wp_makeI0 (w : World) {ops : Array Oper} {rest : List Oper} {o : Oper} {a : Act} {Q : Exit → Act → World → Prop}
    (hg : o.guard = none) (l c : Operand) (hop : o.op = Op.makeSlice 57 l c) (C : Int) (n : Nat) (hl : a.eval l = .int .i64 0) (hc : a.eval c = .int .i64 C) (hC : C = (n : Int)) (hn : n ≤ 1000000000)
    (hK : ∀ w', (∀ f, OwnI w' w.heap.size w'.heap.size (.slice (some ⟨w.heap.size, 0, none⟩) 0 n) 0 f) → Below w.heap.size w w' → w.heap.size < w'.heap.size → wpList Try.prog ops Q rest (a.put o.dst (.slice (some ⟨w.heap.size, 0, none⟩) 0 n)) w') :
    wpList Try.prog ops Q (o :: rest) a w := by
  obtain ⟨i0, hi0, hz0, hz1, hz2⟩ := info_parts info_i64
  refine wpList_make_own w hg l c 57 hop w.heap.size 2 i0 (.int .i64 0) 1 Try.underlying57 hi0 hz0 hz1 .i64 .i64 C n hl hc hC (by rw [hz2]; omega) (by unfold maxLen; omega) (Nat.le_refl _) ?_
  intro w' hown hgrow
  have hlt := (hown.lt _ rfl).2
  exact hK w' (fun f => ⟨hown, fun k hk => (hown.lt k hk).2⟩) (below_of_grown hgrow) hlt

/-- how many are picked of the first k -/
def pickN (D : Nat) (n : Nat → Nat) (k : Nat) : Nat := if cntN n k < D then cntN n k else D
theorem pickN_zero (D : Nat) (n : Nat → Nat) : pickN D n 0 = 0 := by
  have h0 : cntN n 0 = 0 := rfl
  unfold pickN
  rw [h0]
  by_cases c : 0 < D
  · rw [if_pos c]
  · rw [if_neg c]; omega
theorem pickN_none {D : Nat} {n : Nat → Nat} {k : Nat} (h : n k = 0) : pickN D n (k + 1) = pickN D n k := by
  unfold pickN
  rw [cntN, if_pos h]
theorem pickN_more {D : Nat} {n : Nat → Nat} {k : Nat} (h : n k ≠ 0) (hl : pickN D n k < D) : pickN D n (k + 1) = pickN D n k + 1 ∧ pickN D n k = cntN n k := by
  unfold pickN at hl ⊢
  rw [cntN, if_neg h]
  by_cases c : cntN n k < D
  · rw [if_pos c]
    refine ⟨?_, rfl⟩
    split <;> omega
  · rw [if_neg c] at hl
    omega
theorem pickN_full {D : Nat} {n : Nat → Nat} {k : Nat} (hl : ¬ pickN D n k < D) : pickN D n (k + 1) = pickN D n k := by
  unfold pickN at hl ⊢
  by_cases c : cntN n k < D
  · rw [if_pos c] at hl
    omega
  · have := cntN_mono n (show k ≤ k + 1 by omega)
    rw [if_neg c, if_neg (by omega)]
theorem pickN_all {D : Nat} {n : Nat → Nat} {k : Nat} (h : D ≤ cntN n k) : pickN D n k = D := by
  unfold pickN
  rw [if_neg (by omega)]
theorem pickN_few {D : Nat} {n : Nat → Nat} {k : Nat} (h : ¬ D ≤ cntN n k) : pickN D n k < D := by
  unfold pickN
  rw [if_pos (by omega)]
  omega

set_option maxHeartbeats 2000000 in
theorem firstThere_any (D : Nat) (v : Value) (R : Nat) (n : Nat → Nat) (f : Nat → Nat → Nat) (h1 : Nat) (w : World) (r : RdM w h1 v R n f) (hh : h1 ≤ w.heap.size) (hD : D ≤ 1000) :
    Calls Try.prog 58 #[.int .i64 D, v] w fun e w' => ∃ v', e = .returned v' ∧ OwnI w' w.heap.size w'.heap.size v' (pickN D n R) (fun t => (nthN n R t : Int)) ∧ Below w.heap.size w w' := by
  obtain ⟨ao, cap, e, rfl, hm, hc, he⟩ := r
  unfold maxLen at hm
  have HHE : Hid (∀ i, i < R → Rd w h1 (e i) (n i) (f i)) := he
  have HHC : Hid (R ≠ 0 → ∃ b off, ao = some ⟨b, off, none⟩ ∧ b < h1 ∧ ∀ i, i < R → w.cell? ⟨b, off + i, none⟩ = some (e i)) := hc
  clear hc he
  go_enter Try.func58, Try.ntmps58
  go_wp2_with (at_make; refine wp_makeI0 _ rfl _ _ rfl _ D rfl rfl rfl (by omega) ?_; intro w1 hown1 hb1 hz1)
  have I0 := hown1 (fun t => (nthN n R t : Int))
  clear hown1
  go_loopw [5, 11] (fun vh i wr => ∃ c k : Nat, k ≤ R ∧ i = .int .i64 k ∧ c = pickN D n k ∧ OwnI wr w.heap.size wr.heap.size vh c (fun t => (nthN n R t : Int)) ∧ Below w.heap.size w wr) (fun _ i _ => R - (intOf i).toNat)
  case atStart => exact ⟨0, 0, Nat.zero_le _, rfl, (pickN_zero D n).symm, I0, hb1⟩
  case round =>
    clear I0 hb1 hz1
    obtain ⟨c, k, hk, rfl, hck, hI, hb⟩ := hrel
    have HCK : Hid (c = pickN D n k) := hck
    have HI : Hid (OwnI wr w.heap.size wr.heap.size u5 c (fun t => (nthN n R t : Int))) := hI
    have HB : Hid (Below w.heap.size w wr) := hb
    obtain ⟨ao8, cap8, hs8⟩ := hI.slice
    subst hs8
    have szr := hb.size
    have hcD : c ≤ D := by
      rw [hck]
      unfold pickN
      split <;> omega
    clear hck
    by_cases hlt : k < R
    · obtain ⟨b, off, hao, hblt, hcell⟩ := HHC.out (by omega)
      subst hao
      have c1 : wr.cell? ⟨b, off + k, none⟩ = some (e k) := (hb.cell (p := ⟨b, off + k, none⟩) (by show b < w.heap.size; omega)).trans (hcell k hlt)
      obtain ⟨aok, capk, hsk, hmk, hqk⟩ := HHE.out k hlt
      unfold maxLen at hmk
      obtain ⟨nk, hnk⟩ : ∃ x, x = n k := ⟨_, rfl⟩
      have HNK : Hid (nk = n k) := hnk
      rw [hsk, ← hnk] at c1
      rw [← hnk] at hmk
      clear hnk hsk hqk hcell hI hb
      by_cases e1 : nk = 0
      · have HN0 : Hid (nk = 0) := e1
        have t1 : decide ((0 : Int) < (nk : Int)) = false := by simp; omega
        have t1n : decide (0 < nk) = false := by simp; omega
        clear e1
        go_wp2
        go_roundw
        case rel => exact ⟨c, k + 1, by omega, by go_num, by rw [pickN_none (by rw [← HNK.out]; exact HN0.out)]; exact HCK.out, HI.out, HB.out⟩
        case measure => simp [intOf]; omega
      · have HN0 : Hid (nk ≠ 0) := e1
        have t1 : (0 : Int) < (nk : Int) := by omega
        have t1n : decide (0 < nk) = true := by simp; omega
        have hbw : b < w.heap.size := by omega
        clear e1
        by_cases hcd : c < D
        · have t2 : (c : Int) < (D : Int) := by omega
          have HPM := pickN_more (D := D) (n := n) (k := k) (by rw [← HNK.out]; exact HN0.out) (by rw [← HCK.out]; exact hcd)
          have HNT : Hid (nthN n R c = k) := by
            show nthN n R c = k
            rw [HCK.out, HPM.2]
            exact nthN_is hlt (by rw [← HNK.out]; exact HN0.out)
          have HP1 : Hid (pickN D n (k + 1) = c + 1) := by show pickN D n (k + 1) = c + 1; rw [HPM.1, ← HCK.out]
          clear HPM
          go_wp2_with (at_builtin; refine wp_appendIt rfl (.tmp 26) (.tmp 28) rfl w.heap.size wr.heap.size (.slice ao8 c cap8) c (fun t => (nthN n R t : Int)) ?_ ?_ wr.heap.size 1 ?_ ?_ (by omega) ?_ ?_; (simp [Act.eval]); exact HI.out.alloc _; (simp [Act.eval]); (rw [HNT.out]; simp); (simp; omega); intro v2 w2 o2 g2)
          have b2 : Below w.heap.size wr w2 := ((Below.refl w.heap.size wr).alloc szr _).grown g2 (by simp; omega) (fun q hq => (HI.out.1.lt q hq).1)
          have b5 : Below w.heap.size w w2 := HB.out.trans b2
          clear g2 b2 c1 HI HB
          go_wp2
          go_roundw
          case rel => exact ⟨c + 1, k + 1, by omega, by go_num, HP1.out.symm, o2, b5⟩
          case measure => simp [intOf]; omega
        · have t2 : decide ((c : Int) < (D : Int)) = false := by simp; omega
          have t2n : decide (c < D) = false := by simp; omega
          have HP1 : Hid (c = pickN D n (k + 1)) := by
            show c = pickN D n (k + 1)
            rw [pickN_full (by rw [← HCK.out]; exact hcd)]
            exact HCK.out
          clear hcd
          go_wp2
          go_roundw
          case rel => exact ⟨c, k + 1, by omega, by go_num, HP1.out, HI.out, HB.out⟩
          case measure => simp [intOf]; omega
    · obtain rfl : k = R := by omega
      have HI2 : Hid (OwnI wr w.heap.size wr.heap.size (.slice ao8 c cap8) (pickN D n k) (fun t => (nthN n k t : Int))) := by
        show OwnI wr w.heap.size wr.heap.size (.slice ao8 c cap8) (pickN D n k) (fun t => (nthN n k t : Int))
        rw [← HCK.out]; exact hI
      clear hI
      go_wp2
      go_ret
      exact ⟨_, rfl, HI2.out, hb⟩

set_option maxHeartbeats 1000000 in
theorem index_any (v : Value) (n : Nat) (g : Nat → Int) (hi : Nat) (x : Int) (w : World) (r : RdI w hi v n g) :
    Calls Try.prog 95 #[v, .int .i64 x] w fun e w' => ∃ z : Int, e = .returned (.int .i64 z) ∧ (0 ≤ z ↔ ∃ t, t < n ∧ g t = x) ∧ w' = w := by
  obtain ⟨ao, cap, rfl, hm, hc⟩ := r
  unfold maxLen at hm
  go_enter Try.func95, Try.ntmps95
  go_wp2
  go_loop [8] (fun i => ∃ k : Nat, k ≤ n ∧ i = .int .i64 k ∧ ∀ i, i < k → g i ≠ x) (fun i => n - (intOf i).toNat)
  case atStart => exact ⟨0, Nat.zero_le _, rfl, fun i hi => by omega⟩
  case round =>
    obtain ⟨k, hk, rfl, hall⟩ := hrel
    have HALL : Hid (∀ i, i < k → g i ≠ x) := hall
    clear hall
    by_cases hlt : k < n
    · obtain ⟨b, off, rfl, hblt, hcell⟩ := hc (by omega)
      have hck : w.cell? ⟨b, off + k, none⟩ = some (.int .i64 (g k)) := hcell k hlt
      obtain ⟨y, hy⟩ : ∃ y, y = g k := ⟨_, rfl⟩
      have HY : Hid (y = g k) := hy
      rw [← hy] at hck
      clear hc hcell hy
      by_cases heq : x = y
      · have HP : Hid (0 ≤ (k : Int) ↔ ∃ t, t < n ∧ g t = x) := ⟨fun _ => ⟨k, hlt, by rw [← HY.out, heq]⟩, fun _ => by omega⟩
        have te : (x == y) = true := by simp [heq]
        clear heq
        go_wp2
        go_ret
        exact ⟨_, rfl, HP.out, rfl⟩
      · have te : (x == y) = false := by simp [heq]
        have HN : Hid (g k ≠ x) := by show g k ≠ x; rw [← HY.out]; exact fun h => heq h.symm
        clear heq
        go_wp2
        go_round
        case rel => exact ⟨k + 1, by omega, by go_num, fun i hi => by
                      by_cases c : i = k
                      · rw [c]; exact HN.out
                      · exact HALL.out i (by omega)⟩
        case measure => simp [intOf]; omega
    · obtain rfl : k = n := by omega
      have HP : Hid (0 ≤ (-1 : Int) ↔ ∃ t, t < k ∧ g t = x) := ⟨fun h => by omega, fun ⟨t, ht, he⟩ => absurd he (HALL.out t ht)⟩
      clear hc
      go_wp2
      go_ret
      exact ⟨-1, rfl, HP.out, rfl⟩

theorem contains_any (v : Value) (n : Nat) (g : Nat → Int) (hi : Nat) (x : Int) (w : World) (r : RdI w hi v n g) :
    Calls Try.prog 77 #[v, .int .i64 x] w (BoolP (∃ t, t < n ∧ g t = x) w) := by
  have C := index_any v n g hi x w r
  obtain ⟨ao, cap, rfl, hm, hc⟩ := r
  clear hc hm
  have HI : Hid (Calls Try.prog 95 #[.slice ao n cap, .int .i64 x] w fun e w' => ∃ z : Int, e = .returned (.int .i64 z) ∧ (0 ≤ z ↔ ∃ t, t < n ∧ g t = x) ∧ w' = w) := C
  clear C
  obtain ⟨P, hP⟩ : ∃ P : Prop, P = ∃ t, t < n ∧ g t = x := ⟨_, rfl⟩
  rw [← hP] at HI ⊢
  clear hP
  go_enter Try.func77, Try.ntmps77
  go_wp2_with fail
  refine HI.out.mono ?_
  rintro e w1 ⟨z, rfl, hz, hw1⟩
  obtain rfl := hw1.symm
  have HZ : Hid (0 ≤ z ↔ P) := hz
  clear hz HI
  by_cases h0 : 0 ≤ z
  · have HP : Hid P := HZ.out.mp h0
    go_wp2
    go_ret
    exact boolYes rfl HP.out (Below.refl _ _)
  · have HP : Hid (¬ P) := fun h => h0 (HZ.out.mpr h)
    have td : decide (0 ≤ z) = false := by simp; omega
    clear h0
    go_wp2
    go_ret
    exact boolNo rfl HP.out (Below.refl _ _)
end Go.Proofs.Ytoadjpacchhleaa

namespace Go.Proofs.Ytoadjpacchhleaa
open Go.RowKit F256
set_option linter.unusedVariables false
set_option linter.unusedSimpArgs false

/-- the book has the weights of this lineup -/
def BookP (w : World) (B D C : Nat) (hv : Nat → Nat) : Prop := ∃ gW cW eW hW, MapAt w B #[⟨arr6 (keyN hv D), .slice (some ⟨gW, 0, none⟩) (D + C) cW, 0⟩] 1 ∧ OwnE w (B + 2) hW (.slice (some ⟨gW, 0, none⟩) (D + C) cW) (D + C) (fun _ => D) (colW D hv) gW cW eW ∧ hW ≤ w.heap.size
theorem weights_any (B D C : Nat) (vh : Value) (hv : Nat → Nat) (h1 : Nat) (w : World) (hM : MapAt w B #[] 0 ∨ BookP w B D C hv) (hB : B + 2 ≤ w.heap.size) (rh : RdI w h1 vh D (fun i => (hv i : Int))) (hh : h1 ≤ w.heap.size) (hD1 : 1 ≤ D) (hD : D ≤ 4) (hC : C ≤ 2) (hbd : ∀ k, k < D → hv k < D + 2) :
    Calls Try.prog 74 #[.map (some B), .int .i64 D, .int .i64 C, vh] w fun e w' => ∃ gW cW eW hW, e = .returned (.slice (some ⟨gW, 0, none⟩) (D + C) cW) ∧ OwnE w' (B + 2) hW (.slice (some ⟨gW, 0, none⟩) (D + C) cW) (D + C) (fun _ => D) (colW D hv) gW cW eW ∧ hW ≤ w'.heap.size ∧ MapAt w' B #[⟨arr6 (keyN hv D), .slice (some ⟨gW, 0, none⟩) (D + C) cW, 0⟩] 1 ∧ Chg B (B + 1) w w' := by
  rcases hM with hM | ⟨gW, cW, eW, hW, hM, hE, hw⟩
  · refine (weights_new B D C vh hv h1 w hM rh hh hD1 hD hC hbd).mono ?_
    rintro e w' ⟨v', rfl, ⟨g, cap, e2, ho⟩, hm, hc⟩
    have hval := ho.val
    subst hval
    have ho2 : OwnE w' (B + 2) w'.heap.size (.slice (some ⟨g, 0, none⟩) (D + C) cap) (D + C) (fun _ => D) (colW D hv) g cap e2 := by
      refine ⟨rfl, Nat.le_trans hB ho.low, ho.high, ?_, fun i hi => (ho.each i hi).weaken hB (Nat.le_refl _), ho.apart⟩
      refine ⟨ho.row.1, ?_⟩
      rcases ho.row.2 with hn | ⟨g', cap', cur, hv', hbg, rest⟩
      · exact .inl hn
      · exact .inr ⟨g', cap', cur, hv', by omega, rest⟩
    exact ⟨g, cap, e2, w'.heap.size, rfl, ho2, Nat.le_refl _, hm, hc⟩
  · have hBw := hM.lt
    refine (weights_old B D C vh hv h1 w 0 1 (some ⟨gW, 0, none⟩) (D + C) cW hM rh hh hD1 hD hbd).mono ?_
    rintro e w' ⟨rfl, hb⟩
    exact ⟨gW, cW, eW, hW, rfl, hE.below hb hw, Nat.le_trans hw hb.size, hM.below hb hBw, below_chg hb (Nat.le_refl _)⟩
theorem mixN_by {f : Mat} {c d : Nat → Nat} {j : Nat} : ∀ {k : Nat}, (∀ i, i < k → c i = d i) → mixN f c k j = mixN f d k j
  | 0, _ => rfl
  | k + 1, h => by rw [mixN, mixN, mixN_by (fun i hi => h i (by omega)), h k (by omega)]
theorem colW_is {D : Nat} {hv : Nat → Nat} (h1 : 1 ≤ D) (h2 : D ≤ 4) (hlt : ∀ j, j < D → hv j < D + 2) (hr : ∀ j, j + 1 < D → hv j < hv (j + 1)) (p k : Nat) (hk : k < D) : colW D hv p k = weightsN D 8 hv p k := by
  show mixN (dW D hv) (genN D p 8) D k = _
  rw [mixN_dotC]
  exact weights_way h1 h2 hlt hr k hk
theorem colW_byt (D : Nat) (hv : Nat → Nat) : Byt (colW D hv) := fun p k => mixN_lt _ _ (genN_lt D p 8) D k
/-- one is longer just if the first that is there is -/
theorem one_longer {R : Nat} {n : Nat → Nat} (h : EvenM R n) : (∀ i, i < R → n i ≤ 4000) ↔ ¬ (0 < cntN n R ∧ 4000 < n (nthN n R 0)) := by
  constructor
  · rintro h1 ⟨h2, h3⟩
    have := h1 _ (nthN_spec (n := n) (R := R) (k := 0) h2).1
    omega
  · intro h1 i hi
    by_cases c : n i = 0
    · omega
    · have e1 := nthN_is (n := n) (R := R) (j := i) hi c
      have e2 := cntN_lt hi c
      have h4 : n (nthN n R (cntN n i)) = n (nthN n R 0) := h (cntN n i) e2
      rw [e1] at h4
      rw [h4]
      refine Classical.byContradiction fun h5 => h1 ⟨by omega, by omega⟩

set_option maxHeartbeats 8000000 in
theorem implDecodeC_any (g c : Int) (v : Value) (R : Nat) (n : Nat → Nat) (f : Mat) (h1 : Nat) (w : World) (r : RdM w h1 v R n f) (hh : h1 ≤ w.heap.size) (kf : Byt f) :
    Calls Try.prog 32 #[.int .i64 g, .int .i64 c, v] w fun ee w' => ∃ x v', ee = .returned (bytesR x v') ∧ DcAns g c R n x ∧ OwnB w' w.heap.size w'.heap.size v' (if x = 0 then R else 0) (fun _ => n (nthN n R 0)) (colN g.toNat n R f) ∧ Below w.heap.size w w' := by
  have HR : Hid (RdM w h1 v R n f) := r
  obtain ⟨ao, cap, e, rfl, hm, hc, he⟩ := r
  unfold maxLen at hm
  clear hc he
  go_enter Try.func32, Try.ntmps32
  go_wp2_with fail
  refine (columnInBounds_any g c _).mono ?_
  rintro e0 w1 ⟨b1, rfl, hb1, b1'⟩
  have HS : Hid (b1 = true ↔ Shp3 g c) := hb1
  have B1 : Below w.heap.size w w1 := bnew b1'
  have X1 : Box w1 w.heap.size #[.int .i64 0, .slice none 0 0] 53 := (box_new w _ _).below b1' (by simp)
  have z1 : w.heap.size < w1.heap.size := X1.lt
  obtain ⟨x0, x1, y0, y1⟩ := res_cells X1
  clear hb1 b1'
  cases b1 with
  | false =>
    have HNO : Hid (¬ Shp3 g c) := fun h => by have := HS.out.mpr h; cases this
    clear HS
    go_wp2
    exact bodyPost_ret (v := bytesR 3 (.slice none 0 0)) (by simp [results, Try.results32, go_sem, bytesR, x0, x1]) rfl ⟨3, _, rfl, .inl ⟨rfl, HNO.out⟩, OwnB.none _ _ _ _ _, (B1.setCell (Nat.le_refl _) _).setCell (Nat.le_refl _) _⟩
  | true =>
    have hsh := HS.out.mp rfl
    have HSH : Hid (Shp3 g c) := hsh
    obtain ⟨q1, q2, q3, q4⟩ := hsh
    obtain ⟨D, rfl⟩ : ∃ D : Nat, g = D := ⟨g.toNat, by omega⟩
    obtain ⟨C, rfl⟩ : ∃ C : Nat, c = C := ⟨c.toNat, by omega⟩
    clear HS
    by_cases hlen : (R : Int) = (D : Int) + (C : Int)
    · have HLEN : Hid ((R : Int) = (D : Int) + (C : Int)) := hlen
      have tl : ((R : Int) != (D : Int) + (C : Int)) = false := by simp [hlen]
      have hR6 : R ≤ 6 := by omega
      have CE := equallyLongOrEmpty_any (.slice ao R cap) R n f h1 w1 (HR.out.below B1 hh)
      clear hlen x0 x1 y0 y1
      go_wp2_with fail
      refine CE.mono ?_
      rintro e0 w2 ⟨b2, rfl, hb2, b2'⟩
      have HT : Hid (b2 = true ↔ EvenM R n) := hb2
      have B2 : Below w.heap.size w w2 := B1.trans (b2'.mono B1.size)
      have X2 : Box w2 w.heap.size #[.int .i64 0, .slice none 0 0] 53 := X1.below b2' z1
      have z2 : w.heap.size < w2.heap.size := X2.lt
      obtain ⟨x0, x1, y0, y1⟩ := res_cells X2
      clear hb2 b2' X1 B1 z1 CE
      cases b2 with
      | false =>
        have HNO : Hid (¬ EvenM R n) := fun h => by have := HT.out.mpr h; cases this
        clear HT
        go_wp2
        exact bodyPost_ret (v := bytesR 1 (.slice none 0 0)) (by simp [results, Try.results32, go_sem, bytesR, x0, x1]) rfl ⟨1, _, rfl, .inr (.inr (.inl ⟨rfl, HSH.out, HLEN.out, HNO.out⟩)), OwnB.none _ _ _ _ _, (B2.setCell (Nat.le_refl _) _).setCell (Nat.le_refl _) _⟩
      | true =>
        have HEV : Hid (EvenM R n) := HT.out.mp rfl
        clear HT
        by_cases hbig : 0 < cntN n R ∧ 4000 < n (nthN n R 0)
        · have HBG : Hid (0 < cntN n R ∧ 4000 < n (nthN n R 0)) := hbig
          have CL := oneLonger_any (.slice ao R cap) R n f h1 4000 (by omega) true ⟨fun h => (by cases h), fun h => absurd HBG.out ((one_longer HEV.out).mp h)⟩ w2 (HR.out.below B2 hh)
          have e4 : ((4000 : Nat) : Int) = 4000 := rfl
          rw [e4] at CL
          clear hbig
          go_wp2_with fail
          refine CL.mono ?_
          rintro e0 w3 ⟨rfl, hw3⟩
          obtain rfl := hw3.symm
          clear CL
          go_wp2
          exact bodyPost_ret (v := bytesR 2 (.slice none 0 0)) (by simp [results, Try.results32, go_sem, bytesR, x0, x1]) rfl ⟨2, _, rfl, .inr (.inr (.inr (.inl ⟨rfl, HSH.out, HLEN.out, HEV.out, HBG.out⟩))), OwnB.none _ _ _ _ _, (B2.setCell (Nat.le_refl _) _).setCell (Nat.le_refl _) _⟩
        · have HNB : Hid (¬ (0 < cntN n R ∧ 4000 < n (nthN n R 0))) := hbig
          have CL := oneLonger_any (.slice ao R cap) R n f h1 4000 (by omega) false ⟨fun _ => (one_longer HEV.out).mpr HNB.out, fun _ => rfl⟩ w2 (HR.out.below B2 hh)
          have e4 : ((4000 : Nat) : Int) = 4000 := rfl
          rw [e4] at CL
          have CF := firstThere_any D (.slice ao R cap) R n f h1 w2 (HR.out.below B2 hh) (Nat.le_trans hh B2.size) (by omega)
          clear hbig x0 x1 y0 y1
          go_wp2_with fail
          refine CL.mono ?_
          rintro e0 w3 ⟨rfl, hw3⟩
          obtain rfl := hw3.symm
          clear CL
          go_wp2_with fail
          refine CF.mono ?_
          rintro e0 wB ⟨v3, rfl, o3, b3'⟩
          have BB : Below w.heap.size w wB := B2.trans (b3'.mono B2.size)
          have XB : Box wB w.heap.size #[.int .i64 0, .slice none 0 0] 53 := X2.below b3' z2
          have zB : w.heap.size < wB.heap.size := XB.lt
          clear b3' X2 B2 z2 CF
          by_cases hcnt : D ≤ cntN n R
          · have HCN : Hid (D ≤ cntN n R) := hcnt
            rw [pickN_all hcnt] at o3
            obtain ⟨ao3, cap3, rfl⟩ := o3.slice
            have HO3 : Hid (RdI wB wB.heap.size (.slice ao3 D cap3) D (fun t => (nthN n R t : Int))) := o3.rd
            have hmm := @run_makeMap Try.prog
            obtain ⟨Q, hQ⟩ : ∃ Q, Q = D + C := ⟨_, rfl⟩
            have HQ : Hid (Q = D + C) := hQ
            have hQ6 : Q ≤ 6 := by omega
            have HQR : Hid (Q = R) := by show Q = R; have := HLEN.out; omega
            obtain ⟨N, hN⟩ : ∃ N, N = n (nthN n R 0) := ⟨_, rfl⟩
            have HN : Hid (N = n (nthN n R 0)) := hN
            have hN4 : N ≤ 4000 := by
              have := HNB.out
              rw [hN]
              refine Classical.byContradiction fun h5 => this ⟨by omega, by omega⟩
            have HPK : Hid ((∀ t, t < D → nthN n R t < R ∧ n (nthN n R t) ≠ 0) ∧ ∀ t, t + 1 < D → nthN n R t < nthN n R (t + 1)) := pickedC hcnt
            have HBD : Hid (∀ k, k < D → nthN n R k < D + 2) := fun k hk => by have := (HPK.out.1 k hk).1; have := HLEN.out; omega
            have HNN : Hid (∀ k, k < D → n (nthN n R k) = N) := fun k hk => by rw [hN]; exact HEV.out k (by have := HCN.out; omega)
            clear o3 hcnt hQ hN
            go_wp2_with (at_make; refine wp_makeM _ rfl _ _ rfl _ _ Q rfl rfl (by have := HQ.out; omega) (by have := HQ.out; omega) (by omega) ?_; intro w5 hown5 hb5 hz5)
            have hsA : (wB.alloc (.map #[] 0)).heap.size = wB.heap.size + 1 := by simp
            have BM : Below wB.heap.size wB w5 := ((Below.refl _ _).alloc (Nat.le_refl _) _).trans (hb5.mono (by omega))
            have M5 : MapAt w5 wB.heap.size #[] 0 := (mapAt_new wB).below hb5 (by omega)
            rw [hsA] at hown5 hb5 hz5
            have E0 : OwnE w5 (wB.heap.size + 1) w5.heap.size (.slice (some ⟨wB.heap.size + 1, 0, none⟩) Q Q) Q (lenN N 0) (colN D n R f) (wB.heap.size + 1) Q (fun _ => nilS) := ownE_made hown5 (Nat.le_refl _) hz5 (fun i hi => by simp [lenN])
            clear hown5 hmm hsA
            go_loopw [47] (fun i wr => ∃ k : Nat, k ≤ Q ∧ i = .int .i64 k ∧ (∃ e', OwnE wr (wB.heap.size + 1) wr.heap.size (.slice (some ⟨wB.heap.size + 1, 0, none⟩) Q Q) Q (lenN N k) (colN D n R f) (wB.heap.size + 1) Q e') ∧ (MapAt wr wB.heap.size #[] 0 ∨ BookP wr wB.heap.size D C (nthN n R)) ∧ Below wB.heap.size wB wr) (fun i _ => Q - (intOf i).toNat)
            case atStart => exact ⟨0, Nat.zero_le _, rfl, ⟨_, E0⟩, .inl M5, BM⟩
            case round =>
              clear E0 M5 BM hb5 hz5
              obtain ⟨k, hk, rfl, ⟨e', hE⟩, hbk, hb⟩ := hrel
              have szB := hb.size
              by_cases hlt : k < Q
              · have hlti : (k : Int) < (D : Int) + (C : Int) := by have := HQ.out; omega
                have hkDC : k < D + C := by have := HQ.out; omega
                have CW := weights_any wB.heap.size D C (.slice ao3 D cap3) (nthN n R) wB.heap.size wr hbk hE.high (HO3.out.below hb (Nat.le_refl _)) szB (by omega) (by omega) (by omega) HBD.out
                have HOE : Hid (OwnE wr (wB.heap.size + 1) wr.heap.size (.slice (some ⟨wB.heap.size + 1, 0, none⟩) Q Q) Q (lenN N k) (colN D n R f) (wB.heap.size + 1) Q e') := hE
                have HBL : Hid (Below wB.heap.size wB wr) := hb
                have hhig := hE.high
                clear hE hbk hb
                go_wp2_with fail
                refine CW.mono ?_
                rintro e0 w2 ⟨gW, cW, eW, hW, rfl, oW, hWs, mW, ch2⟩
                have c1 : w2.cell? ⟨gW, k, none⟩ = some (eW k) := oW.cell k hkDC
                have rk : Rd w2 hW (eW k) D (colW D (nthN n R) k) := (oW.each k hkDC).rd
                obtain ⟨x, hx⟩ : ∃ x, x = eW k := ⟨_, rfl⟩
                rw [← hx] at c1 rk
                have HRK : Hid (Rd w2 hW x D (colW D (nthN n R) k)) := rk
                obtain ⟨aok, capk, hsx, _, _⟩ := rk
                subst hsx
                have s2 := ch2.size
                have B2 : Below wB.heap.size wB w2 := HBL.out.trans (ch2.below (Nat.le_refl _) szB)
                have E2 : OwnE w2 (wB.heap.size + 1) wr.heap.size (.slice (some ⟨wB.heap.size + 1, 0, none⟩) Q Q) Q (lenN N k) (colN D n R f) (wB.heap.size + 1) Q e' := HOE.out.keep (fun b h5 h6 => ch2.block b h6 (.inr h5))
                have CD := weighed_any (.slice ao R cap) (.slice ao3 D cap3) (.slice aok D capk) R D N n f (nthN n R) (colW D (nthN n R) k) h1 wB.heap.size hW w2 (HR.out.below (BB.trans (B2.mono (by omega))) hh) (HO3.out.below B2 (Nat.le_refl _)) HRK.out (by omega) (by omega) hWs (by omega) (by omega) (fun t ht => (HPK.out.1 t ht).1) HNN.out (by omega) kf (colW_byt D (nthN n R) k)
                have HOW : Hid (OwnE w2 (wB.heap.size + 2) hW (.slice (some ⟨gW, 0, none⟩) (D + C) cW) (D + C) (fun _ => D) (colW D (nthN n R)) gW cW eW) := oW
                have HMW : Hid (MapAt w2 wB.heap.size #[⟨arr6 (keyN (nthN n R) D), .slice (some ⟨gW, 0, none⟩) (D + C) cW, 0⟩] 1) := mW
                have HE2 : Hid (OwnE w2 (wB.heap.size + 1) wr.heap.size (.slice (some ⟨wB.heap.size + 1, 0, none⟩) Q Q) Q (lenN N k) (colN D n R f) (wB.heap.size + 1) Q e') := E2
                clear CW oW mW ch2 hx HRK HOE HBL E2
                go_wp2_with fail
                refine CD.mono ?_
                rintro e0 w3 ⟨v3, rfl, o3, b3⟩
                obtain ⟨ao4, cap4, rfl⟩ := o3.slice
                have s3 := b3.size
                have E3 := HE2.out.below b3 s2
                have q1 : w3.cell? ⟨wB.heap.size + 1, k, none⟩ = some (e' k) := E3.cell k hlt
                have q2 : w3.frozen? ⟨wB.heap.size + 1, k, none⟩ = false := E3.frozen k
                have EN := E3.lay k hlt (n' := lenN N (k + 1)) (M' := colN D n R f) (lo2 := w2.heap.size) (hi2 := w3.heap.size) (x := .slice ao4 N cap4) (by
                  rw [show lenN N (k + 1) k = N by simp [lenN]]
                  exact o3.congr (fun i _ => mixN_by (fun t ht => colW_is (by omega) (by omega) HBD.out HPK.out.2 k t ht))) s2 (by omega) (fun j hj hne => by
                  unfold lenN
                  by_cases c : j < k
                  · rw [if_pos c, if_pos (by omega)]
                  · rw [if_neg c, if_neg (by omega)]) (fun j hj hne => rfl)
                have hlow := HOW.out.low
                have BKN : BookP (w3.setCell ⟨wB.heap.size + 1, k, none⟩ (.slice ao4 N cap4)) wB.heap.size D C (nthN n R) :=
                  ⟨gW, cW, eW, hW, (heap_setCell_other w3 ⟨wB.heap.size + 1, k, none⟩ wB.heap.size _ (by show wB.heap.size ≠ wB.heap.size + 1; omega)).trans (HMW.out.below b3 (by omega)), (HOW.out.below b3 hWs).keep (fun b h5 h6 => heap_setCell_other w3 ⟨wB.heap.size + 1, k, none⟩ b _ (by show b ≠ wB.heap.size + 1; omega)), by simp; omega⟩
                have BN : Below wB.heap.size wB (w3.setCell ⟨wB.heap.size + 1, k, none⟩ (.slice ao4 N cap4)) := (B2.trans (b3.mono (by omega))).setCell (by show wB.heap.size ≤ wB.heap.size + 1; omega) _
                have ES : OwnE (w3.setCell ⟨wB.heap.size + 1, k, none⟩ (.slice ao4 N cap4)) (wB.heap.size + 1) (w3.setCell ⟨wB.heap.size + 1, k, none⟩ (.slice ao4 N cap4)).heap.size (.slice (some ⟨wB.heap.size + 1, 0, none⟩) Q Q) Q (lenN N (k + 1)) (colN D n R f) (wB.heap.size + 1) Q (fun j => if j = k then .slice ao4 N cap4 else e' j) := EN.weaken (by simp)
                clear CD o3 b3 E3 EN HOW HMW HE2 B2 c1
                go_wp2
                go_roundw
                case rel => exact ⟨k + 1, by omega, by go_num, ⟨_, ES⟩, .inr BKN, BN⟩
                case measure => simp [intOf]; omega
              · have hlti : ¬ ((k : Int) < (D : Int) + (C : Int)) := by have := HQ.out; omega
                obtain rfl : k = Q := by omega
                have E9 := hE.congrN (n' := fun _ => N) (fun i hi => by simp [lenN, hi])
                have HE9 : Hid (OwnM wr (wB.heap.size + 1) wr.heap.size (.slice (some ⟨wB.heap.size + 1, 0, none⟩) k k) k (fun _ => N) (colN D n R f)) := ⟨_, _, _, E9⟩
                have B4 : Below w.heap.size w wr := BB.trans (hb.mono (by omega))
                have X4 : Box wr w.heap.size #[.int .i64 0, .slice none 0 0] 53 := XB.below hb zB
                obtain ⟨x0, x1, y0, y1⟩ := res_cells X4
                clear hE E9 hbk X4
                go_wp2
                refine bodyPost_ret (v := bytesR 0 (.slice (some ⟨wB.heap.size + 1, 0, none⟩) k k)) (by simp [results, Try.results32, go_sem, bytesR, x0, x1]) rfl ⟨0, _, rfl, .inr (.inr (.inr (.inr (.inr ⟨rfl, HSH.out, HLEN.out, HEV.out, HNB.out, by have := HCN.out; omega⟩)))), ?_, (B4.setCell (Nat.le_refl _) _).setCell (Nat.le_refl _) _⟩
                have o1 := out_store wr w.heap.size (w.heap.size + 1) w.heap.size 0 (.int .i64 0) (Nat.le_refl _) (by omega)
                have o2 := out_store (wr.setCell ⟨w.heap.size, 0, none⟩ (.int .i64 0)) w.heap.size (w.heap.size + 1) w.heap.size 1 (.slice (some ⟨wB.heap.size + 1, 0, none⟩) k k) (Nat.le_refl _) (by omega)
                simp only [if_pos]
                rw [← HN.out]
                have h9 := HE9.out.out (o1.trans o2) (.inr (by omega))
                obtain ⟨MM, hMM⟩ : ∃ MM, MM = colN D n R f := ⟨_, rfl⟩
                rw [← hMM] at h9 ⊢
                clear hMM
                rw [← HQR.out]
                exact .inr (h9.weaken (by omega) (by rw [(o1.trans o2).size]; exact Nat.le_refl _))
          · have HLT : Hid ((cntN n R : Int) < (D : Int)) := by show (cntN n R : Int) < (D : Int); omega
            have hpf := pickN_few hcnt
            obtain ⟨cc, hcc⟩ : ∃ cc, cc = pickN D n R := ⟨_, rfl⟩
            rw [← hcc] at o3 hpf
            obtain ⟨ao3, cap3, rfl⟩ := o3.slice
            have hci : (cc : Int) < (D : Int) := by omega
            obtain ⟨x0, x1, y0, y1⟩ := res_cells XB
            clear o3 hcnt hcc
            go_wp2
            exact bodyPost_ret (v := bytesR 10 (.slice none 0 0)) (by simp [results, Try.results32, go_sem, bytesR, x0, x1]) rfl ⟨10, _, rfl, .inr (.inr (.inr (.inr (.inl ⟨rfl, HSH.out, HLEN.out, HEV.out, HNB.out, HLT.out⟩)))), OwnB.none _ _ _ _ _, (BB.setCell (Nat.le_refl _) _).setCell (Nat.le_refl _) _⟩
    · have HLEN : Hid ((R : Int) ≠ (D : Int) + (C : Int)) := hlen
      have tl : ((R : Int) != (D : Int) + (C : Int)) = true := by simp [hlen]
      clear hlen
      go_wp2
      exact bodyPost_ret (v := bytesR 1 (.slice none 0 0)) (by simp [results, Try.results32, go_sem, bytesR, x0, x1]) rfl ⟨1, _, rfl, .inr (.inl ⟨rfl, HSH.out, HLEN.out⟩), OwnB.none _ _ _ _ _, (B1.setCell (Nat.le_refl _) _).setCell (Nat.le_refl _) _⟩
end Go.Proofs.Ytoadjpacchhleaa

namespace Go.Proofs.Ytoadjpacchhleaa
open Go.RowKit F256
set_option linter.unusedVariables false
set_option linter.unusedSimpArgs false

set_option maxHeartbeats 2000000 in
theorem implAddShare_any (v1 v2 : Value) (n m : Nat) (f g : Nat → Nat) (c : Nat) (h1 h2 : Nat) (w : World) (r1 : Rd w h1 v1 n f) (r2 : Rd w h2 v2 m g) (hh1 : h1 ≤ w.heap.size) (hh2 : h2 ≤ w.heap.size) (k1 : ∀ i, f i < 256) (k2 : ∀ i, g i < 256) (hc : c < 256) :
    Calls Try.prog 36 #[v1, v2, .int .u8 c] w fun ee w' => ∃ x v', ee = .returned (bytesR x v') ∧ AdsAns n m x ∧ Own w' w.heap.size w'.heap.size v' (if x = 0 then n else 0) (adsN f g c) ∧ Below w.heap.size w w' := by
  have H1 : Hid (Rd w h1 v1 n f) := r1
  have H2 : Hid (Rd w h2 v2 m g) := r2
  obtain ⟨ao, cap, rfl, hm, hx1⟩ := r1
  obtain ⟨ao2, cap2, rfl, hm2, hx2⟩ := r2
  clear hx1 hx2
  unfold maxLen at hm hm2
  have b0 : Below w.heap.size w (w.alloc (.cells #[.int .i64 0, .slice none 0 0] 36)) := (Below.refl _ _).alloc (Nat.le_refl _) _
  by_cases hne : n = m
  · subst hne
    by_cases hbig : 4000 < n
    · go_enter Try.func36, Try.ntmps36
      go_wp2
      exact bodyPost_ret (v := bytesR 2 (.slice none 0 0)) (by simp [results, Try.results36, go_sem, bytesR]) rfl ⟨2, _, rfl, .inr (.inl ⟨rfl, rfl, hbig⟩), own_nil _ _ _ _, (Below.refl _ _).alloc (Nat.le_refl _) _⟩
    · have C1 := joined_nil (.slice ao n cap) (.slice none 0 0) n f (fun _ => 0) h1 0 _ (H1.out.below b0 hh1) (rd_nil _ _ _) (by simp; omega) (by omega)
      go_enter Try.func36, Try.ntmps36
      go_wp2_with fail
      refine C1.mono ?_
      rintro e w2 ⟨v2, rfl, o2, b2⟩
      have B2 : Below w.heap.size w w2 := bnew b2
      have X2 : Box w2 w.heap.size #[.int .i64 0, .slice none 0 0] 36 := (box_new w _ _).below b2 (by simp)
      have z2 := X2.lt
      have hsA : (w.alloc (.cells #[.int .i64 0, .slice none 0 0] 36)).heap.size = w.heap.size + 1 := by simp
      rw [hsA] at o2
      obtain ⟨ao4, cap4, rfl⟩ := o2.slice
      have C2 := addScaled_any (.slice ao4 n cap4) (.slice ao2 n cap2) n f g (adsN f g c) c (w.heap.size + 1) w2.heap.size h2 w2 o2 (Nat.le_refl _) (H2.out.below B2 hh2) (by omega) (Nat.le_trans hh2 B2.size) k1 k2 hc (fun _ _ => rfl) (by omega)
      clear C1 o2 b2 hsA
      go_wp2_with fail
      refine C2.mono ?_
      rintro e w4 ⟨rfl, o4, ch4⟩
      have s4 := ch4.size
      have HO : Hid (Own w4 (w.heap.size + 1) w4.heap.size (.slice ao4 n cap4) n (adsN f g c)) := o4.mono s4
      have B4 : Below w.heap.size w w4 := B2.trans (ch4.below (by omega) (by omega))
      have X4 : Box w4 w.heap.size #[.int .i64 0, .slice none 0 0] 36 := X2.chg ch4 (.inl (by omega))
      have z4 := X4.lt
      obtain ⟨x0, x1, y0, y1⟩ := res_cells X4
      clear o4 ch4 C2 X4 X2
      go_wp2
      refine bodyPost_ret (v := bytesR 0 (.slice ao4 n cap4)) (by simp [results, Try.results36, go_sem, bytesR, x0, x1]) rfl ⟨0, _, rfl, .inr (.inr ⟨rfl, rfl, by omega⟩), ?_, (B4.setCell (Nat.le_refl _) _).setCell (Nat.le_refl _) _⟩
      have o1 := out_store w4 w.heap.size (w.heap.size + 1) w.heap.size 0 (.int .i64 0) (Nat.le_refl _) (by omega)
      have o2 := out_store (w4.setCell ⟨w.heap.size, 0, none⟩ (.int .i64 0)) w.heap.size (w.heap.size + 1) w.heap.size 1 (.slice ao4 n cap4) (Nat.le_refl _) (by omega)
      simp only [if_pos]
      exact (HO.out.out (o1.trans o2) (.inr (by omega))).weaken (by omega) (by rw [(o1.trans o2).size]; exact Nat.le_refl _)
  · have tn : ((n : Int) != (m : Int)) = true := by simp; omega
    go_enter Try.func36, Try.ntmps36
    go_wp2
    exact bodyPost_ret (v := bytesR 1 (.slice none 0 0)) (by simp [results, Try.results36, go_sem, bytesR]) rfl ⟨1, _, rfl, .inl ⟨rfl, hne⟩, own_nil _ _ _ _, (Below.refl _ _).alloc (Nat.le_refl _) _⟩

set_option maxHeartbeats 1000000 in
theorem equalB_any (v1 v2 : Value) (n m : Nat) (f g : Nat → Nat) (h1 h2 : Nat) (w : World) (r1 : Rd w h1 v1 n f) (r2 : Rd w h2 v2 m g) :
    Calls Try.prog 71 #[v1, v2] w (BoolP (SameP n m f g) w) := by
  obtain ⟨ao, cap, rfl, hm, hc⟩ := r1
  obtain ⟨ao2, cap2, rfl, hm2, hc2⟩ := r2
  unfold maxLen at hm hm2
  by_cases hnm : n = m
  · subst hnm
    go_enter Try.func71, Try.ntmps71
    go_wp2
    go_loopw [13] (fun i wr => ∃ k : Nat, k ≤ n ∧ i = .int .i64 k ∧ (∀ i, i < k → f i = g i) ∧ ∃ m, wr = w.drewN m) (fun i _ => n - (intOf i).toNat)
    case atStart => exact ⟨0, Nat.zero_le _, rfl, fun i hi => by omega, 0, rfl⟩
    case round =>
      obtain ⟨k, hk, rfl, hall, q, rfl⟩ := hrel
      have HALL : Hid (∀ i, i < k → f i = g i) := hall
      clear hall
      by_cases hlt : k < n
      · obtain ⟨b, off, rfl, hblt, hcell⟩ := hc (by omega)
        obtain ⟨b2, off2, rfl, hblt2, hcell2⟩ := hc2 (by omega)
        have hck : w.cell? ⟨b, off + k, none⟩ = some (.int .u8 (f k)) := hcell k hlt
        have hck2 : w.cell? ⟨b2, off2 + k, none⟩ = some (.int .u8 (g k)) := hcell2 k hlt
        obtain ⟨x, hx⟩ : ∃ x, x = f k := ⟨_, rfl⟩
        obtain ⟨y, hy⟩ : ∃ y, y = g k := ⟨_, rfl⟩
        have HX : Hid (x = f k) := hx
        have HY : Hid (y = g k) := hy
        rw [← hx] at hck
        rw [← hy] at hck2
        clear hc hc2 hcell hcell2 hx hy
        by_cases heq : x = y
        · subst heq
          go_wp2
          go_quiet (fail)
          go_wp2
          go_roundw
          case rel => exact ⟨k + 1, by omega, by go_num, fun i hi => by
                        by_cases c : i = k
                        · rw [c, ← HX.out, ← HY.out]
                        · exact HALL.out i (by omega), _, rfl⟩
          case measure => simp [intOf]; omega
        · have tn : ((x : Int) != (y : Int)) = true := by simp; omega
          go_wp2
          go_quiet (fail)
          go_wp2
          go_ret
          exact boolNo rfl (fun h => absurd (h.2 k hlt) (by rw [← HX.out, ← HY.out]; exact heq)) (below_drewN (below_drewN (Below.refl _ _) _) _)
      · have hkn : k = n := by omega
        subst hkn
        go_wp2
        go_ret
        exact boolYes rfl ⟨rfl, HALL.out⟩ (below_drewN (Below.refl _ _) _)
  · have tn : ((n : Int) != (m : Int)) = true := by simp; omega
    clear hc hc2
    go_enter Try.func71, Try.ntmps71
    go_wp2
    go_ret
    exact boolNo rfl (fun h => hnm h.1) (Below.refl _ _)

set_option maxHeartbeats 4000000 in
theorem implFitsC_any (v : Value) (R : Nat) (n : Nat → Nat) (f : Mat) (c : Int) (h1 : Nat) (w : World) (r : RdM w h1 v R n f) (hcap : ∃ ao cap, v = .slice ao R cap ∧ R ≤ cap) (hh : h1 ≤ w.heap.size) (kf : Byt f) (hcb : -9223372036854775808 ≤ c ∧ c ≤ 9223372036854775807) (hN9 : n 0 ≤ 1000000000) (hR9 : R ≤ 1000000000) :
    Calls Try.prog 31 #[v, .int .i64 c] w (BoolP (CfP R n f c) w) := by
  have HR : Hid (RdM w h1 v R n f) := r
  obtain ⟨ao, cap, e, rfl, hm, hc, he⟩ := r
  obtain ⟨ao', cap', heq, hcap⟩ := hcap
  simp only [Value.slice.injEq, true_and] at heq
  obtain ⟨rfl, rfl⟩ := heq
  unfold maxLen at hm
  have HE : Hid (∀ i, i < R → Rd w h1 (e i) (n i) (f i)) := he
  have HC : Hid (R ≠ 0 → ∃ b off, ao = some ⟨b, off, none⟩ ∧ b < h1 ∧ ∀ i, i < R → w.cell? ⟨b, off + i, none⟩ = some (e i)) := hc
  clear hc he
  by_cases hc2 : 0 ≤ c ∧ c ≤ 2
  · have HC2 : Hid (0 ≤ c ∧ c ≤ 2) := hc2
    obtain ⟨C, rfl⟩ : ∃ C : Nat, c = C := ⟨c.toNat, by omega⟩
    have hC : C ≤ 2 := by omega
    have CS := columnInBounds_any ((R : Int) - (C : Int)) (C : Int)
    have wsub : IntKind.i64.wrap ((R : Int) - (C : Int)) = (R : Int) - (C : Int) := by rw [IntKind.wrap_i64]; omega
    clear hc2 hcb
    by_cases hsh : Shp3 ((R : Int) - (C : Int)) (C : Int)
    · have HSH : Hid (Shp3 ((R : Int) - (C : Int)) (C : Int)) := hsh
      obtain ⟨q1, q2, q3, q4⟩ := hsh
      obtain ⟨D, hD⟩ : ∃ D : Nat, D + C = R := ⟨R - C, by omega⟩
      have HD : Hid (D + C = R) := hD
      have hsubi : (R : Int) - (C : Int) = (D : Int) := by omega
      have HDR : Hid (R - C = D) := by show R - C = D; omega
      have hD1 : 1 ≤ D := by omega
      have hD4 : D ≤ 4 := by omega
      have hDR : D ≤ R := by omega
      have hDc : (D : Int) ≤ (cap : Int) := by omega
      have hD0 : D ≠ 0 := by omega
      obtain ⟨b, off, hao, hblt, hcell⟩ := HC.out (by omega)
      subst hao
      have HCL : Hid (∀ i, i < R → w.cell? ⟨b, off + i, none⟩ = some (e i)) := hcell
      have hbw : b < w.heap.size := by omega
      rw [hsubi] at CS wsub
      clear hD hcell HC
      have CE := fun (w1 : World) (b' : Below w.heap.size w w1) => equallyLong_any (.slice (some ⟨b, off, none⟩) R cap) R n f h1 w1 (HR.out.below b' hh)
      by_cases hev : EvenP R n
      · have HEV : Hid (EvenP R n) := hev
        clear hev
        go_enter Try.func31, Try.ntmps31
        go_wp2_with fail
        refine (CS _).mono ?_
        rintro e0 w1 ⟨b1, rfl, hb1, B1⟩
        obtain rfl : b1 = true := hb1.mpr (by rw [← hsubi]; exact HSH.out)
        clear hb1 CS
        go_wp2_with fail
        refine (CE _ B1).mono ?_
        rintro e0 w2 ⟨b2, rfl, hb2, b2'⟩
        obtain rfl : b2 = true := hb2.mpr HEV.out
        have B2 : Below w.heap.size w w2 := B1.trans (b2'.mono B1.size)
        have s2 := B2.size
        clear hb2 b2' B1 CE
        have rP : RdM w2 w.heap.size (.slice (some ⟨b, off, none⟩) D cap) D n f := ⟨_, _, e, rfl, by unfold maxLen; omega, fun _ => ⟨b, off, rfl, hbw, fun i hi => (B2.cell (p := ⟨b, off + i, none⟩) hbw).trans (HCL.out i (by omega))⟩, fun i hi => ((HE.out i (by omega)).below B2 hh).mono hh⟩
        have CX := parityOf_any _ D C (n 0) n f w.heap.size w2 rP s2 hD1 hD4 hC (fun i hi => HEV.out i (by omega)) hN9 kf
        obtain ⟨N, hN⟩ : ∃ N, N = n 0 := ⟨_, rfl⟩
        have HN : Hid (N = n 0) := hN
        rw [← hN] at CX
        clear rP hN
        go_wp2_with fail
        refine CX.mono ?_
        rintro ee w4 ⟨v4, rfl, om, b4⟩
        obtain ⟨gW, cW, eW, hW⟩ := om
        have hv := hW.val
        subst hv
        have HW : Hid (OwnE w4 w2.heap.size w4.heap.size (.slice (some ⟨gW, 0, none⟩) C cW) C (fun _ => N) (parN D f) gW cW eW) := hW
        have hgW := hW.high
        have HB4 : Hid (Below w.heap.size w w4) := B2.trans (b4.mono s2)
        have s4 : w.heap.size ≤ w4.heap.size := HB4.out.size
        clear b4 B2 CX hW
        go_wp2
        go_loopw [33] (fun i wr => ∃ k : Nat, k ≤ C ∧ i = .int .i64 k ∧ (∀ j, j < k → ∀ t, t < N → f (D + j) t = parN D f j t) ∧ Below w4.heap.size w4 wr) (fun i _ => C - (intOf i).toNat)
        case atStart => exact ⟨0, Nat.zero_le _, rfl, fun i hi => by omega, Below.refl _ _⟩
        case round =>
          obtain ⟨k, hk, rfl, hall, hb⟩ := hrel
          have HALL : Hid (∀ j, j < k → ∀ t, t < N → f (D + j) t = parN D f j t) := hall
          have HB : Hid (Below w4.heap.size w4 wr) := hb
          have hB : Below w.heap.size w wr := HB4.out.trans (hb.mono s4)
          by_cases hlt : k < C
          · obtain ⟨q, hq⟩ : ∃ q, q = D + k := ⟨_, rfl⟩
            have HQ : Hid (q = D + k) := hq
            have hqR : q < R := by have := HD.out; omega
            have wq : IntKind.i64.wrap ((D : Int) + (k : Int)) = (q : Int) := by rw [IntKind.wrap_i64]; omega
            have c1 : wr.cell? ⟨b, off + q, none⟩ = some (e q) := (hB.cell (p := ⟨b, off + q, none⟩) hbw).trans (HCL.out q hqR)
            have c2 : wr.cell? ⟨gW, k, none⟩ = some (eW k) := (hb.cell (p := ⟨gW, k, none⟩) hgW).trans (HW.out.cell k hlt)
            have r1 := (HE.out q hqR).below hB hh
            have r2 := ((HW.out.each k hlt).below hb (Nat.le_refl _)).rd
            rw [HEV.out q hqR, ← HN.out] at r1
            obtain ⟨x1, hx1⟩ : ∃ x, x = e q := ⟨_, rfl⟩
            obtain ⟨x2, hx2⟩ : ∃ x, x = eW k := ⟨_, rfl⟩
            rw [← hx1] at c1 r1
            rw [← hx2] at c2 r2
            have HR1 : Hid (Rd wr h1 x1 N (f q)) := r1
            have HR2 : Hid (Rd wr w4.heap.size x2 N (parN D f k)) := r2
            obtain ⟨ao1, cap1, hq1, _, _⟩ := r1
            obtain ⟨ao2, cap2, hq2, _, _⟩ := r2
            subst hq1
            subst hq2
            clear hx1 hx2 hall hb hB hq
            by_cases hsm : SameP N N (parN D f k) (f q)
            · have HSM : Hid (SameP N N (parN D f k) (f q)) := hsm
              clear hsm
              go_wp2
              go_region_with (go_at_call 71; refine (equalB_any _ _ N N (parN D f k) (f q) w4.heap.size h1 _ ?_ ?_).mono ?_; exact HR2.out; exact HR1.out; rintro ee w5 ⟨bb, rfl, hbb, b5⟩)
              all_goals
                obtain rfl : bb = true := hbb.mpr HSM.out
                have R5 : Below w4.heap.size w4 w5 := HB.out.trans ((undrewN' b5).mono HB.out.size)
                clear b5 hbb c1 c2
                go_wp2
                go_roundw
                case rel => exact ⟨k + 1, by omega, by go_num, fun j hj t ht => by
                              by_cases cc : j = k
                              · rw [cc, ← HQ.out]; exact (HSM.out.2 t ht).symm
                              · exact HALL.out j (by omega) t ht, R5⟩
                case measure => simp [intOf]; omega
            · have HSM : Hid (¬ SameP N N (parN D f k) (f q)) := hsm
              clear hsm
              go_wp2
              go_region_with (go_at_call 71; refine (equalB_any _ _ N N (parN D f k) (f q) w4.heap.size h1 _ ?_ ?_).mono ?_; exact HR2.out; exact HR1.out; rintro ee w5 ⟨bb, rfl, hbb, b5⟩; obtain rfl : bb = false := by (cases bb with | false => rfl | true => exact absurd (hbb.mp rfl) HSM.out))
              all_goals
                have R5 : Below w4.heap.size w4 w5 := HB.out.trans ((undrewN' b5).mono HB.out.size)
                clear b5 hbb c1 c2
                go_wp2
                go_ret
                exact boolNo rfl (fun h => HSM.out ⟨rfl, fun t ht => by
                  have := h.2.2.2 k (by rw [Int.toNat_natCast]; exact hlt) t (by rw [← HN.out]; exact ht)
                  rw [Int.toNat_natCast, HDR.out, ← HQ.out] at this
                  exact this.symm⟩) (HB4.out.trans (R5.mono s4))
          · obtain rfl : k = C := by omega
            go_wp2
            go_ret
            exact boolYes rfl ⟨HC2.out, HSH.out, HEV.out, fun j hj t ht => by
              rw [Int.toNat_natCast] at hj ⊢
              rw [HDR.out]
              exact HALL.out j hj t (by rw [HN.out]; exact ht)⟩ hB
      · have HEV : Hid (¬ EvenP R n) := hev
        clear hev
        go_enter Try.func31, Try.ntmps31
        go_wp2_with fail
        refine (CS _).mono ?_
        rintro e0 w1 ⟨b1, rfl, hb1, B1⟩
        obtain rfl : b1 = true := hb1.mpr (by rw [← hsubi]; exact HSH.out)
        clear hb1 CS
        go_wp2_with fail
        refine (CE _ B1).mono ?_
        rintro e0 w2 ⟨b2, rfl, hb2, b2'⟩
        obtain rfl : b2 = false := by
          cases b2 with
          | false => rfl
          | true => exact absurd (hb2.mp rfl) HEV.out
        have B2 : Below w.heap.size w w2 := B1.trans (b2'.mono B1.size)
        clear hb2 b2' B1 CE
        go_wp2
        go_ret
        exact boolNo rfl (fun h => HEV.out h.2.2.1) B2
    · have HSH : Hid (¬ Shp3 ((R : Int) - (C : Int)) (C : Int)) := hsh
      clear hsh HC
      go_enter Try.func31, Try.ntmps31
      go_wp2_with fail
      refine (CS _).mono ?_
      rintro e0 w1 ⟨b1, rfl, hb1, B1⟩
      obtain rfl : b1 = false := by
        cases b1 with
        | false => rfl
        | true => exact absurd (hb1.mp rfl) HSH.out
      clear hb1 CS
      go_wp2
      go_ret
      exact boolNo rfl (fun h => HSH.out h.2.1) B1
  · have HC2 : Hid (¬ (0 ≤ c ∧ c ≤ 2)) := hc2
    by_cases hneg : c < 0
    · clear hc2 HC
      go_enter Try.func31, Try.ntmps31
      go_wp2
      go_ret
      exact boolNo rfl (fun h => HC2.out h.1) (Below.refl _ _)
    · have hbig : 2 < c := by omega
      have tneg : decide (c < 0) = false := by simp; omega
      clear hc2 HC hneg
      go_enter Try.func31, Try.ntmps31
      go_wp2
      go_ret
      exact boolNo rfl (fun h => HC2.out h.1) (Below.refl _ _)
end Go.Proofs.Ytoadjpacchhleaa

namespace Go.Proofs.Ytoadjpacchhleaa
open Go.RowKit F256
set_option linter.unusedVariables false

theorem ownB_keep {w : World} {lo : Nat} {v : Value} {m : Nat} {n : Nat → Nat} {f : Mat} (h : OwnB w lo w.heap.size v m n f) : KeepM lo w v m n f := by
  rcases h with ⟨rfl, rfl⟩ | ⟨g, cap, e, h⟩
  · exact ⟨none, 0, fun _ => nilS, rfl, Nat.zero_le _, ⟨fun h => absurd rfl h, fun i hi => by omega⟩, fun h => absurd rfl h, fun _ _ i hi => by omega⟩
  · obtain ⟨_, _, _, _, hm, _⟩ := h.rd
    refine ⟨some ⟨g, 0, none⟩, cap, e, h.val, hm, ⟨fun _ => ⟨g, 0, rfl, fun i hi => by rw [Nat.zero_add]; exact h.cell i hi⟩, fun i hi => ?_⟩, fun _ => ⟨g, 0, rfl, h.high⟩, fun w'' hk i hi => ((h.keep (w2 := w'') hk).each i hi).rd⟩
    obtain ⟨ao, cap, hs⟩ := (h.each i hi).slice
    rw [hs]
    rfl
theorem encCok : EncCok := fun v R n f c h1 w r hh kf hc => (implEncodeC_any v R n f c h1 w r hh kf).mono fun e w' ⟨x, v', he, ha, ho, hb⟩ => ⟨x, v', he, ha, ownB_keep (ho.weaken (Nat.le_refl _) (Nat.le_refl _)), hb⟩
theorem fitsCok : FitsCok := fun v R n f c h1 w r hcap hh kf hc hN hR => implFitsC_any v R n f c h1 w r hcap hh kf hc (by omega) (by omega)
theorem decCok : DecCok := fun g c v R n f h1 w r hh kf => (implDecodeC_any g c v R n f h1 w r hh kf).mono fun e w' ⟨x, v', he, ha, ho, hb⟩ => ⟨x, v', he, ha, ho.rd, hb⟩
theorem fnColumns_core (v : Value) (n0 : Nat) (f0 : Nat → Nat) (k0 : ∀ i, f0 i < 256) (w : World) (r0 : Rd w w.heap.size v n0 f0) :
    Calls Try.prog 7 #[v] w fun e w' => e = .returned (.bool true) ∧ Below w.heap.size w w' := fnColumns_over encCok fitsCok decCok v n0 f0 k0 w r0
end Go.Proofs.Ytoadjpacchhleaa

namespace Go.Proofs.Ytoadjpacchhleaa
open Go.RowKit F256
set_option linter.unusedVariables false
set_option linter.unusedSimpArgs false

/-- the least number that may come next -/
def leastN (g : Nat → Int) : Nat → Int
  | 0 => 0
  | k + 1 => g k + 1
theorem rise_next {g : Nat → Int} {most : Int} {k : Nat} (h : RiseP k g most) (h1 : leastN g k ≤ g k) (h2 : g k ≤ most) : RiseP (k + 1) g most := fun i hi => by
  by_cases c : i = k
  · subst c
    cases i with
    | zero => exact ⟨h1, h2, fun h0 => by omega⟩
    | succ j =>
      have := (h j (by omega)).1
      simp only [leastN] at h1
      exact ⟨by omega, h2, fun _ => by rw [show j + 1 - 1 = j by omega]; omega⟩
  · exact h i (by omega)
theorem rise_least {g : Nat → Int} {most : Int} {n k : Nat} (h : RiseP n g most) (hk : k < n) : leastN g k ≤ g k := by
  cases k with
  | zero => exact (h 0 hk).1
  | succ j =>
    have := (h (j + 1) hk).2.2 (by omega)
    rw [show j + 1 - 1 = j by omega] at this
    simp only [leastN]
    omega

set_option maxHeartbeats 2000000 in
theorem risesWithin_any (v : Value) (n : Nat) (g : Nat → Int) (hi : Nat) (bound : Int) (hb : bound ≤ 1000000) (w : World) (r : RdI w hi v n g) :
    Calls Try.prog 76 #[v, .int .i64 bound] w (BoolP (RiseP n g (bound - 1)) w) := by
  obtain ⟨ao, cap, rfl, hm, hc⟩ := r
  unfold maxLen at hm
  go_enter Try.func76, Try.ntmps76
  go_wp2
  go_loop [5, 10] (fun l i => ∃ k : Nat, k ≤ n ∧ i = .int .i64 k ∧ l = .int .i64 (leastN g k) ∧ RiseP k g (bound - 1)) (fun _ i => n - (intOf i).toNat)
  case atStart => exact ⟨0, Nat.zero_le _, rfl, rfl, fun i hi => by omega⟩
  case round =>
    obtain ⟨k, hk, rfl, rfl, hall⟩ := hrel
    have HALL : Hid (RiseP k g (bound - 1)) := hall
    clear hall
    by_cases hlt : k < n
    · obtain ⟨b, off, rfl, hblt, hcell⟩ := hc (by omega)
      have hck : w.cell? ⟨b, off + k, none⟩ = some (.int .i64 (g k)) := hcell k hlt
      obtain ⟨x, hx⟩ : ∃ x, x = g k := ⟨_, rfl⟩
      have HX : Hid (x = g k) := hx
      rw [← hx] at hck
      obtain ⟨l, hl⟩ : ∃ l, l = leastN g k := ⟨_, rfl⟩
      have HL : Hid (l = leastN g k) := hl
      rw [← hl]
      have hl0 : 0 ≤ l := by
        rw [hl]
        cases k with
        | zero => exact Int.le_refl _
        | succ j =>
          have := (HALL.out j (by omega)).1
          simp only [leastN]
          omega
      clear hc hcell hx hl
      by_cases h1 : x < l
      · have HNO : Hid (¬ RiseP n g (bound - 1)) := fun h => by
          have := rise_least h hlt
          rw [← HX.out, ← HL.out] at this
          omega
        go_wp2
        go_ret
        exact boolNo rfl HNO.out (Below.refl _ _)
      · have e1 : decide (x < l) = false := by simp; omega
        by_cases h2 : bound ≤ x
        · have HNO : Hid (¬ RiseP n g (bound - 1)) := fun h => by
            have := (h k hlt).2.1
            rw [← HX.out] at this
            omega
          clear h1
          go_wp2
          go_ret
          exact boolNo rfl HNO.out (Below.refl _ _)
        · have e2 : decide (bound ≤ x) = false := by simp; omega
          have HRN : Hid (RiseP (k + 1) g (bound - 1)) := rise_next HALL.out (by rw [← HX.out, ← HL.out]; omega) (by rw [← HX.out]; omega)
          have hxb : x ≤ 1000000 := by omega
          have hx0 : 0 ≤ x := by omega
          have HLN : Hid (x + 1 = leastN g (k + 1)) := by show x + 1 = g k + 1; rw [HX.out]
          have wadd : IntKind.i64.wrap (x + 1) = x + 1 := by rw [IntKind.wrap_i64]; omega
          clear h1 h2
          go_wp2
          go_round
          case rel => exact ⟨k + 1, by omega, by go_num, by rw [← HLN.out], HRN.out⟩
          case measure => simp [intOf]; omega
    · obtain rfl : k = n := by omega
      clear hc
      go_wp2
      go_ret
      exact boolYes rfl HALL.out (Below.refl _ _)

end Go.Proofs.Ytoadjpacchhleaa

namespace Go.Proofs.Ytoadjpacchhleaa
open Go.RowKit F256
set_option linter.unusedVariables false
set_option linter.unusedSimpArgs false

theorem colW_share {D : Nat} {hv : Nat → Nat} (h1 : 1 ≤ D) (h2 : D ≤ 4) (hlt : ∀ j, j < D → hv j < D + 2) (hr : ∀ j, j + 1 < D → hv j < hv (j + 1)) (p i : Nat) : (if i < D then colW D hv p i else 0) = shareN D hv p i := by
  unfold shareN
  by_cases c : i < D
  · rw [if_pos c, if_pos c]
    show mixN (dW D hv) (genN D p 8) D i = _
    rw [mixN_dotC]
    exact weights_way h1 h2 hlt hr i c
  · rw [if_neg c, if_neg c]

set_option maxHeartbeats 8000000 in
theorem implShare_any (g c want : Int) (v : Value) (m : Nat) (h : Nat → Int) (l1 h1 : Nat) (w : World) (o : OwnI w l1 h1 v m h) (hh : h1 ≤ w.heap.size) (hm9 : m ≤ 1000000000) :
    Calls Try.prog 34 #[.int .i64 g, .int .i64 c, v, .int .i64 want] w fun ee w' => ∃ x v', ee = .returned (bytesR x v') ∧ ShAns g c m h want x ∧ Own w' w.heap.size w'.heap.size v' (if x = 0 then m else 0) (shareN g.toNat (fun k => (h k).toNat) want.toNat) ∧ Below w.heap.size w w' := by
  have HO : Hid (OwnI w l1 h1 v m h) := o
  obtain ⟨ao, cap, rfl⟩ := o.slice
  clear o
  go_enter Try.func34, Try.ntmps34
  go_wp2_with fail
  refine (columnInBounds_any g c _).mono ?_
  rintro e w1 ⟨b1, rfl, hb1, b1'⟩
  have HS : Hid (b1 = true ↔ Shp3 g c) := hb1
  have B1 : Below w.heap.size w w1 := bnew b1'
  have X1 : Box w1 w.heap.size #[.int .i64 0, .slice none 0 0] 36 := (box_new w _ _).below b1' (by simp)
  have z1 : w.heap.size < w1.heap.size := X1.lt
  obtain ⟨x0, x1, y0, y1⟩ := res_cells X1
  clear hb1 b1'
  cases b1 with
  | false =>
    have HNO : Hid (¬ Shp3 g c) := fun h => by have := HS.out.mpr h; cases this
    clear HS
    go_wp2
    exact bodyPost_ret (v := bytesR 3 (.slice none 0 0)) (by simp [results, Try.results34, go_sem, bytesR, x0, x1]) rfl ⟨3, _, rfl, .inl ⟨rfl, HNO.out⟩, own_nil _ _ _ _, (B1.setCell (Nat.le_refl _) _).setCell (Nat.le_refl _) _⟩
  | true =>
    have hsh := HS.out.mp rfl
    have HSH : Hid (Shp3 g c) := hsh
    obtain ⟨q1, q2, q3, q4⟩ := hsh
    obtain ⟨D, rfl⟩ : ∃ D : Nat, g = D := ⟨g.toNat, by omega⟩
    obtain ⟨S, rfl⟩ : ∃ S : Nat, c = S := ⟨c.toNat, by omega⟩
    have CR := risesWithin_any (.slice ao m cap) m h h1 ((D : Int) + (S : Int)) (by omega) w1 (HO.out.below B1 hh).rd
    clear HS x0 x1 y0 y1
    go_wp2_with fail
    refine CR.mono ?_
    rintro e w2 ⟨b2, rfl, hb2, b2'⟩
    have HRI : Hid (b2 = true ↔ RiseP m h ((D : Int) + (S : Int) - 1)) := hb2
    have B2 : Below w.heap.size w w2 := B1.trans (b2'.mono B1.size)
    have X2 : Box w2 w.heap.size #[.int .i64 0, .slice none 0 0] 36 := X1.below b2' z1
    have z2 : w.heap.size < w2.heap.size := X2.lt
    obtain ⟨x0, x1, y0, y1⟩ := res_cells X2
    clear hb2 b2' X1 B1 z1 CR
    cases b2 with
    | false =>
      have HNO : Hid (¬ RiseP m h ((D : Int) + (S : Int) - 1)) := fun hh => by have := HRI.out.mpr hh; cases this
      clear HRI
      go_wp2
      exact bodyPost_ret (v := bytesR 1 (.slice none 0 0)) (by simp [results, Try.results34, go_sem, bytesR, x0, x1]) rfl ⟨1, _, rfl, .inr (.inl ⟨rfl, HSH.out, HNO.out⟩), own_nil _ _ _ _, (B2.setCell (Nat.le_refl _) _).setCell (Nat.le_refl _) _⟩
    | true =>
      have HRP : Hid (RiseP m h ((D : Int) + (S : Int) - 1)) := HRI.out.mp rfl
      clear HRI
      by_cases hw0 : want < 0
      · have HNW : Hid (¬ (0 ≤ want ∧ want ≤ (D : Int) + (S : Int) - 1)) := fun h => by omega
        go_wp2
        exact bodyPost_ret (v := bytesR 3 (.slice none 0 0)) (by simp [results, Try.results34, go_sem, bytesR, x0, x1]) rfl ⟨3, _, rfl, .inr (.inr (.inl ⟨rfl, HSH.out, HRP.out, HNW.out⟩)), own_nil _ _ _ _, (B2.setCell (Nat.le_refl _) _).setCell (Nat.le_refl _) _⟩
      · have tw0 : decide (want < 0) = false := by simp; omega
        by_cases hw1 : (D : Int) + (S : Int) ≤ want
        · have HNW : Hid (¬ (0 ≤ want ∧ want ≤ (D : Int) + (S : Int) - 1)) := fun h => by omega
          clear hw0
          go_wp2
          exact bodyPost_ret (v := bytesR 3 (.slice none 0 0)) (by simp [results, Try.results34, go_sem, bytesR, x0, x1]) rfl ⟨3, _, rfl, .inr (.inr (.inl ⟨rfl, HSH.out, HRP.out, HNW.out⟩)), own_nil _ _ _ _, (B2.setCell (Nat.le_refl _) _).setCell (Nat.le_refl _) _⟩
        · obtain ⟨W, rfl⟩ : ∃ W : Nat, want = W := ⟨want.toNat, by omega⟩
          have tw1 : decide ((D : Int) + (S : Int) ≤ (W : Int)) = false := by simp; omega
          have HW : Hid (0 ≤ (W : Int) ∧ (W : Int) ≤ (D : Int) + (S : Int) - 1) := ⟨by omega, by omega⟩
          have hWDS : W < D + S := by omega
          have hWi : (W : Int) < (D : Int) + (S : Int) := by omega
          have CH := contains_any (.slice ao m cap) m h h1 (W : Int) w2 (HO.out.below B2 hh).rd
          clear hw0 hw1 x0 x1 y0 y1
          go_wp2_with fail
          refine CH.mono ?_
          rintro e w3 ⟨b3, rfl, hb3, b3'⟩
          have HHA : Hid (b3 = true ↔ HasP m h (W : Int)) := hb3
          have B3 : Below w.heap.size w w3 := B2.trans (b3'.mono B2.size)
          have X3 : Box w3 w.heap.size #[.int .i64 0, .slice none 0 0] 36 := X2.below b3' z2
          have z3 : w.heap.size < w3.heap.size := X3.lt
          obtain ⟨x0, x1, y0, y1⟩ := res_cells X3
          clear hb3 b3' X2 B2 z2 CH
          cases b3 with
          | true =>
            have HA : Hid (HasP m h (W : Int)) := HHA.out.mp rfl
            clear HHA
            go_wp2
            exact bodyPost_ret (v := bytesR 7 (.slice none 0 0)) (by simp [results, Try.results34, go_sem, bytesR, x0, x1]) rfl ⟨7, _, rfl, .inr (.inr (.inr (.inl ⟨rfl, HSH.out, HRP.out, HW.out, HA.out⟩))), own_nil _ _ _ _, (B3.setCell (Nat.le_refl _) _).setCell (Nat.le_refl _) _⟩
          | false =>
            have HNA : Hid (¬ HasP m h (W : Int)) := fun h => by have := HHA.out.mpr h; cases this
            clear HHA
            by_cases hmD : m < D
            · have hmi : (m : Int) < (D : Int) := by omega
              go_wp2
              exact bodyPost_ret (v := bytesR 10 (.slice none 0 0)) (by simp [results, Try.results34, go_sem, bytesR, x0, x1]) rfl ⟨10, _, rfl, .inr (.inr (.inr (.inr (.inl ⟨rfl, HSH.out, HRP.out, HW.out, HNA.out, hmi⟩)))), own_nil _ _ _ _, (B3.setCell (Nat.le_refl _) _).setCell (Nat.le_refl _) _⟩
            · have tm : decide ((m : Int) < (D : Int)) = false := by simp; omega
              have tmn : decide (m < D) = false := by simp; omega
              have HGM : Hid ((D : Int) ≤ (m : Int)) := by show (D : Int) ≤ (m : Int); omega
              obtain ⟨gh, caph, hgh, g1, g2, g3, g4⟩ := (HO.out.below B3 hh).form (by omega)
              simp only [Value.slice.injEq, true_and] at hgh
              obtain ⟨rfl, rfl⟩ := hgh
              obtain ⟨n1, n2, n3⟩ := rise_nat' HRP.out (show D ≤ m by omega)
              have HRN : Hid (∀ w5, Below w3.heap.size w3 w5 → RdI w5 w3.heap.size (.slice (some ⟨gh, 0, none⟩) D cap) D (fun i => (((h i).toNat : Nat) : Int))) := fun w5 b5 => by
                obtain ⟨ao', cap', hv', hm', hc'⟩ := (HO.out.below B3 hh).rd
                obtain ⟨b, off, h1', h2', h3'⟩ := hc' (by omega)
                simp only [Value.slice.injEq, true_and] at hv'
                obtain ⟨rfl, rfl⟩ := hv'
                simp only [Option.some.injEq, Addr.mk.injEq, and_true] at h1'
                obtain ⟨rfl, rfl⟩ := h1'
                have hs3 := B3.size
                refine ⟨_, _, rfl, by unfold maxLen; omega, fun _ => ⟨gh, 0, rfl, by omega, fun i hi => ?_⟩⟩
                rw [b5.cell (p := ⟨gh, 0 + i, none⟩) (by show gh < w3.heap.size; omega), h3' i (by omega)]
                show some (Value.int .i64 (h i)) = some (Value.int .i64 (((h i).toNat : Nat) : Int))
                rw [← n1 i hi]
              have HBD : Hid (∀ k, k < D → (fun i => (h i).toNat) k < D + 2) := fun k hk => by have := n2 k hk; show (h k).toNat < D + 2; omega
              have HRS : Hid (∀ k, k + 1 < D → (fun i => (h i).toNat) k < (fun i => (h i).toNat) (k + 1)) := n3
              have hDc : (D : Int) ≤ (cap : Int) := by omega
              have hmm := @run_makeMap Try.prog
              have hD0 : D ≠ 0 := by omega
              clear n1 n2 n3 x0 x1 y0 y1 hmD
              go_wp2_with (at_make; refine wp_makeB _ rfl _ _ rfl _ _ m rfl rfl rfl rfl (by omega) ?_; intro w4 ho4 hb4 hz4)
              have hsA : (w4.alloc (.map #[] 0)).heap.size = w4.heap.size + 1 := by simp
              have BA : Below w3.heap.size w3 (w4.alloc (.map #[] 0)) := hb4.trans (((Below.refl _ _).alloc (Nat.le_refl _) _).mono hb4.size)
              have CW := weights_new w4.heap.size D S (.slice (some ⟨gh, 0, none⟩) D cap) (fun i => (h i).toNat) w3.heap.size (w4.alloc (.map #[] 0)) (mapAt_new w4) (HRN.out _ BA) (by omega) (by omega) (by omega) (by omega) HBD.out
              have HO4 : Hid (Own (w4.alloc (.map #[] 0)) w3.heap.size w4.heap.size (.slice (some ⟨w3.heap.size, 0, none⟩) m m) m (fun _ => 0)) := ho4.alloc _
              have HBA : Hid (Below w3.heap.size w3 (w4.alloc (.map #[] 0))) := BA
              have s3 := B3.size
              have s4 := hb4.size
              clear ho4 hb4 hmm BA
              refine CW.mono ?_
              rintro e w5 ⟨v5, rfl, ⟨gW, cW, eW, hW⟩, m5, ch5⟩
              have hval := hW.val
              subst hval
              have c1 : w5.cell? ⟨gW, W, none⟩ = some (eW W) := hW.cell W hWDS
              have rk : Rd w5 w5.heap.size (eW W) D (colW D (fun i => (h i).toNat) W) := (hW.each W hWDS).rd
              obtain ⟨x, hx⟩ : ∃ x, x = eW W := ⟨_, rfl⟩
              rw [← hx] at c1 rk
              have HRK : Hid (Rd w5 w5.heap.size x D (colW D (fun i => (h i).toNat) W)) := rk
              obtain ⟨aok, capk, hsx, _, _⟩ := rk
              subst hsx
              have O5 : Own w5 w3.heap.size w4.heap.size (.slice (some ⟨w3.heap.size, 0, none⟩) m m) m (fun _ => 0) := HO4.out.chg ch5 (.inl (Nat.le_refl _))
              have HF5 : Hid (w5.heap[w3.heap.size]? = some (.cells (cellsOf m fun _ => 0).toArray 5 (0, 0))) := O5.full
              have HB5 : Hid (Below w3.heap.size w3 w5) := HBA.out.trans (ch5.below s4 (by rw [hsA]; omega))
              have HL1 : Hid ((cellsOf D (colW D (fun i => (h i).toNat) W)).length = Nat.min D m) := by
                show (cellsOf D (colW D (fun i => (h i).toNat) W)).length = Nat.min D m
                rw [cellsOf_length]
                exact (Nat.min_eq_left (by have := HGM.out; omega)).symm
              have HL2 : Hid (0 + (cellsOf D (colW D (fun i => (h i).toNat) W)).length ≤ (cellsOf m fun _ => 0).length) := by
                show 0 + (cellsOf D (colW D (fun i => (h i).toNat) W)).length ≤ (cellsOf m fun _ => 0).length
                rw [cellsOf_length, cellsOf_length]
                have := HGM.out
                omega
              have HSP : Hid (splice (cellsOf m fun _ => 0) 0 (cellsOf D (colW D (fun i => (h i).toNat) W)) = cellsOf m (shareN D (fun i => (h i).toNat) W)) := by
                refine splice_cells m 0 D _ _ _ (by have := HGM.out; omega) (fun i hi => ?_)
                rw [← colW_share (by omega) (by omega) HBD.out HRS.out W i]
                by_cases c : i < D
                · rw [if_pos c, if_pos ⟨by omega, by omega⟩, Nat.sub_zero]
                · rw [if_neg c, if_neg (by omega)]
              clear CW hW m5 ch5 hx O5 HO4 HBA
              go_wp2_with (refine wpList_copy_splice rfl (.tmp 44) (.tmp 54) 22 22 rfl 5 Try.underlying22 size_u8 (some ⟨w3.heap.size, 0, none⟩) aok m m D capk rfl rfl w3.heap.size 0 (cellsOf m fun _ => 0) 5 HF5.out (cellsOf D (colW D (fun i => (h i).toNat) W)) HL1.out (fun hp => ⟨rfl, copy_src HRK.out hp⟩) HL2.out (cellsOf_one D _) w3.heap.size w3 HB5.out (Nat.le_refl _) ?_; intro w6 hF6 hb6; have X6 : Box w6 w.heap.size #[.int .i64 0, .slice none 0 0] 36 := X3.below hb6 z3; obtain ⟨x0, x1, y0, y1⟩ := res_cells X6)
              have B6 : Below w.heap.size w w6 := B3.trans (hb6.mono s3)
              have F6 := hF6.out
              rw [HSP.out] at F6
              have O6 : Own w6 w3.heap.size w6.heap.size (.slice (some ⟨w3.heap.size, 0, none⟩) m m) m (shareN D (fun i => (h i).toNat) W) := own_of_full F6 (Nat.le_refl _) (by unfold maxLen; omega)
              refine bodyPost_ret (v := bytesR 0 (.slice (some ⟨w3.heap.size, 0, none⟩) m m)) (by simp [results, Try.results34, go_sem, bytesR, x0, x1]) rfl ⟨0, _, rfl, .inr (.inr (.inr (.inr (.inr ⟨rfl, HSH.out, HRP.out, HW.out, HNA.out, HGM.out⟩)))), ?_, (B6.setCell (Nat.le_refl _) _).setCell (Nat.le_refl _) _⟩
              have o1 := out_store w6 w.heap.size (w.heap.size + 1) w.heap.size 0 (.int .i64 0) (Nat.le_refl _) (by omega)
              have o2 := out_store (w6.setCell ⟨w.heap.size, 0, none⟩ (.int .i64 0)) w.heap.size (w.heap.size + 1) w.heap.size 1 (.slice (some ⟨w3.heap.size, 0, none⟩) m m) (Nat.le_refl _) (by omega)
              simp only [if_pos]
              rw [Int.toNat_natCast, Int.toNat_natCast]
              exact (O6.out (o1.trans o2) (.inr (by omega))).weaken (by omega) (by rw [(o1.trans o2).size]; exact Nat.le_refl _)
end Go.Proofs.Ytoadjpacchhleaa

namespace Go.Proofs.Ytoadjpacchhleaa
open Go.RowKit F256
set_option linter.unusedVariables false

theorem shaCok : ShaCok := fun g c want v m h l1 h1 w o hh hm hi => implShare_any g c want v m h l1 h1 w o hh (by omega)
theorem adsCok : AdsCok := fun v1 v2 n m f g c h1 h2 w r1 r2 hh1 hh2 k1 k2 hc => implAddShare_any v1 v2 n m f g c h1 h2 w r1 r2 hh1 hh2 k1 k2 hc
theorem fnShares_core (v : Value) (n0 : Nat) (f0 : Nat → Nat) (k0 : ∀ i, f0 i < 256) (w : World) (r0 : Rd w w.heap.size v n0 f0) :
    Calls Try.prog 8 #[v] w fun e w' => e = .returned (.bool true) ∧ Below w.heap.size w w' := fnShares_over shaCok encCok adsCok v n0 f0 k0 w r0
end Go.Proofs.Ytoadjpacchhleaa

namespace Go.Proofs.Ytoadjpacchhleaa
open Go.ChangeShapes Go.WideShapes Go.ChangeAt Go.RowKit F256
set_option linter.unusedVariables false

theorem fnShares_walk (a0 : Option Addr) (n0 c0 : Nat) (z0 : List Int) (w : World) (q0 : IsRow w a0 n0 c0 z0) :
    Calls Try.prog 8 #[.slice a0 n0 c0] w fun e w' => e = .returned (.bool true) ∧ Below w.heap.size w w' := by
  obtain ⟨f0, k0, r0⟩ := q0.rd
  exact fnShares_core _ n0 f0 k0 w r0

set_option maxRecDepth 100000 in
theorem fnShares_lifted (os : Os) (started : os.Started) (H : Type) (enc : TypeId × Value → H) :
    ReturnsInHanded {} Try.checked os 8 .any (Rows.fnSharesSpec.pre6 enc Try.prog Try.f8 Rows.fnSharesRow.domain false) (Rows.fnSharesSpec.post enc Try.prog Try.f8 false true false false) := by
  refine returnsInHanded_of_change (C := Try.checked) frame_own started (by kernel_rfl) Try.func8
    (ChangeSpec.witness6 (enc := enc) (C := Try.checked) false ⟨#[], #[.slice none 0 0], []⟩ 8 (by kernel_rfl) (by kernel_rfl) (by kernel_rfl) (by kernel_rfl)) ?_
  intro W base args ds gs before hval0 hW hcnd _
  have hval : ∀ (j : Nat) t v, Try.f8.params[j]? = some t → args[j]? = some v → Value.okWide Try.prog W .any base t v := hval0
  have hW' := hW
  obtain ⟨p, q, hA0, hV, rfl, hfz, hnd⟩ := hW
  have hA : DataW.TrodAll enc Try.prog W 0 (fun _ => true) true Try.f8.params.toList args.toList ds p := hA0
  rw [Try.params8] at hA hval
  obtain ⟨v0, vs0, d0, ds0, p0, q0, hargs, rfl, rfl, h0, r0⟩ := trodAll_cons hA
  obtain ⟨rfl, rfl, rfl⟩ := trodAll_nil r0
  obtain rfl : args = #[v0] := by cases args; simp_all
  obtain ⟨rfl, rfl⟩ := trodVars_none hV
  obtain ⟨a0, len0, cap0, rfl⟩ := okWide_slice Try.underlying22 (hval 0 22 v0 rfl rfl)
  have k0 := h0
  have lt0 : ∀ x ∈ p0, x.block < W.heap.size := by obtain ⟨m, hm⟩ := k0; exact DataW.trod_lt m _ _ _ hm
  obtain ⟨z0, w0⟩ : ∃ zs, IsRow W a0 len0 cap0 zs := row_of_trod Try.underlying22 Try.underlying5 (by kernel_rfl) h0
  clear hA0 hval0
  refine (fnShares_walk a0 len0 cap0 z0 W w0).mono fun e W' ⟨he, bel⟩ => ?_
  subst he
  exact ⟨_, rfl, _, _, _, [], _, [], hW', trodAll_mk1 (shut_bool Try.underlying4 _), (trodAll_cons_mk (Below.trod frame_laid (by kernel_rfl) (of_decide_eq_true (by kernel_rfl)) k0 bel lt0) trodAll_mk0), rfl, bel.frame _, fun h => by cases h⟩

theorem fnShares_proved : Rows.FnSharesSaid :=
  OpenClaim.holds_of_wide 8 Try.f8 rfl rfl rfl rfl rfl rfl rfl ⟨rfl, rfl, rfl, rfl, rfl⟩ rfl rfl rfl rfl rfl (by kernel_rfl) Try.func8 (by kernel_rfl)
    (of_decide_eq_true (by kernel_rfl)) (by unfold Func.isWrapper; first | (rw [if_pos (by decide +kernel)]; kernel_rfl) | (rw [if_neg (by decide +kernel)]; exact ⟨rfl, rfl⟩))
    (fun os started H enc _ => fnShares_lifted os started H enc)
#print axioms fnShares_proved
end Go.Proofs.Ytoadjpacchhleaa
