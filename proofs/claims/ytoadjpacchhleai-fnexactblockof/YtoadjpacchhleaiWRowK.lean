/- Walk of the specification's l2Block: a block by the first blocks that are there. -/
import Derived.Test.YtoadjpacchhleaiWRowI
import Derived.Test.YtoadjpacchhleaiWRowB
import Derived.Test.YtoadjpacchhleaiRowDefs
import Derived.Test.YtoadjpacchhleaiWPick
namespace Go.Proofs.Ytoadjpacchhleai
open Go.RowKit F256
set_option linter.unusedVariables false
set_option linter.unusedSimpArgs false

/-- the answer of l2Block -/
def BlkP (D : Nat) (n : Nat → Nat) (R : Nat) (f : Mat) (want : Nat) (w : World) (ee : Ending) (w' : World) : Prop :=
  ∃ v' b, ee = .returned (.tuple #[v', .bool b]) ∧ (b = true ↔ D ≤ cntN n R) ∧ Own w' w.heap.size w'.heap.size v' (if b = true then 4 else 0) (blockN D n R f want) ∧ Below w.heap.size w w'

set_option maxHeartbeats 4000000 in
theorem l2Block_any (D want : Nat) (v : Value) (R : Nat) (n : Nat → Nat) (f : Mat) (h1 : Nat) (w : World) (r : RdM w h1 v R n f) (hh : h1 ≤ w.heap.size) (hD1 : 1 ≤ D) (hD : D ≤ 3) (hR : R ≤ D + 2) (hw : want < D + 2) (h4 : ∀ i, i < R → n i = 0 ∨ n i = 4) (kf : Byt f) :
    Calls Try.prog 54 #[.int .i64 D, v, .int .i64 want] w (BlkP D n R f want w) := by
  obtain ⟨ao, cap, e, rfl, hm, hc, he⟩ := r
  have HHE : Hid (∀ i, i < R → Rd w h1 (e i) (n i) (f i)) := he
  have HHC : Hid (R ≠ 0 → ∃ b off, ao = some ⟨b, off, none⟩ ∧ b < h1 ∧ ∀ i, i < R → w.cell? ⟨b, off + i, none⟩ = some (e i)) := hc
  have HH4 : Hid (∀ i, i < R → n i = 0 ∨ n i = 4) := h4
  clear hc he h4
  go_enter Try.func54, Try.ntmps54
  go_wp2
  have S0 : ((w.alloc (.cells #[] 2)).alloc (.cells #[] 23)).heap.size = w.heap.size + 2 := by simp
  have I0 : OwnI ((w.alloc (.cells #[] 2)).alloc (.cells #[] 23)) w.heap.size ((w.alloc (.cells #[] 2)).alloc (.cells #[] 23)).heap.size (.slice (some ⟨w.heap.size, 0, none⟩) 0 0) 0 (fun t => (nthN n R t : Int)) := ((ownI_lit0 w _).alloc _).weaken (Nat.le_refl _) (by simp)
  have M0 : ((w.alloc (.cells #[] 2)).alloc (.cells #[] 23)).ownsRow w.heap.size 23 1 (.slice (some ⟨w.heap.size + 1, 0, none⟩) 0 0) 0 (valsOf 0 fun t => e (nthN n R t)) := by
    have hl := World.ownsRow_lit (base := w.heap.size) (e := 23) (size := 1) (w.alloc (.cells #[] 2)) #[] 0 (by simp) (Nat.zero_le _) rfl
    have hz : (w.alloc (.cells #[] 2)).heap.size = w.heap.size + 1 := by simp
    rw [hz] at hl
    exact hl
  go_loopw [8, 9, 10] (fun vh vm i wr => ∃ c k : Nat, k ≤ R ∧ i = .int .i64 k ∧ c = cntN n k ∧ c ≤ D ∧ OwnI wr w.heap.size wr.heap.size vh c (fun t => (nthN n R t : Int)) ∧ wr.ownsRow w.heap.size 23 1 vm c (valsOf c fun t => e (nthN n R t)) ∧ Below w.heap.size w wr) (fun _ _ i _ => R - (intOf i).toNat)
  case atStart => exact ⟨0, 0, Nat.zero_le _, rfl, rfl, Nat.zero_le _, I0, M0, ((Below.refl _ _).alloc (Nat.le_refl _) _).alloc (by simp) _⟩
  case round =>
    clear I0 M0 S0
    obtain ⟨c, k, hk, rfl, hck, hcD, hI, hM, hb⟩ := hrel
    have HCK : Hid (c = cntN n k) := hck
    have HI : Hid (OwnI wr w.heap.size wr.heap.size u8 c (fun t => (nthN n R t : Int))) := hI
    have HM : Hid (wr.ownsRow w.heap.size 23 1 u9 c (valsOf c fun t => e (nthN n R t))) := hM
    have HB : Hid (Below w.heap.size w wr) := hb
    obtain ⟨ao8, cap8, hs8⟩ := hI.slice
    subst hs8
    have szr := hb.size
    clear hck
    by_cases hlt : k < R
    · by_cases hcd : c < D
      · obtain ⟨b, off, hao, hblt, hcell⟩ := HHC.out (by omega)
        subst hao
        have c1 : wr.cell? ⟨b, off + k, none⟩ = some (e k) := (hb.cell (p := ⟨b, off + k, none⟩) (by show b < w.heap.size; omega)).trans (hcell k hlt)
        obtain ⟨aok, capk, hsk, hmk, hqk⟩ := HHE.out k hlt
        unfold maxLen at hmk
        obtain ⟨nk, hnk⟩ : ∃ x, x = n k := ⟨_, rfl⟩
        have HNK : Hid (nk = n k) := hnk
        have HEK : Hid (e k = .slice aok nk capk) := by show e k = _; rw [hsk, hnk]
        rw [hsk, ← hnk] at c1
        rw [← hnk] at hmk
        clear hnk hsk hqk hcell hI hM hb
        by_cases e1 : nk = 0
        · have HN0 : Hid (nk = 0) := e1
          have t1 : decide ((0 : Int) < (nk : Int)) = false := by simp; omega
          have t1n : decide (0 < nk) = false := by simp; omega
          clear e1
          go_wp2
          go_roundw
          case rel => exact ⟨c, k + 1, by omega, by go_num, by rw [cntN, if_pos (by rw [← HNK.out]; exact HN0.out)]; exact HCK.out, hcD, HI.out, HM.out, HB.out⟩
          case measure => simp [intOf]; omega
        · have hnt : nthN n R c = k := by rw [HCK.out]; exact nthN_is hlt (by rw [← HNK.out]; exact e1)
          have HNT : Hid (nthN n R c = k) := hnt
          have HN0 : Hid (nk ≠ 0) := e1
          have t1 : (0 : Int) < (nk : Int) := by omega
          have hbw : b < w.heap.size := by omega
          clear e1 hnt
          go_wp2_with (first | (at_builtin; refine wp_appendIt rfl (.tmp 31) (.tmp 33) rfl w.heap.size wr.heap.size (.slice ao8 c cap8) c (fun t => (nthN n R t : Int)) ?_ ?_ wr.heap.size 1 ?_ ?_ (by omega) ?_ ?_; (simp [Act.eval]); exact HI.out.alloc _; (simp [Act.eval]); (rw [HNT.out]; simp); (simp; omega); intro v2 w2 o2 g2; have b2 : Below w.heap.size wr w2 := ((Below.refl w.heap.size wr).alloc szr _).grown g2 (by simp; omega) (fun q hq => (HI.out.1.lt q hq).1); have c2 : w2.cell? ⟨b, off + k, none⟩ = some (.slice aok nk capk) := (b2.cell (p := ⟨b, off + k, none⟩) hbw).trans c1; have m2 : w2.ownsRow w.heap.size 23 1 u9 c (valsOf c fun t => e (nthN n R t)) := row_kept HM.out (fun q hq => (g2.block q (by have := (HM.out.lt q hq).2; simp; omega) (fun hhh => two_types HM.out HI.out q hq hhh.symm)).trans (Below.heap_alloc wr _ q (HM.out.lt q hq).2)); have s2 : wr.heap.size + 1 ≤ w2.heap.size := (by have := g2.size; simpa using this); obtain ⟨ao2, cap2, rfl⟩ := o2.slice) | (at_builtin; refine wp_appendM rfl (.tmp 35) (.tmp 40) rfl w.heap.size u9 c (fun t => e (nthN n R t)) ?_ ?_ w2.heap.size 1 (.slice aok nk capk) ?_ ?_ rfl (by omega) ?_ ?_; (simp [Act.eval]); exact m2.alloc _; (simp [Act.eval]); simp; (simp; omega); intro v4 w4 hr4 hg4 hn4))
          have hr5 : w4.ownsRow w.heap.size 23 1 v4 (c + 1) (valsOf (c + 1) fun t => e (nthN n R t)) := by
            rw [← valsOf_snoc, HNT.out, HEK.out]
            exact hr4
          have s4 : w2.heap.size + 1 ≤ w4.heap.size := by have := hg4.size; simpa using this
          have o5 : OwnI w4 w.heap.size w4.heap.size (.slice ao2 (c + 1) cap2) (c + 1) (fun t => (nthN n R t : Int)) := (o2.kept fun q hq => (hg4.block q (by have := (o2.1.lt q hq).2; simp; omega) (fun hhh => two_types m2 o2 q hhh.symm hq)).trans (Below.heap_alloc w2 _ q (o2.1.lt q hq).2)).mono (by omega)
          have b5 : Below w.heap.size w w4 := (HB.out.trans b2).trans (((Below.refl w.heap.size w2).alloc (by omega) _).grown hg4 (by simp; omega) (fun q hq => (m2.lt q hq).1))
          clear hr4 hg4 hn4 o2 g2 b2 m2 c1 c2 HI HM
          go_wp2
          go_roundw
          case rel => exact ⟨c + 1, k + 1, by omega, by go_num, by rw [cntN, if_neg (by rw [← HNK.out]; exact HN0.out), ← HCK.out], by omega, o5, hr5, b5⟩
          case measure => simp [intOf]; omega
      · obtain rfl : c = D := by omega
        have hle : c ≤ cntN n R := by have := cntN_mono n hk; have := HCK.out; omega
        have hs : ∀ t, t < c → nthN n R t < R ∧ n (nthN n R t) = 4 := fun t ht => by
          have q := nthN_spec (n := n) (R := R) (k := t) (by omega)
          refine ⟨q.1, ?_⟩
          rcases HH4.out _ q.1 with e0 | e0
          · exact absurd e0 q.2.1
          · exact e0
        have HLE : Hid (c ≤ cntN n R) := hle
        have CW := l2Weights_row c want (.slice ao8 c cap8) (nthN n R) wr.heap.size wr HI.out.rd (Nat.le_refl _) hD1 hD (fun t ht => by have := (hs t ht).1; omega) (fun t ht => nthN_rise (by omega)) hw
        obtain ⟨g9, cap9, hv9, hg9⟩ : ∃ g cap, u9 = .slice (some ⟨g, 0, none⟩) c cap ∧ g < wr.heap.size := by
          rcases HM.out.2 with ⟨h, h2⟩ | ⟨g, cap, cur, h, _, h3, _⟩
          · omega
          · exact ⟨g, cap, h, (Array.getElem?_eq_some_iff.1 h3).1⟩
        subst hv9
        have RM : RdM wr wr.heap.size (.slice (some ⟨g9, 0, none⟩) c cap9) c (fun t => n (nthN n R t)) (fun t => f (nthN n R t)) := ⟨_, _, fun t => e (nthN n R t), rfl, by unfold maxLen; omega, fun _ => ⟨g9, 0, rfl, hg9, fun t ht => by
            rw [Nat.zero_add]
            exact (HM.out.cellAt t (by omega)).trans (valsOf_get _ _ _ ht)⟩, fun t ht => ((HHE.out _ (hs t ht).1).below HB.out hh).mono (by omega)⟩
        have HRM : Hid (RdM wr wr.heap.size (.slice (some ⟨g9, 0, none⟩) c cap9) c (fun t => n (nthN n R t)) (fun t => f (nthN n R t))) := RM
        have HS4 : Hid (∀ t, t < c → n (nthN n R t) = 4) := fun t ht => (hs t ht).2
        clear hle hs RM hI hM hb
        go_wp2_with fail
        refine CW.mono ?_
        rintro ee w5 ⟨v5, rfl, o5, b5⟩
        have CX := l1Mix_any (.slice (some ⟨g9, 0, none⟩) c cap9) v5 c 4 (fun t => n (nthN n R t)) (fun t => f (nthN n R t)) (weightsN c 0 (nthN n R) want) wr.heap.size w5.heap.size w5 (HRM.out.below b5 (Nat.le_refl _)) o5.rd b5.size (Nat.le_refl _) (by omega) HS4.out (by omega) (fun i j => kf _ _) (weightsN_lt c 0 (nthN n R) want)
        have B5 : Below w.heap.size w w5 := HB.out.trans (b5.mono szr)
        obtain ⟨ao5, cap5, rfl⟩ := o5.slice
        clear CW o5 b5
        go_wp2_with fail
        refine CX.mono ?_
        rintro ee w6 ⟨v6, rfl, o6, b6⟩
        have B6 : Below w.heap.size w w6 := B5.trans (b6.mono B5.size)
        have s5 := B5.size
        obtain ⟨ao6, cap6, rfl⟩ := o6.slice
        have HO6 : Hid (Own w6 w5.heap.size w6.heap.size (.slice ao6 4 cap6) 4 (blockN c n R f want)) := o6
        clear CX o6 b6 B5
        go_wp2
        go_ret2
        exact ⟨_, true, rfl, ⟨fun _ => HLE.out, fun _ => rfl⟩, by simp only [if_pos]; exact HO6.out.weaken s5 (Nat.le_refl _), B6⟩
    · obtain rfl : k = R := by omega
      by_cases hcd : c < D
      · have HNC : Hid (¬ D ≤ cntN n k) := by show ¬ D ≤ cntN n k; have := HCK.out; omega
        clear hI hM
        go_wp2
        go_ret2
        exact ⟨_, false, rfl, ⟨fun h => (by cases h), fun h => absurd h HNC.out⟩, own_nil _ _ _ _, hb⟩
      · obtain rfl : c = D := by omega
        have hle : c ≤ cntN n k := by have := cntN_mono n hk; have := HCK.out; omega
        have hs : ∀ t, t < c → nthN n k t < k ∧ n (nthN n k t) = 4 := fun t ht => by
          have q := nthN_spec (n := n) (R := k) (k := t) (by omega)
          refine ⟨q.1, ?_⟩
          rcases HH4.out _ q.1 with e0 | e0
          · exact absurd e0 q.2.1
          · exact e0
        have HLE : Hid (c ≤ cntN n k) := hle
        have CW := l2Weights_row c want (.slice ao8 c cap8) (nthN n k) wr.heap.size wr HI.out.rd (Nat.le_refl _) hD1 hD (fun t ht => by have := (hs t ht).1; omega) (fun t ht => nthN_rise (by omega)) hw
        obtain ⟨g9, cap9, hv9, hg9⟩ : ∃ g cap, u9 = .slice (some ⟨g, 0, none⟩) c cap ∧ g < wr.heap.size := by
          rcases HM.out.2 with ⟨h, h2⟩ | ⟨g, cap, cur, h, _, h3, _⟩
          · omega
          · exact ⟨g, cap, h, (Array.getElem?_eq_some_iff.1 h3).1⟩
        subst hv9
        have kM : RdM wr wr.heap.size (.slice (some ⟨g9, 0, none⟩) c cap9) c (fun t => n (nthN n k t)) (fun t => f (nthN n k t)) := ⟨_, _, fun t => e (nthN n k t), rfl, by unfold maxLen; omega, fun _ => ⟨g9, 0, rfl, hg9, fun t ht => by
            rw [Nat.zero_add]
            exact (HM.out.cellAt t (by omega)).trans (valsOf_get _ _ _ ht)⟩, fun t ht => ((HHE.out _ (hs t ht).1).below HB.out hh).mono (by omega)⟩
        have HRM : Hid (RdM wr wr.heap.size (.slice (some ⟨g9, 0, none⟩) c cap9) c (fun t => n (nthN n k t)) (fun t => f (nthN n k t))) := kM
        have HS4 : Hid (∀ t, t < c → n (nthN n k t) = 4) := fun t ht => (hs t ht).2
        clear hle hs kM hI hM hb
        go_wp2_with fail
        refine CW.mono ?_
        rintro ee w5 ⟨v5, rfl, o5, b5⟩
        have CX := l1Mix_any (.slice (some ⟨g9, 0, none⟩) c cap9) v5 c 4 (fun t => n (nthN n k t)) (fun t => f (nthN n k t)) (weightsN c 0 (nthN n k) want) wr.heap.size w5.heap.size w5 (HRM.out.below b5 (Nat.le_refl _)) o5.rd b5.size (Nat.le_refl _) (by omega) HS4.out (by omega) (fun i j => kf _ _) (weightsN_lt c 0 (nthN n k) want)
        have B5 : Below w.heap.size w w5 := HB.out.trans (b5.mono szr)
        obtain ⟨ao5, cap5, rfl⟩ := o5.slice
        clear CW o5 b5
        go_wp2_with fail
        refine CX.mono ?_
        rintro ee w6 ⟨v6, rfl, o6, b6⟩
        have B6 : Below w.heap.size w w6 := B5.trans (b6.mono B5.size)
        have s5 := B5.size
        obtain ⟨ao6, cap6, rfl⟩ := o6.slice
        have HO6 : Hid (Own w6 w5.heap.size w6.heap.size (.slice ao6 4 cap6) 4 (blockN c n k f want)) := o6
        clear CX o6 b6 B5
        go_wp2
        go_ret2
        exact ⟨_, true, rfl, ⟨fun _ => HLE.out, fun _ => rfl⟩, by simp only [if_pos]; exact HO6.out.weaken s5 (Nat.le_refl _), B6⟩
end Go.Proofs.Ytoadjpacchhleai
