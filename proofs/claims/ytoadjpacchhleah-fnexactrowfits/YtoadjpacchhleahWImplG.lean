/- Walks of the program's blockFrom and bytesFrom. -/
import Derived.Test.YtoadjpacchhleahWImplF
import Derived.Test.YtoadjpacchhleahRowDefs
import Derived.Test.YtoadjpacchhleahWJoin
namespace Go.Proofs.Ytoadjpacchhleah
open Go.RowKit F256
set_option linter.unusedVariables false
set_option linter.unusedSimpArgs false

theorem mixN_unit {f : Mat} {c : Nat → Nat} {t0 j : Nat} (kf : Byt f) : ∀ k, (∀ i, i < k → c i = if i = t0 then 1 else 0) → mixN f c k j = if t0 < k then f t0 j else 0
  | 0, _ => rfl
  | k + 1, h => by
    rw [mixN, mixN_unit kf k (fun i hi => h i (by omega)), h k (by omega)]
    by_cases e : k = t0
    · subst e
      rw [if_pos rfl, if_neg (Nat.lt_irrefl k), if_pos (Nat.lt_succ_self k), one_mulN (kf k j), Nat.zero_xor]
    · rw [if_neg e, zero_mulN (kf k j), Nat.xor_zero]
      by_cases c2 : t0 < k
      · rw [if_pos c2, if_pos (by omega)]
      · rw [if_neg c2, if_neg (by omega)]
/-- what is picked: blocks that are there, one behind the other -/
theorem picked {D R : Nat} {n : Nat → Nat} (hc : D ≤ cntN n R) (h4 : ∀ i, i < R → n i = 0 ∨ n i = 4) : (∀ t, t < D → nthN n R t < R ∧ n (nthN n R t) = 4) ∧ ∀ t, t + 1 < D → nthN n R t < nthN n R (t + 1) := by
  refine ⟨fun t ht => ?_, fun t ht => nthN_rise (by omega)⟩
  have q := nthN_spec (n := n) (R := R) (k := t) (by omega)
  refine ⟨q.1, ?_⟩
  rcases h4 _ q.1 with e0 | e0
  · exact absurd e0 q.2.1
  · exact e0
/-- a block that is picked is told as it is -/
theorem blockN_is {D R : Nat} {n : Nat → Nat} {f : Mat} {t0 : Nat} (hD1 : 1 ≤ D) (hD : D ≤ 3) (hR : R ≤ D + 2) (hc : D ≤ cntN n R) (h4 : ∀ i, i < R → n i = 0 ∨ n i = 4) (kf : Byt f) (ht : t0 < D) (j : Nat) : blockN D n R f (nthN n R t0) j = f (nthN n R t0) j := by
  obtain ⟨p1, p2⟩ := picked hc h4
  unfold blockN
  rw [mixN_unit (t0 := t0) (fun i j => kf _ _) D (fun i hi => weights_unit ht (row_full D hD1 hD (nthN n R) _ (fun t ht => by have := (p1 t ht).1; omega) p2) i hi), if_pos ht]

set_option maxHeartbeats 4000000 in
theorem blockFrom_any (D want : Nat) (v vh : Value) (R : Nat) (n : Nat → Nat) (f : Mat) (h1 h2 : Nat) (w : World) (r : RdM w h1 v R n f) (rh : RdI w h2 vh D (fun t => (nthN n R t : Int))) (hh : h1 ≤ w.heap.size) (hh2 : h2 ≤ w.heap.size) (hD1 : 1 ≤ D) (hD : D ≤ 3) (hR : R ≤ D + 2) (hw : want < D + 2) (hcnt : D ≤ cntN n R) (h4 : ∀ i, i < R → n i = 0 ∨ n i = 4) (kf : Byt f) :
    Calls Try.prog 71 #[.int .i64 D, v, vh, .int .i64 want] w fun e w' => ∃ v', e = .returned v' ∧ Own w' w.heap.size w'.heap.size v' 4 (blockN D n R f want) ∧ Below w.heap.size w w' := by
  have CC := contains_any vh D (fun t => (nthN n R t : Int)) h2 (want : Int) w rh
  have HRH : Hid (RdI w h2 vh D (fun t => (nthN n R t : Int))) := rh
  obtain ⟨aoh, caph, rfl, hmh, hch⟩ := rh
  have HCH : Hid (D ≠ 0 → ∃ b off, aoh = some ⟨b, off, none⟩ ∧ b < h2 ∧ ∀ i, i < D → w.cell? ⟨b, off + i, none⟩ = some (.int .i64 (nthN n R i : Int))) := hch
  obtain ⟨p1, p2⟩ := picked hcnt h4
  have HP1 : Hid (∀ t, t < D → nthN n R t < R ∧ n (nthN n R t) = 4) := p1
  have HP2 : Hid (∀ t, t + 1 < D → nthN n R t < nthN n R (t + 1)) := p2
  have HIS : Hid (∀ t0, t0 < D → ∀ j, blockN D n R f (nthN n R t0) j = f (nthN n R t0) j) := fun t0 ht j => blockN_is hD1 hD hR hcnt h4 kf ht j
  obtain ⟨ao, cap, e, rfl, hm, hc, he⟩ := r
  obtain ⟨b, off, rfl, hblt, hcell⟩ := hc (by have := (p1 0 (by omega)).1; omega)
  have HHE : Hid (∀ i, i < R → Rd w h1 (e i) (n i) (f i)) := he
  have HHC : Hid (∀ i, i < R → w.cell? ⟨b, off + i, none⟩ = some (e i)) := hcell
  have hbw : b < w.heap.size := by omega
  unfold maxLen at hm
  clear hc he hcell p1 p2 hch hmh hcnt h4
  by_cases hin : ∃ t, t < D ∧ (nthN n R t : Int) = (want : Int)
  · have HIN : Hid (∃ t, t < D ∧ (nthN n R t : Int) = (want : Int)) := hin
    obtain ⟨t0, ht0, het⟩ := hin
    have hwt : nthN n R t0 = want := by omega
    have q1 := HP1.out t0 ht0
    rw [hwt] at q1
    have q2 := HIS.out t0 ht0
    rw [hwt] at q2
    have HQ2 : Hid (∀ j, blockN D n R f want j = f want j) := q2
    have hwR : want < R := q1.1
    have c1 : w.cell? ⟨b, off + want, none⟩ = some (e want) := HHC.out want hwR
    have r1 := HHE.out want hwR
    rw [q1.2] at r1
    obtain ⟨x, hx⟩ : ∃ x, x = e want := ⟨_, rfl⟩
    rw [← hx] at c1 r1
    have HRX : Hid (Rd w h1 x 4 (f want)) := r1
    obtain ⟨aox, capx, hxs, _, _⟩ := r1
    subst hxs
    clear hx q1 q2 hwt het
    go_enter Try.func71, Try.ntmps71
    go_wp2_with fail
    refine CC.mono ?_
    rintro e0 w1 ⟨b1, rfl, hb1, B1⟩
    obtain rfl : b1 = true := hb1.mpr HIN.out
    have c2 : w1.cell? ⟨b, off + want, none⟩ = some (.slice aox 4 capx) := (B1.cell (p := ⟨b, off + want, none⟩) hbw).trans c1
    have CJ := joined_nil (.slice aox 4 capx) (.slice none 0 0) 4 (f want) (fun _ => 0) h1 h1 w1 (HRX.out.below B1 hh) ⟨_, _, rfl, Nat.zero_le _, fun h => absurd rfl h⟩ (Nat.le_trans hh B1.size) (by omega)
    have HB1 : Hid (Below w.heap.size w w1) := B1
    clear hb1 CC B1 c1
    go_wp2_with fail
    refine CJ.mono ?_
    rintro e0 w2 ⟨v2, rfl, o2, b2⟩
    have HO2 : Hid (Own w2 w1.heap.size w2.heap.size v2 4 (f want)) := o2
    obtain ⟨ao2, cap2, rfl⟩ := o2.slice
    have B2 : Below w.heap.size w w2 := HB1.out.trans (b2.mono HB1.out.size)
    clear CJ o2 b2
    go_wp2
    go_ret
    exact ⟨_, rfl, (HO2.out.congr (fun j _ => (HQ2.out j).symm)).weaken HB1.out.size (Nat.le_refl _), B2⟩
  · have HIN : Hid (¬ ∃ t, t < D ∧ (nthN n R t : Int) = (want : Int)) := hin
    clear hin HIS
    obtain ⟨bh, oh, hao, hbh, hch⟩ := HCH.out (by omega)
    subst hao
    have HCI : Hid (∀ i, i < D → w.cell? ⟨bh, oh + i, none⟩ = some (.int .i64 (nthN n R i : Int))) := hch
    have hbhw : bh < w.heap.size := by omega
    have CWf := fun (w1 : World) (b1 : Below w.heap.size w w1) => weightsOf_any D want _ (nthN n R) h2 w1 (HRH.out.below b1 hh2) (Nat.le_trans hh2 b1.size) hD1 hD (fun t ht => by have := (HP1.out t ht).1; omega) HP2.out hw
    have HCW : Hid (∀ (w1 : World), Below w.heap.size w w1 → Calls Try.prog 77 #[.int .i64 D, .slice (some ⟨bh, oh, none⟩) D caph, .int .i64 want] w1 fun e w' => ∃ v', e = .returned v' ∧ Own w' w1.heap.size w'.heap.size v' D (weightsN D 0 (nthN n R) want) ∧ Below w1.heap.size w1 w') := CWf
    clear hch HCH CWf
    go_enter Try.func71, Try.ntmps71
    go_wp2_with fail
    refine CC.mono ?_
    rintro e0 w1 ⟨b1, rfl, hb1, B1⟩
    obtain rfl : b1 = false := by
      cases b1 with
      | false => rfl
      | true => exact absurd (hb1.mp rfl) HIN.out
    have CW := HCW.out w1 B1
    have HB1 : Hid (Below w.heap.size w w1) := B1
    clear hb1 CC B1 HCW
    go_wp2_with fail
    refine CW.mono ?_
    rintro e0 w5 ⟨v5, rfl, o5, b5⟩
    obtain ⟨gv, capv, hgv, h51, h52, h53, h54⟩ := o5.form (by omega)
    subst hgv
    have B5 : Below w.heap.size w w5 := HB1.out.trans (b5.mono HB1.out.size)
    have O5 : Own w5 w.heap.size w5.heap.size (.slice (some ⟨gv, 0, none⟩) D capv) D (weightsN D 0 (nthN n R) want) := o5.weaken HB1.out.size (Nat.le_refl _)
    clear CW o5 b5 HB1
    go_wp2_with (at_make; refine wp_makeB _ rfl _ _ rfl _ _ 4 rfl rfl rfl rfl (by omega) ?_; intro w6 o6 b6 hz6)
    have B6 : Below w.heap.size w w6 := B5.trans (b6.mono B5.size)
    have O56 := O5.below b6 (Nat.le_refl _)
    have s5 := B5.size
    clear O5 b6 B5
    go_loopw [26] (fun i wr => ∃ k : Nat, k ≤ D ∧ i = .int .i64 k ∧ Own wr w5.heap.size w6.heap.size (.slice (some ⟨w5.heap.size, 0, none⟩) 4 4) 4 (mixN (fun t => f (nthN n R t)) (weightsN D 0 (nthN n R) want) k) ∧ Own wr w.heap.size w5.heap.size (.slice (some ⟨gv, 0, none⟩) D capv) D (weightsN D 0 (nthN n R) want) ∧ Below w.heap.size w wr ∧ w6.heap.size ≤ wr.heap.size) (fun i _ => D - (intOf i).toNat)
    case atStart => exact ⟨0, Nat.zero_le _, rfl, o6, O56, B6, Nat.le_refl _⟩
    case round =>
      clear o6 O56 B6
      obtain ⟨k, hk, rfl, hO, hW, hbel, hsz⟩ := hrel
      by_cases hlt : k < D
      · have c1 : wr.cell? ⟨bh, oh + k, none⟩ = some (.int .i64 (nthN n R k : Int)) := (hbel.cell (p := ⟨bh, oh + k, none⟩) hbhw).trans (HCI.out k hlt)
        have q := HP1.out k hlt
        have c2 : wr.cell? ⟨b, off + nthN n R k, none⟩ = some (e (nthN n R k)) := (hbel.cell (p := ⟨b, off + nthN n R k, none⟩) hbw).trans (HHC.out _ q.1)
        have c3 : wr.cell? ⟨gv, k, none⟩ = some (.int .u8 (weightsN D 0 (nthN n R) want k)) := (hW.1.cellAt k (by omega)).trans (cellsOf_get _ _ _ hlt)
        have rk := (HHE.out _ q.1).below hbel hh
        rw [q.2] at rk
        obtain ⟨P, hP⟩ : ∃ P, P = nthN n R k := ⟨_, rfl⟩
        have HPP : Hid (P = nthN n R k) := hP
        rw [← hP] at c1 c2 q rk
        have hPR : P < R := q.1
        obtain ⟨x, hx⟩ : ∃ x, x = e P := ⟨_, rfl⟩
        rw [← hx] at c2 rk
        obtain ⟨y, hy⟩ : ∃ y, y = weightsN D 0 (nthN n R) want k := ⟨_, rfl⟩
        rw [← hy] at c3
        have CA : ∀ q, Calls Try.prog 38 #[.slice (some ⟨w5.heap.size, 0, none⟩) 4 4, x, .int .u8 y] (wr.drewN q) fun e w' => e = .returned (.tuple #[]) ∧ Own w' w5.heap.size w6.heap.size (.slice (some ⟨w5.heap.size, 0, none⟩) 4 4) 4 (mixN (fun t => f (nthN n R t)) (weightsN D 0 (nthN n R) want) (k + 1)) ∧ Chg w5.heap.size w6.heap.size (wr.drewN q) w' := fun q =>
          addScaled_any _ _ 4 (mixN (fun t => f (nthN n R t)) (weightsN D 0 (nthN n R) want) k) (f P) (mixN (fun t => f (nthN n R t)) (weightsN D 0 (nthN n R) want) (k + 1)) y w5.heap.size w6.heap.size h1 (wr.drewN q) hO hsz rk (Nat.le_trans hh s5) (Nat.le_trans hh hbel.size) (fun i => mixN_lt _ _ (weightsN_lt D 0 (nthN n R) want) k i) (fun i => kf P i) (by rw [hy]; exact weightsN_lt D 0 (nthN n R) want k) (fun i _ => by rw [mixN, hy, HPP.out]) (by omega)
        have CA1 := CA 1
        obtain ⟨aox, capx, hxs, _, _⟩ := rk
        rw [hxs] at c2 CA1
        have HO : Hid (Own wr w.heap.size w5.heap.size (.slice (some ⟨gv, 0, none⟩) D capv) D (weightsN D 0 (nthN n R) want)) := hW
        have HBL : Hid (Below w.heap.size w wr) := hbel
        have hPRi : (P : Int) < (R : Int) := by omega
        clear hO hW hbel hP hx hxs hy CA q
        go_wp2
        go_region_with (go_at_call 38; refine CA1.mono ?_; rintro e w7 ⟨rfl, o7, ch7⟩)
        all_goals
          have O7 : Own w7 w.heap.size w5.heap.size (.slice (some ⟨gv, 0, none⟩) D capv) D (weightsN D 0 (nthN n R) want) := (show Own (wr.drewN 1) w.heap.size w5.heap.size (.slice (some ⟨gv, 0, none⟩) D capv) D (weightsN D 0 (nthN n R) want) from HO.out).chg ch7 (.inl (Nat.le_refl _))
          have B7 : Below w.heap.size w w7 := (below_drewN HBL.out 1).trans (ch7.below s5 HBL.out.size)
          have S7 : w6.heap.size ≤ w7.heap.size := Nat.le_trans hsz ch7.size
          clear ch7 HO HBL CA1 c1 c2 c3
          go_wp2
          go_roundw
          case rel => exact ⟨k + 1, by omega, by go_num, o7, O7, B7, S7⟩
          case measure => simp [intOf]; omega
      · obtain rfl : k = D := by omega
        have HO9 : Hid (Own wr w5.heap.size w6.heap.size (.slice (some ⟨w5.heap.size, 0, none⟩) 4 4) 4 (blockN k n R f want)) := hO
        clear hO hW
        go_wp2
        go_ret
        exact ⟨_, rfl, HO9.out.weaken s5 hsz, hbel⟩

set_option maxHeartbeats 4000000 in
theorem bytesFrom_any (D : Nat) (v vh : Value) (R : Nat) (n : Nat → Nat) (f : Mat) (h1 h2 : Nat) (w : World) (r : RdM w h1 v R n f) (rh : RdI w h2 vh D (fun t => (nthN n R t : Int))) (hh : h1 ≤ w.heap.size) (hh2 : h2 ≤ w.heap.size) (hD1 : 1 ≤ D) (hD : D ≤ 3) (hR : R ≤ D + 2) (hcnt : D ≤ cntN n R) (h4 : ∀ i, i < R → n i = 0 ∨ n i = 4) (kf : Byt f) :
    Calls Try.prog 57 #[.int .i64 D, v, vh] w fun e w' => ∃ v', e = .returned v' ∧ Own w' w.heap.size w'.heap.size v' (4 * D) (decN D n R f) ∧ Below w.heap.size w w' := by
  have CBf := fun (w1 : World) (k : Nat) (hk : k < D) (b1 : Below w.heap.size w w1) => blockFrom_any D k v vh R n f h1 h2 w1 (r.below b1 hh) (rh.below b1 hh2) (Nat.le_trans hh b1.size) (Nat.le_trans hh2 b1.size) hD1 hD hR (by omega) hcnt h4 kf
  obtain ⟨aoh, caph, rfl, hmh, hch⟩ := rh
  obtain ⟨ao, cap, e, rfl, hm, hc, he⟩ := r
  have HCB : Hid (∀ (w1 : World) (k : Nat), k < D → Below w.heap.size w w1 → Calls Try.prog 71 #[.int .i64 D, .slice ao R cap, .slice aoh D caph, .int .i64 k] w1 fun e w' => ∃ v', e = .returned v' ∧ Own w' w1.heap.size w'.heap.size v' 4 (blockN D n R f k) ∧ Below w1.heap.size w1 w') := CBf
  clear CBf hc he hch hm hmh hcnt h4
  have hs4 : (D : Int) * 4 = ((4 * D : Nat) : Int) := by omega
  obtain ⟨Q, hQ⟩ : ∃ Q, Q = 4 * D := ⟨_, rfl⟩
  rw [← hQ] at hs4
  have hQ12 : Q ≤ 12 := by omega
  clear hQ
  go_enter Try.func57, Try.ntmps57
  go_wp2_with (at_make; refine wp_makeB0 _ rfl _ _ rfl _ Q rfl rfl (by first | omega | simp [hs4]) (by omega) ?_; intro w1 hown1 hb1 hz1)
  have I0 := hown1 (decN D n R f)
  clear hown1
  go_loopw [7, 13] (fun u i wr => ∃ k : Nat, k ≤ D ∧ i = .int .i64 k ∧ Own wr w.heap.size wr.heap.size u (4 * k) (decN D n R f) ∧ Below w.heap.size w wr) (fun _ i _ => D - (intOf i).toNat)
  case atStart => exact ⟨0, Nat.zero_le _, rfl, I0, hb1⟩
  case round =>
    clear I0 hb1 hz1
    obtain ⟨k, hk, rfl, hown, hb⟩ := hrel
    have HO : Hid (Own wr w.heap.size wr.heap.size u7 (4 * k) (decN D n R f)) := hown
    have HB : Hid (Below w.heap.size w wr) := hb
    have szr := hb.size
    by_cases hlt : k < D
    · have C := HCB.out wr k hlt hb
      clear hown hb
      go_wp2_with fail
      refine C.mono ?_
      rintro ee w2 ⟨v2, rfl, o2, b2'⟩
      have B2 : Below w.heap.size w w2 := HB.out.trans (b2'.mono szr)
      have s2 := b2'.size
      have HO2 : Hid (Own w2 w.heap.size wr.heap.size u7 (4 * k) (decN D n R f)) := HO.out.below b2' (Nat.le_refl _)
      obtain ⟨ao2, cap2, rfl⟩ := o2.slice
      have HO3 : Hid (Own w2 wr.heap.size w2.heap.size (.slice ao2 4 cap2) 4 (blockN D n R f k)) := o2
      have hm4 : 4 * k + 4 ≤ 1000000 := by omega
      have sw2 : w.heap.size ≤ w2.heap.size := by omega
      clear C b2' o2
      go_wp2_with (at_builtin; refine wp_appendX rfl (.tmp 16) (.tmp 21) rfl w.heap.size wr.heap.size u7 (4 * k) (decN D n R f) ?_ HO2.out w2.heap.size (.slice ao2 4 cap2) 4 (blockN D n R f k) ?_ HO3.out.rd (by omega) (fun i hi => decN_at D n R f k i hi) hm4 sw2 ?_; (simp [Act.eval]); (simp [Act.eval]); intro v5 w5 o5 g5)
      have R5 : Below w.heap.size w w5 := B2.grown g5 sw2 (fun q hq => (HO2.out.1.lt q hq).1)
      have e4 : 4 * k + 4 = 4 * (k + 1) := by omega
      rw [e4] at o5
      clear g5 HO2 HO3 HO HB
      go_wp2
      go_roundw
      case rel => exact ⟨k + 1, by omega, by go_num, o5, R5⟩
      case measure => simp [intOf]; omega
    · obtain rfl : k = D := by omega
      go_wp2
      go_ret
      exact ⟨_, rfl, hown, hb⟩
end Go.Proofs.Ytoadjpacchhleah
