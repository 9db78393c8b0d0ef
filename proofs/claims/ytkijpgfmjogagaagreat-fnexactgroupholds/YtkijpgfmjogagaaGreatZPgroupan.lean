/- Walks of the program's blockFrom and bytesFrom. -/
import Derived.Test.YtkijpgfmjogagaaGreatZPgroupam
import Derived.Test.YtkijpgfmjogagaaGreatZPgroupad
import Derived.Test.YtkijpgfmjogagaaGreatZPgroupak
import Derived.Test.YtkijpgfmjogagaaGreatZPgroupah
import Derived.Deep.DeepCutAuto
import Derived.Test.YtkijpgfmjogagaaGreatZPgroupac
set_option linter.unusedVariables false
set_option linter.unusedSimpArgs false
namespace Go.Proofs.YtkijpgfmjogagaaGreat
open Go.RowKit F256
theorem mixN_unit {f : Mat} {c : Nat → Nat} {t0 j : Nat} (kf : Byt f) : ∀ k, (∀ i, i < k → c i = if i = t0 then 1 else 0) → mixN f c k j = if t0 < k then f t0 j else 0
  | 0, _ => rfl
  | k + 1, h => by
    rw [mixN, mixN_unit kf k (fun i hi => h i (by omega)), h k (by omega)]
    by_cases e : k = t0
    · subst e
      rw [if_pos rfl, if_neg (Nat.lt_irrefl k), if_pos (Nat.lt_succ_self k), one_mulN (kf k j), Nat.zero_xor]
    · rw [if_neg e, zero_mulN (kf k j), Nat.xor_zero]
      by_cases c2 : t0 < k
      · rw [if_pos c2, if_pos (by omega)]
      · rw [if_neg c2, if_neg (by omega)]
theorem picked {D R : Nat} {n : Nat → Nat} (hc : D ≤ cntN n R) (h4 : ∀ i, i < R → n i = 0 ∨ n i = 4) : (∀ t, t < D → nthN n R t < R ∧ n (nthN n R t) = 4) ∧ ∀ t, t + 1 < D → nthN n R t < nthN n R (t + 1) := by
  refine ⟨fun t ht => ?_, fun t ht => nthN_rise (by omega)⟩
  have q := nthN_spec (n := n) (R := R) (k := t) (by omega)
  refine ⟨q.1, ?_⟩
  rcases h4 _ q.1 with e0 | e0
  · exact absurd e0 q.2.1
  · exact e0
theorem blockN_is {D R : Nat} {n : Nat → Nat} {f : Mat} {t0 : Nat} (hD1 : 1 ≤ D) (hD : D ≤ 3) (hR : R ≤ D + 2) (hc : D ≤ cntN n R) (h4 : ∀ i, i < R → n i = 0 ∨ n i = 4) (kf : Byt f) (ht : t0 < D) (j : Nat) : blockN D n R f (nthN n R t0) j = f (nthN n R t0) j := by
  obtain ⟨p1, p2⟩ := picked hc h4
  unfold blockN
  rw [mixN_unit (t0 := t0) (fun i j => kf _ _) D (fun i hi => weights_unit ht (row_full D hD1 hD (nthN n R) _ (fun t ht => by have := (p1 t ht).1; omega) p2) i hi), if_pos ht]
set_option maxHeartbeats 4000000 in
theorem blockFrom_any (D want : Nat) (v vh : Value) (R : Nat) (n : Nat → Nat) (f : Mat) (h1 h2 : Nat) (w : World) (r : RdM w h1 v R n f) (rh : RdI w h2 vh D (fun t => (nthN n R t : Int))) (hh : h1 ≤ w.heap.size) (hh2 : h2 ≤ w.heap.size) (hD1 : 1 ≤ D) (hD : D ≤ 3) (hR : R ≤ D + 2) (hw : want < D + 2) (hcnt : D ≤ cntN n R) (h4 : ∀ i, i < R → n i = 0 ∨ n i = 4) (kf : Byt f) :
    Calls Tryz.prog 141 #[.int .i64 D, v, vh, .int .i64 want] w fun e w' => ∃ v', e = .returned v' ∧ Own w' w.heap.size w'.heap.size v' 4 (blockN D n R f want) ∧ Below w.heap.size w w' := by
  have CC := contains_any vh D (fun t => (nthN n R t : Int)) h2 (want : Int) w rh
  have HRH : Hid (RdI w h2 vh D (fun t => (nthN n R t : Int))) := rh
  obtain ⟨aoh, caph, rfl, hmh, hch⟩ := rh
  have HCH : Hid (D ≠ 0 → ∃ b off, aoh = some ⟨b, off, none⟩ ∧ b < h2 ∧ ∀ i, i < D → w.cell? ⟨b, off + i, none⟩ = some (.int .i64 (nthN n R i : Int))) := hch
  obtain ⟨p1, p2⟩ := picked hcnt h4
  have HP1 : Hid (∀ t, t < D → nthN n R t < R ∧ n (nthN n R t) = 4) := p1
  have HP2 : Hid (∀ t, t + 1 < D → nthN n R t < nthN n R (t + 1)) := p2
  have HIS : Hid (∀ t0, t0 < D → ∀ j, blockN D n R f (nthN n R t0) j = f (nthN n R t0) j) := fun t0 ht j => blockN_is hD1 hD hR hcnt h4 kf ht j
  obtain ⟨ao, cap, e, rfl, hm, hc, he⟩ := r
  obtain ⟨b, off, rfl, hblt, hcell⟩ := hc (by have := (p1 0 (by omega)).1; omega)
  have HHE : Hid (∀ i, i < R → Rd w h1 (e i) (n i) (f i)) := he
  have HHC : Hid (∀ i, i < R → w.cell? ⟨b, off + i, none⟩ = some (e i)) := hcell
  have hbw : b < w.heap.size := by omega
  unfold maxLen at hm
  clear hc he hcell p1 p2 hch hmh hcnt h4
  by_cases hin : ∃ t, t < D ∧ (nthN n R t : Int) = (want : Int)
  · have HIN : Hid (∃ t, t < D ∧ (nthN n R t : Int) = (want : Int)) := hin
    obtain ⟨t0, ht0, het⟩ := hin
    have hwt : nthN n R t0 = want := by omega
    have q1 := HP1.out t0 ht0
    rw [hwt] at q1
    have q2 := HIS.out t0 ht0
    rw [hwt] at q2
    have HQ2 : Hid (∀ j, blockN D n R f want j = f want j) := q2
    have hwR : want < R := q1.1
    have c1 : w.cell? ⟨b, off + want, none⟩ = some (e want) := HHC.out want hwR
    have r1 := HHE.out want hwR
    rw [q1.2] at r1
    obtain ⟨x, hx⟩ : ∃ x, x = e want := ⟨_, rfl⟩
    rw [← hx] at c1 r1
    have HRX : Hid (Rd w h1 x 4 (f want)) := r1
    obtain ⟨aox, capx, hxs, _, _⟩ := r1
    subst hxs
    clear hx q1 q2 hwt het
    go_enter Tryz.func141, Tryz.ntmps141
    go_wp2_with fail
    refine CC.mono ?_
    rintro e0 w1 ⟨b1, rfl, hb1, B1⟩
    obtain rfl : b1 = true := hb1.mpr HIN.out
    have c2 : w1.cell? ⟨b, off + want, none⟩ = some (.slice aox 4 capx) := (B1.cell (p := ⟨b, off + want, none⟩) hbw).trans c1
    have CJ := joined_nil (.slice aox 4 capx) (.slice none 0 0) 4 (f want) (fun _ => 0) h1 h1 w1 (HRX.out.below B1 hh) ⟨_, _, rfl, Nat.zero_le _, fun h => absurd rfl h⟩ (Nat.le_trans hh B1.size) (by omega)
    have HB1 : Hid (Below w.heap.size w w1) := B1
    clear hb1 CC B1 c1
    go_wp2_with fail
    refine CJ.mono ?_
    rintro e0 w2 ⟨v2, rfl, o2, b2⟩
    have HO2 : Hid (Own w2 w1.heap.size w2.heap.size v2 4 (f want)) := o2
    obtain ⟨ao2, cap2, rfl⟩ := o2.slice
    have B2 : Below w.heap.size w w2 := HB1.out.trans (b2.mono HB1.out.size)
    clear CJ o2 b2
    go_wp2
    go_ret
    exact ⟨_, rfl, (HO2.out.congr (fun j _ => (HQ2.out j).symm)).weaken HB1.out.size (Nat.le_refl _), B2⟩
  · have HIN : Hid (¬ ∃ t, t < D ∧ (nthN n R t : Int) = (want : Int)) := hin
    clear hin HIS
    obtain ⟨bh, oh, hao, hbh, hch⟩ := HCH.out (by omega)
    subst hao
    have HCI : Hid (∀ i, i < D → w.cell? ⟨bh, oh + i, none⟩ = some (.int .i64 (nthN n R i : Int))) := hch
    have hbhw : bh < w.heap.size := by omega
    have CWf := fun (w1 : World) (b1 : Below w.heap.size w w1) => weightsOf_any D want _ (nthN n R) h2 w1 (HRH.out.below b1 hh2) (Nat.le_trans hh2 b1.size) hD1 hD (fun t ht => by have := (HP1.out t ht).1; omega) HP2.out hw
    have HCW : Hid (∀ (w1 : World), Below w.heap.size w w1 → Calls Tryz.prog 153 #[.int .i64 D, .slice (some ⟨bh, oh, none⟩) D caph, .int .i64 want] w1 fun e w' => ∃ v', e = .returned v' ∧ Own w' w1.heap.size w'.heap.size v' D (weightsN D 0 (nthN n R) want) ∧ Below w1.heap.size w1 w') := CWf
    clear hch HCH CWf
    go_enter Tryz.func141, Tryz.ntmps141
    go_wp2_with fail
    refine CC.mono ?_
    rintro e0 w1 ⟨b1, rfl, hb1, B1⟩
    obtain rfl : b1 = false := by
      cases b1 with
      | false => rfl
      | true => exact absurd (hb1.mp rfl) HIN.out
    have CW := HCW.out w1 B1
    have HB1 : Hid (Below w.heap.size w w1) := B1
    clear hb1 CC B1 HCW
    go_wp2_with fail
    refine CW.mono ?_
    rintro e0 w5 ⟨v5, rfl, o5, b5⟩
    obtain ⟨gv, capv, hgv, h51, h52, h53, h54⟩ := o5.form (by omega)
    subst hgv
    have B5 : Below w.heap.size w w5 := HB1.out.trans (b5.mono HB1.out.size)
    have O5 : Own w5 w.heap.size w5.heap.size (.slice (some ⟨gv, 0, none⟩) D capv) D (weightsN D 0 (nthN n R) want) := o5.weaken HB1.out.size (Nat.le_refl _)
    clear CW o5 b5 HB1
    go_wp2_with (at_make; refine wp_makeB _ rfl _ _ rfl _ _ 4 rfl rfl rfl rfl (by omega) ?_; intro w6 o6 b6 hz6)
    have B6 : Below w.heap.size w w6 := B5.trans (b6.mono B5.size)
    have O56 := O5.below b6 (Nat.le_refl _)
    have s5 := B5.size
    clear O5 b6 B5
    go_loopw [26] (fun i wr => ∃ k : Nat, k ≤ D ∧ i = .int .i64 k ∧ Own wr w5.heap.size w6.heap.size (.slice (some ⟨w5.heap.size, 0, none⟩) 4 4) 4 (mixN (fun t => f (nthN n R t)) (weightsN D 0 (nthN n R) want) k) ∧ Own wr w.heap.size w5.heap.size (.slice (some ⟨gv, 0, none⟩) D capv) D (weightsN D 0 (nthN n R) want) ∧ Below w.heap.size w wr ∧ w6.heap.size ≤ wr.heap.size) (fun i _ => D - (intOf i).toNat)
    case atStart => exact ⟨0, Nat.zero_le _, rfl, o6, O56, B6, Nat.le_refl _⟩
    case round =>
      clear o6 O56 B6
      obtain ⟨k, hk, rfl, hO, hW, hbel, hsz⟩ := hrel
      by_cases hlt : k < D
      · have c1 : wr.cell? ⟨bh, oh + k, none⟩ = some (.int .i64 (nthN n R k : Int)) := (hbel.cell (p := ⟨bh, oh + k, none⟩) hbhw).trans (HCI.out k hlt)
        have q := HP1.out k hlt
        have c2 : wr.cell? ⟨b, off + nthN n R k, none⟩ = some (e (nthN n R k)) := (hbel.cell (p := ⟨b, off + nthN n R k, none⟩) hbw).trans (HHC.out _ q.1)
        have c3 : wr.cell? ⟨gv, k, none⟩ = some (.int .u8 (weightsN D 0 (nthN n R) want k)) := (hW.1.cellAt k (by omega)).trans (cellsOf_get _ _ _ hlt)
        have rk := (HHE.out _ q.1).below hbel hh
        rw [q.2] at rk
        obtain ⟨P, hP⟩ : ∃ P, P = nthN n R k := ⟨_, rfl⟩
        have HPP : Hid (P = nthN n R k) := hP
        rw [← hP] at c1 c2 q rk
        have hPR : P < R := q.1
        obtain ⟨x, hx⟩ : ∃ x, x = e P := ⟨_, rfl⟩
        rw [← hx] at c2 rk
        obtain ⟨y, hy⟩ : ∃ y, y = weightsN D 0 (nthN n R) want k := ⟨_, rfl⟩
        rw [← hy] at c3
        have CA : ∀ q, Calls Tryz.prog 97 #[.slice (some ⟨w5.heap.size, 0, none⟩) 4 4, x, .int .u8 y] (wr.drewN q) fun e w' => e = .returned (.tuple #[]) ∧ Own w' w5.heap.size w6.heap.size (.slice (some ⟨w5.heap.size, 0, none⟩) 4 4) 4 (mixN (fun t => f (nthN n R t)) (weightsN D 0 (nthN n R) want) (k + 1)) ∧ Chg w5.heap.size w6.heap.size (wr.drewN q) w' := fun q =>
          addScaled_any _ _ 4 (mixN (fun t => f (nthN n R t)) (weightsN D 0 (nthN n R) want) k) (f P) (mixN (fun t => f (nthN n R t)) (weightsN D 0 (nthN n R) want) (k + 1)) y w5.heap.size w6.heap.size h1 (wr.drewN q) hO hsz rk (Nat.le_trans hh s5) (Nat.le_trans hh hbel.size) (fun i => mixN_lt _ _ (weightsN_lt D 0 (nthN n R) want) k i) (fun i => kf P i) (by rw [hy]; exact weightsN_lt D 0 (nthN n R) want k) (fun i _ => by rw [mixN, hy, HPP.out]) (by omega)
        have CA1 := CA 1
        obtain ⟨aox, capx, hxs, _, _⟩ := rk
        rw [hxs] at c2 CA1
        have HO : Hid (Own wr w.heap.size w5.heap.size (.slice (some ⟨gv, 0, none⟩) D capv) D (weightsN D 0 (nthN n R) want)) := hW
        have HBL : Hid (Below w.heap.size w wr) := hbel
        have hPRi : (P : Int) < (R : Int) := by omega
        clear hO hW hbel hP hx hxs hy CA q
        go_wp2
        go_region_with (go_at_call 97; refine CA1.mono ?_; rintro e w7 ⟨rfl, o7, ch7⟩)
        all_goals
          have O7 : Own w7 w.heap.size w5.heap.size (.slice (some ⟨gv, 0, none⟩) D capv) D (weightsN D 0 (nthN n R) want) := (show Own (wr.drewN 1) w.heap.size w5.heap.size (.slice (some ⟨gv, 0, none⟩) D capv) D (weightsN D 0 (nthN n R) want) from HO.out).chg ch7 (.inl (Nat.le_refl _))
          have B7 : Below w.heap.size w w7 := (below_drewN HBL.out 1).trans (ch7.below s5 HBL.out.size)
          have S7 : w6.heap.size ≤ w7.heap.size := Nat.le_trans hsz ch7.size
          clear ch7 HO HBL CA1 c1 c2 c3
          go_wp2
          go_roundw
          case rel => exact ⟨k + 1, by omega, by go_num, o7, O7, B7, S7⟩
          case measure => simp [intOf]; omega
      · obtain rfl : k = D := by omega
        have HO9 : Hid (Own wr w5.heap.size w6.heap.size (.slice (some ⟨w5.heap.size, 0, none⟩) 4 4) 4 (blockN k n R f want)) := hO
        clear hO hW
        go_wp2
        go_ret
        exact ⟨_, rfl, HO9.out.weaken s5 hsz, hbel⟩
set_option maxHeartbeats 4000000 in
theorem bytesFrom_any (D : Nat) (v vh : Value) (R : Nat) (n : Nat → Nat) (f : Mat) (h1 h2 : Nat) (w : World) (r : RdM w h1 v R n f) (rh : RdI w h2 vh D (fun t => (nthN n R t : Int))) (hh : h1 ≤ w.heap.size) (hh2 : h2 ≤ w.heap.size) (hD1 : 1 ≤ D) (hD : D ≤ 3) (hR : R ≤ D + 2) (hcnt : D ≤ cntN n R) (h4 : ∀ i, i < R → n i = 0 ∨ n i = 4) (kf : Byt f) :
    Calls Tryz.prog 124 #[.int .i64 D, v, vh] w fun e w' => ∃ v', e = .returned v' ∧ Own w' w.heap.size w'.heap.size v' (4 * D) (decN D n R f) ∧ Below w.heap.size w w' := by
  have CBf := fun (w1 : World) (k : Nat) (hk : k < D) (b1 : Below w.heap.size w w1) => blockFrom_any D k v vh R n f h1 h2 w1 (r.below b1 hh) (rh.below b1 hh2) (Nat.le_trans hh b1.size) (Nat.le_trans hh2 b1.size) hD1 hD hR (by omega) hcnt h4 kf
  obtain ⟨aoh, caph, rfl, hmh, hch⟩ := rh
  obtain ⟨ao, cap, e, rfl, hm, hc, he⟩ := r
  have HCB : Hid (∀ (w1 : World) (k : Nat), k < D → Below w.heap.size w w1 → Calls Tryz.prog 141 #[.int .i64 D, .slice ao R cap, .slice aoh D caph, .int .i64 k] w1 fun e w' => ∃ v', e = .returned v' ∧ Own w' w1.heap.size w'.heap.size v' 4 (blockN D n R f k) ∧ Below w1.heap.size w1 w') := CBf
  clear CBf hc he hch hm hmh hcnt h4
  have hs4 : (D : Int) * 4 = ((4 * D : Nat) : Int) := by omega
  obtain ⟨Q, hQ⟩ : ∃ Q, Q = 4 * D := ⟨_, rfl⟩
  rw [← hQ] at hs4
  have hQ12 : Q ≤ 12 := by omega
  clear hQ
  go_enter Tryz.func124, Tryz.ntmps124
  go_wp2_with (at_make; refine wp_makeB0 _ rfl _ _ rfl _ Q rfl rfl (by first | omega | simp [hs4]) (by omega) ?_; intro w1 hown1 hb1 hz1)
  have I0 := hown1 (decN D n R f)
  clear hown1
  go_loopw [7, 13] (fun u i wr => ∃ k : Nat, k ≤ D ∧ i = .int .i64 k ∧ Own wr w.heap.size wr.heap.size u (4 * k) (decN D n R f) ∧ Below w.heap.size w wr) (fun _ i _ => D - (intOf i).toNat)
  case atStart => exact ⟨0, Nat.zero_le _, rfl, I0, hb1⟩
  case round =>
    clear I0 hb1 hz1
    obtain ⟨k, hk, rfl, hown, hb⟩ := hrel
    have HO : Hid (Own wr w.heap.size wr.heap.size u7 (4 * k) (decN D n R f)) := hown
    have HB : Hid (Below w.heap.size w wr) := hb
    have szr := hb.size
    by_cases hlt : k < D
    · have C := HCB.out wr k hlt hb
      clear hown hb
      go_wp2_with fail
      refine C.mono ?_
      rintro ee w2 ⟨v2, rfl, o2, b2'⟩
      have B2 : Below w.heap.size w w2 := HB.out.trans (b2'.mono szr)
      have s2 := b2'.size
      have HO2 : Hid (Own w2 w.heap.size wr.heap.size u7 (4 * k) (decN D n R f)) := HO.out.below b2' (Nat.le_refl _)
      obtain ⟨ao2, cap2, rfl⟩ := o2.slice
      have HO3 : Hid (Own w2 wr.heap.size w2.heap.size (.slice ao2 4 cap2) 4 (blockN D n R f k)) := o2
      have hm4 : 4 * k + 4 ≤ 1000000 := by omega
      have sw2 : w.heap.size ≤ w2.heap.size := by omega
      clear C b2' o2
      go_wp2_with (at_builtin; refine wp_appendX rfl (.tmp 16) (.tmp 21) rfl w.heap.size wr.heap.size u7 (4 * k) (decN D n R f) ?_ HO2.out w2.heap.size (.slice ao2 4 cap2) 4 (blockN D n R f k) ?_ HO3.out.rd (by omega) (fun i hi => decN_at D n R f k i hi) hm4 sw2 ?_; (simp [Act.eval]); (simp [Act.eval]); intro v5 w5 o5 g5)
      have R5 : Below w.heap.size w w5 := B2.grown g5 sw2 (fun q hq => (HO2.out.1.lt q hq).1)
      have e4 : 4 * k + 4 = 4 * (k + 1) := by omega
      rw [e4] at o5
      clear g5 HO2 HO3 HO HB
      go_wp2
      go_roundw
      case rel => exact ⟨k + 1, by omega, by go_num, o5, R5⟩
      case measure => simp [intOf]; omega
    · obtain rfl : k = D := by omega
      go_wp2
      go_ret
      exact ⟨_, rfl, hown, hb⟩
end Go.Proofs.YtkijpgfmjogagaaGreat
namespace Go.Proofs.YtkijpgfmjogagaaGreat
open Go.RowKit F256
theorem not_there {R : Nat} {n : Nat → Nat} {N : Int} (h : ¬ ThereP R n N) : (R : Int) ≠ N ∨ ∃ i, i < R ∧ n i ≠ 0 ∧ n i ≠ 4 := by
  by_cases c : (R : Int) = N
  · right
    refine Classical.byContradiction fun hh => h ⟨c, fun i hi => ?_⟩
    by_cases c0 : n i = 0
    · exact .inl c0
    · by_cases c4 : n i = 4
      · exact .inr c4
      · exact absurd ⟨i, hi, c0, c4⟩ hh
  · exact .inl c
set_option maxHeartbeats 4000000 in
theorem implDecode_rd (d s : Int) (v : Value) (R : Nat) (n : Nat → Nat) (f : Mat) (h1 : Nat) (w : World) (r : RdM w h1 v R n f) (hh : h1 ≤ w.heap.size) (kf : Byt f) :
    Calls Tryz.prog 99 #[.int .i64 d, .int .i64 s, v] w fun ee w' => ∃ x v', ee = .returned (bytesR x v') ∧ DecAns d s R n x ∧ Own w' w.heap.size w'.heap.size v' (if x = 0 then 4 * d.toNat else 0) (decN d.toNat n R f) ∧ Below w.heap.size w w' := by
  have HR : Hid (RdM w h1 v R n f) := r
  obtain ⟨ao, cap, e, rfl, hm, hc, he⟩ := r
  clear hm hc he
  go_enter Tryz.func99, Tryz.ntmps99
  go_wp2_with fail
  refine (rowInBounds_any d s _).mono ?_
  rintro e0 w1 ⟨b1, rfl, hb1, b1'⟩
  have HS : Hid (b1 = true ↔ Shp d s) := hb1
  have B1 : Below w.heap.size w w1 := bnew b1'
  have X1 : Box w1 w.heap.size #[.int .i64 0, .slice none 0 0] 130 := (box_new w _ _).below b1' (by simp)
  have z1 : w.heap.size < w1.heap.size := X1.lt
  obtain ⟨x0, x1, y0, y1⟩ := res_cells X1
  clear hb1 b1'
  cases b1 with
  | false =>
    have HNO : Hid (¬ Shp d s) := fun h => by have := HS.out.mpr h; cases this
    clear HS
    go_wp2
    exact bodyPost_ret (v := bytesR 3 (.slice none 0 0)) (by simp [results, Tryz.results99, go_sem, bytesR, x0, x1]) rfl ⟨3, _, rfl, .inl ⟨.inl ⟨rfl, HNO.out⟩, by omega⟩, own_nil _ _ _ _, (B1.setCell (Nat.le_refl _) _).setCell (Nat.le_refl _) _⟩
  | true =>
    have hsh := HS.out.mp rfl
    have HSH : Hid (Shp d s) := hsh
    obtain ⟨q1, q2, q3, q4⟩ := hsh
    obtain ⟨D, rfl⟩ : ∃ D : Nat, d = D := ⟨d.toNat, by omega⟩
    obtain ⟨S, rfl⟩ : ∃ S : Nat, s = S := ⟨s.toNat, by omega⟩
    have CT := thereOrNot_any (.slice ao R cap) R n f h1 ((D : Int) + (S : Int)) w1 (HR.out.below B1 hh)
    clear HS
    go_wp2_with fail
    refine CT.mono ?_
    rintro e0 w2 ⟨b2, rfl, hb2, b2'⟩
    have HT : Hid (b2 = true ↔ ThereP R n ((D : Int) + (S : Int))) := hb2
    have B2 : Below w.heap.size w w2 := B1.trans (b2'.mono B1.size)
    have X2 : Box w2 w.heap.size #[.int .i64 0, .slice none 0 0] 130 := X1.below b2' z1
    have z2 : w.heap.size < w2.heap.size := X2.lt
    clear x0 x1 y0 y1
    obtain ⟨x0, x1, y0, y1⟩ := res_cells X2
    clear hb2 b2' X1 B1 z1 CT
    cases b2 with
    | false =>
      have HNO : Hid ((R : Int) ≠ (D : Int) + (S : Int) ∨ ∃ i, i < R ∧ n i ≠ 0 ∧ n i ≠ 4) := not_there fun h => by have := HT.out.mpr h; cases this
      clear HT
      go_wp2
      exact bodyPost_ret (v := bytesR 1 (.slice none 0 0)) (by simp [results, Tryz.results99, go_sem, bytesR, x0, x1]) rfl ⟨1, _, rfl, .inl ⟨.inr (.inl ⟨rfl, HSH.out, HNO.out⟩), by omega⟩, own_nil _ _ _ _, (B2.setCell (Nat.le_refl _) _).setCell (Nat.le_refl _) _⟩
    | true =>
      have HTH : Hid (ThereP R n ((D : Int) + (S : Int))) := HT.out.mp rfl
      have HASK : Hid (AskP (D : Int) (S : Int) R n 0) := .inr (.inr ⟨rfl, HSH.out, HTH.out.1, HTH.out.2⟩)
      have CF := firstThere_any D (.slice ao R cap) R n f h1 w2 (HR.out.below B2 hh) (Nat.le_trans hh B2.size) (by omega)
      clear HT x0 x1 y0 y1
      go_wp2_with fail
      refine CF.mono ?_
      rintro e0 w3 ⟨v3, rfl, o3, b3'⟩
      have B3 : Below w.heap.size w w3 := B2.trans (b3'.mono B2.size)
      have X3 : Box w3 w.heap.size #[.int .i64 0, .slice none 0 0] 130 := X2.below b3' z2
      have z3 : w.heap.size < w3.heap.size := X3.lt
      obtain ⟨x0, x1, y0, y1⟩ := res_cells X3
      clear b3' X2 B2 z2 CF
      by_cases hcnt : D ≤ cntN n R
      · have HCN : Hid (D ≤ cntN n R) := hcnt
        rw [pickN_all hcnt] at o3
        obtain ⟨ao3, cap3, rfl⟩ := o3.slice
        have CB := bytesFrom_any D (.slice ao R cap) (.slice ao3 D cap3) R n f h1 w3.heap.size w3 (HR.out.below B3 hh) o3.rd (Nat.le_trans hh B3.size) (Nat.le_refl _) (by omega) (by omega) (by have := HTH.out.1; omega) hcnt HTH.out.2 kf
        clear o3 hcnt x0 x1 y0 y1
        go_wp2_with fail
        refine CB.mono ?_
        rintro e0 w4 ⟨v4, rfl, o4, b4⟩
        obtain ⟨ao4, cap4, rfl⟩ := o4.slice
        have HO : Hid (Own w4 w3.heap.size w4.heap.size (.slice ao4 (4 * D) cap4) (4 * D) (decN D n R f)) := o4
        have B4 : Below w.heap.size w w4 := B3.trans (b4.mono (by omega))
        have X4 : Box w4 w.heap.size #[.int .i64 0, .slice none 0 0] 130 := X3.below b4 z3
        have z4 := X4.lt
        obtain ⟨x0, x1, y0, y1⟩ := res_cells X4
        clear o4 b4 CB X4 X3
        go_wp2
        refine bodyPost_ret (v := bytesR 0 (.slice ao4 (4 * D) cap4)) (by simp [results, Tryz.results99, go_sem, bytesR, x0, x1]) rfl ⟨0, _, rfl, .inr (.inr ⟨HASK.out, by rw [Int.toNat_natCast]; exact HCN.out, rfl⟩), ?_, (B4.setCell (Nat.le_refl _) _).setCell (Nat.le_refl _) _⟩
        have o1 := out_store w4 w.heap.size (w.heap.size + 1) w.heap.size 0 (.int .i64 0) (Nat.le_refl _) (by omega)
        have o2 := out_store (w4.setCell ⟨w.heap.size, 0, none⟩ (.int .i64 0)) w.heap.size (w.heap.size + 1) w.heap.size 1 (.slice ao4 (4 * D) cap4) (Nat.le_refl _) (by omega)
        simp only [if_pos]
        rw [Int.toNat_natCast]
        exact (HO.out.out (o1.trans o2) (.inr (by omega))).weaken (by omega) (by rw [(o1.trans o2).size]; exact Nat.le_refl _)
      · have HNC : Hid (¬ D ≤ cntN n R) := hcnt
        have hpf := pickN_few hcnt
        obtain ⟨c, hc⟩ : ∃ c, c = pickN D n R := ⟨_, rfl⟩
        rw [← hc] at o3 hpf
        obtain ⟨ao3, cap3, rfl⟩ := o3.slice
        have hci : (c : Int) < (D : Int) := by omega
        clear o3 hcnt hc
        go_wp2
        exact bodyPost_ret (v := bytesR 10 (.slice none 0 0)) (by simp [results, Tryz.results99, go_sem, bytesR, x0, x1]) rfl ⟨10, _, rfl, .inr (.inl ⟨HASK.out, by rw [Int.toNat_natCast]; exact HNC.out, rfl⟩), own_nil _ _ _ _, (B3.setCell (Nat.le_refl _) _).setCell (Nat.le_refl _) _⟩
end Go.Proofs.YtkijpgfmjogagaaGreat
namespace Go.Proofs.YtkijpgfmjogagaaGreat
open Go.RowKit F256
theorem el_Bytes : ElInfo layBytes 97 91 24 [.slice none 0 0] := ⟨by decide, rfl, Tryz.underlying97, by kernel_rfl, by decide⟩
theorem rd_nilB (w : World) (hi : Nat) : layBytes.rd w hi (0, fun _ => 0) [.slice none 0 0] := ⟨_, rfl, ⟨none, 0, rfl, Nat.zero_le _, fun h => absurd rfl h⟩, fun _ => Nat.zero_lt_succ _⟩
theorem View.rdM {w : World} {lo hi n : Nat} {v : Value} {x : Nat → Nat × (Nat → Nat)} {ce : Nat → List Value} (h : View layBytes 91 w lo hi v n x ce) (hh : hi ≤ w.heap.size) : RdM w w.heap.size v n (fun i => (x i).1) (fun i => (x i).2) := by
  obtain ⟨ao, cap, rfl⟩ := h.form
  have hce : ∀ i, i < n → ∃ u, ce i = [u] ∧ Rd w hi u (x i).1 (x i).2 := fun i hi => by
    obtain ⟨u, h1, h2, _⟩ := h.each i hi
    exact ⟨u, h1, h2⟩
  refine ⟨ao, cap, fun i => (ce i).headD (.int .i64 0), rfl, h.len, fun h0 => ?_, fun i hi => ?_⟩
  · obtain ⟨g, cap', e⟩ := h.form0 h0
    cases e
    refine ⟨g, 0, rfl, (h.row.lt g (by simp [Value.ownBlock])).2, fun i hi => ?_⟩
    obtain ⟨u, h1, _⟩ := hce i hi
    have := h.cell hi (j := 0) (by decide)
    show w.cell? ⟨g, 0 + i, none⟩ = some ((ce i).headD (.int .i64 0))
    rw [h1] at this ⊢
    rw [show 0 + i = i * layBytes.sz + 0 by show 0 + i = i * 1 + 0; omega]
    exact this
  · obtain ⟨u, h1, h2⟩ := hce i hi
    show Rd w w.heap.size ((ce i).headD (.int .i64 0)) _ _
    rw [h1]
    exact h2.mono hh
def rowX (x : Nat → DriveD) (n R : Nat) : Nat → Nat × (Nat → Nat) := fun i => if i < n ∧ (x i).wiped = false then ((x i).blocks.2 R).bytes else (0, fun _ => 0)
def rowK (x : Nat → DriveD) (n R k : Nat) : Nat → Nat × (Nat → Nat) := fun i => if i < k then rowX x n R i else (0, fun _ => 0)
def rowN (x : Nat → DriveD) (n R : Nat) : Nat → Nat := fun i => (rowX x n R i).1
def rowM (x : Nat → DriveD) (n R : Nat) : Mat := fun i => (rowX x n R i).2
theorem rowX_wiped {x : Nat → DriveD} {n R i : Nat} (h : (x i).wiped = true) : rowX x n R i = (0, fun _ => 0) := if_neg (fun hh => by rw [h] at hh; cases hh.2)
theorem rowX_there {x : Nat → DriveD} {n R i : Nat} (hi : i < n) (h : (x i).wiped = false) : rowX x n R i = ((x i).blocks.2 R).bytes := if_pos ⟨hi, h⟩
theorem rowK_skip {x : Nat → DriveD} {n R k : Nat} (h : (x k).wiped = true) (i : Nat) : rowK x n R k i = rowK x n R (k + 1) i := by
  unfold rowK
  by_cases c : i < k
  · rw [if_pos c, if_pos (by omega)]
  · rw [if_neg c]
    by_cases c2 : i = k
    · subst c2; rw [if_pos (by omega), rowX_wiped h]
    · rw [if_neg (by omega)]
theorem rowK_next {x : Nat → DriveD} {n R k : Nat} (i : Nat) : upd (rowK x n R k) k (rowX x n R k) i = rowK x n R (k + 1) i := by
  unfold rowK
  by_cases c2 : i = k
  · subst c2; rw [upd_at, if_pos (by omega)]
  · rw [upd_ne _ _ c2]
    by_cases c : i < k
    · rw [if_pos c, if_pos (by omega)]
    · rw [if_neg c, if_neg (by omega)]
theorem rowK_cat {x : Nat → DriveD} {n R k : Nat} {y : Nat → Nat × (Nat → Nat)} (hy : y 0 = rowX x n R k) (i : Nat) (hi : i < k + 1) : cat2 (rowX x n R) k y i = rowX x n R i := by
  by_cases c : i < k
  · exact cat2_lt _ _ c
  · obtain rfl : i = k := by omega
    rw [show cat2 (rowX x n R) i y i = y 0 from cat2_ge (rowX x n R) i y 0, hy]
theorem rowK_all {x : Nat → DriveD} {n R : Nat} (i : Nat) (hi : i < n) : rowK x n R n i = rowX x n R i := if_pos hi
theorem rowN_cnt {x : Nat → DriveD} {n R : Nat} (h4 : ∀ i, i < n → ((x i).blocks.2 R).bytes.1 = 4) : ∀ k, k ≤ n → cntN (rowN x n R) k + wipedN x k = k
  | 0, _ => rfl
  | k + 1, hk => by
    have ih := rowN_cnt (x := x) (n := n) (R := R) h4 k (by omega)
    show (if rowN x n R k = 0 then cntN (rowN x n R) k else cntN (rowN x n R) k + 1) + (wipedN x k + (if (x k).wiped = true then 1 else 0)) = k + 1
    cases hw : (x k).wiped with
    | true =>
      rw [if_pos (show rowN x n R k = 0 by unfold rowN; rw [rowX_wiped hw])]
      simp
      omega
    | false =>
      rw [if_neg (show rowN x n R k ≠ 0 by unfold rowN; rw [rowX_there (by omega) hw, h4 k (by omega)]; decide)]
      simp
      omega
theorem rowN_four {x : Nat → DriveD} {n R : Nat} (h4 : ∀ i, i < n → ((x i).blocks.2 R).bytes.1 = 4) (i : Nat) (hi : i < n) : rowN x n R i = 0 ∨ rowN x n R i = 4 := by
  unfold rowN
  cases hw : (x i).wiped with
  | true => rw [rowX_wiped hw]; exact .inl rfl
  | false => rw [rowX_there hi hw]; exact .inr (h4 i hi)
theorem rowM_byt {w : World} {hi : Nat} {d : WorldD} {cs : List Value} (h : layWorld.rd w hi d cs) {G R : Nat} (hG : G < d.groups.1) (hR : ∀ k, k < (d.groups.2 G).1 → R < ((d.groups.2 G).2 k).blocks.1) : Byt (rowM (d.groups.2 G).2 (d.groups.2 G).1 R) := fun i j => by
  unfold rowM
  by_cases c : i < (d.groups.2 G).1 ∧ ((d.groups.2 G).2 i).wiped = false
  · rw [rowX_there c.1 c.2]
    obtain ⟨ao1, cap1, ao2, cap2, ao3, cap3, rfl, g1, _⟩ := World_rd h
    obtain ⟨_, _, e1, hm1, hc1⟩ := g1
    obtain ⟨b1, off1, he1, hb1, hel1⟩ := hc1 (by omega)
    obtain ⟨cg, hrg, hcg⟩ := hel1 G hG
    obtain ⟨_, _, e9, hm9, hc9⟩ := hrg
    obtain ⟨b, off, _, hblt, hcell⟩ := hc9 (by omega)
    obtain ⟨cd, hrd, hcd⟩ := hcell i c.1
    obtain ⟨ao5, cap5, rfl, g5⟩ := Drive_rd hrd
    obtain ⟨_, _, e5, hm5, hc5⟩ := g5
    have hRi := hR i c.1
    obtain ⟨b5, off5, he5, hb5, hel5⟩ := hc5 (by omega)
    obtain ⟨cb, hrb, hcb⟩ := hel5 R hRi
    obtain ⟨ao0, cap0, rfl, hrr, -⟩ := Block_rd hrb
    obtain ⟨v, _, _, hk⟩ := hrr
    exact hk j
  · unfold rowX
    rw [if_neg c]
    exact Nat.zero_lt_succ _
theorem not_dead {d : WorldD} {G R : Nat} {D S : Nat} (hD : d.shape 2 = (D : Int)) (hS : d.shape 3 = (S : Int)) (hn : (d.groups.2 G).1 = D + S) (h4 : ∀ i, i < (d.groups.2 G).1 → (((d.groups.2 G).2 i).blocks.2 R).bytes.1 = 4) : ¬ DeadP d G ↔ D ≤ cntN (rowN (d.groups.2 G).2 (d.groups.2 G).1 R) (d.groups.2 G).1 := by
  have := rowN_cnt (R := R) h4 _ (Nat.le_refl _)
  unfold DeadP
  rw [hS]
  omega
def rowB (d : WorldD) (G R : Nat) : Nat → Nat := decN (d.shape 2).toNat (rowN (d.groups.2 G).2 (d.groups.2 G).1 R) (d.groups.2 G).1 (rowM (d.groups.2 G).2 (d.groups.2 G).1 R)
theorem row_facts {d : WorldD} (h : OkWorld d) {G : Nat} (hG : G < d.groups.1) : ∃ D S : Nat, d.shape 2 = (D : Int) ∧ d.shape 3 = (S : Int) ∧ (d.groups.2 G).1 = D + S ∧ 1 ≤ D ∧ D ≤ 3 ∧ S ≤ 2 ∧ ∀ R, (∀ k, k < (d.groups.2 G).1 → R < ((d.groups.2 G).2 k).blocks.1) → ∀ i, i < (d.groups.2 G).1 → (((d.groups.2 G).2 i).blocks.2 R).bytes.1 = 4 := by
  obtain ⟨_, q, _⟩ := h.shape
  unfold Shp at q
  have h2 := h.form.1.2 G hG
  refine ⟨(d.shape 2).toNat, (d.shape 3).toNat, by omega, by omega, by have := h2.1; omega, by omega, by omega, by omega, fun R hR i hi => ((h2.2 i hi).2 R (hR i hi)).2⟩
set_option maxHeartbeats 8000000 in
set_option maxRecDepth 20000 in
theorem bytesInRow_any (d : WorldD) (cs : List Value) (hi : Nat) (G R : Nat) (w : World) (h : layWorld.rd w hi d cs) (hhi : hi ≤ w.heap.size) (hG : G < d.groups.1) (hR : ∀ k, k < (d.groups.2 G).1 → R < ((d.groups.2 G).2 k).blocks.1) (hok : OkWorld d) (hnd : ¬ DeadP d G) :
    Calls Tryz.prog 62 #[.agg cs.toArray, .int .i64 (G : Int), .int .i64 (R : Int)] w fun e w' => ∃ v, e = .returned v ∧ Own w' w.heap.size w'.heap.size v (4 * (d.shape 2).toNat) (rowB d G R) ∧ Below w.heap.size w w' := by
  have kf := rowM_byt h hG hR
  obtain ⟨D, S, hD, hS, hn, d1, d2, s2, h4'⟩ := row_facts hok hG
  have h4 := h4' R hR
  have hcnt := (not_dead (R := R) hD hS hn h4).1 hnd
  have HFour : Hid (∀ i, i < (d.groups.2 G).1 → rowN (d.groups.2 G).2 (d.groups.2 G).1 R i = 0 ∨ rowN (d.groups.2 G).2 (d.groups.2 G).1 R i = 4) := rowN_four h4
  have HCNT : Hid (D ≤ cntN (rowN (d.groups.2 G).2 (d.groups.2 G).1 R) (d.groups.2 G).1) := hcnt
  have HKF : Hid (Byt (rowM (d.groups.2 G).2 (d.groups.2 G).1 R)) := kf
  have HD : Hid (d.shape 2 = (D : Int)) := hD
  have HS : Hid (d.shape 3 = (S : Int)) := hS
  have HN : Hid ((d.groups.2 G).1 = D + S) := hn
  have hn6 : (d.groups.2 G).1 ≤ 6 := by omega
  have HOK : Hid (OkWorld d) := hok
  clear h4 h4' hcnt hnd kf hD hS hn hok
  obtain ⟨ao1, cap1, ao2, cap2, ao3, cap3, rfl, g1, g2, g3, k0, k4, k5⟩ := World_rd h
  obtain ⟨_, _, e1, hm1, hc1⟩ := g1
  cases e1
  obtain ⟨b1, off1, he1, hb1, hel1⟩ := hc1 (by omega)
  subst he1
  obtain ⟨cg, hrg, hcg⟩ := hel1 G hG
  obtain ⟨ao9, cap9, rfl⟩ := sl_form hrg
  have c0 : w.cell? ⟨b1, off1 + G, none⟩ = some (.slice ao9 (d.groups.2 G).1 cap9) := by
    have := hcg 0 (by decide)
    have e : off1 + (G * (layDrive.slice 76).sz + 0) = off1 + G := by show off1 + (G * 1 + 0) = off1 + G; omega
    rw [e] at this
    exact this
  obtain ⟨_, _, e9, hm9, hc9⟩ := hrg
  cases e9
  unfold maxLen at hm9
  have i1 : (0 : Int) ≤ (G : Int) := by omega
  have i2 : (G : Int) < (d.groups.1 : Int) := by omega
  clear g2 g3 k0 k4 k5 hcg hel1 hc1 hm1
  have T0 := one_new w #[.int .i64 (d.shape 0), .int .i64 (d.shape 1), .int .i64 (d.shape 2), .int .i64 (d.shape 3), .int .i64 (d.shape 4), .int .i64 (d.shape 5), .int .i64 (d.shape 6), .int .i64 (d.shape 7), .int .i64 (d.shape 8), .slice (some ⟨b1, off1, none⟩) d.groups.1 cap1, .slice ao2 d.on.1 cap2, .slice ao3 d.tapes.1 cap3, .int .i64 d.writes, .int .i64 d.stop, .bool d.down] 37
  have c0' := (T0.bel.cell (p := ⟨b1, off1 + G, none⟩) (by show b1 < w.heap.size; omega)).trans c0
  have x_0 : (w.alloc (.cells #[.int .i64 (d.shape 0), .int .i64 (d.shape 1), .int .i64 (d.shape 2), .int .i64 (d.shape 3), .int .i64 (d.shape 4), .int .i64 (d.shape 5), .int .i64 (d.shape 6), .int .i64 (d.shape 7), .int .i64 (d.shape 8), .slice (some ⟨b1, off1, none⟩) d.groups.1 cap1, .slice ao2 d.on.1 cap2, .slice ao3 d.tapes.1 cap3, .int .i64 d.writes, .int .i64 d.stop, .bool d.down] 37)).cell? ⟨w.heap.size, 0, none⟩ = some (.int .i64 (d.shape 0)) := T0.b1.cell 0
  have x_1 : (w.alloc (.cells #[.int .i64 (d.shape 0), .int .i64 (d.shape 1), .int .i64 (d.shape 2), .int .i64 (d.shape 3), .int .i64 (d.shape 4), .int .i64 (d.shape 5), .int .i64 (d.shape 6), .int .i64 (d.shape 7), .int .i64 (d.shape 8), .slice (some ⟨b1, off1, none⟩) d.groups.1 cap1, .slice ao2 d.on.1 cap2, .slice ao3 d.tapes.1 cap3, .int .i64 d.writes, .int .i64 d.stop, .bool d.down] 37)).cell? ⟨w.heap.size, 1, none⟩ = some (.int .i64 (d.shape 1)) := T0.b1.cell 1
  have x_2 : (w.alloc (.cells #[.int .i64 (d.shape 0), .int .i64 (d.shape 1), .int .i64 (d.shape 2), .int .i64 (d.shape 3), .int .i64 (d.shape 4), .int .i64 (d.shape 5), .int .i64 (d.shape 6), .int .i64 (d.shape 7), .int .i64 (d.shape 8), .slice (some ⟨b1, off1, none⟩) d.groups.1 cap1, .slice ao2 d.on.1 cap2, .slice ao3 d.tapes.1 cap3, .int .i64 d.writes, .int .i64 d.stop, .bool d.down] 37)).cell? ⟨w.heap.size, 2, none⟩ = some (.int .i64 (d.shape 2)) := T0.b1.cell 2
  have x_3 : (w.alloc (.cells #[.int .i64 (d.shape 0), .int .i64 (d.shape 1), .int .i64 (d.shape 2), .int .i64 (d.shape 3), .int .i64 (d.shape 4), .int .i64 (d.shape 5), .int .i64 (d.shape 6), .int .i64 (d.shape 7), .int .i64 (d.shape 8), .slice (some ⟨b1, off1, none⟩) d.groups.1 cap1, .slice ao2 d.on.1 cap2, .slice ao3 d.tapes.1 cap3, .int .i64 d.writes, .int .i64 d.stop, .bool d.down] 37)).cell? ⟨w.heap.size, 3, none⟩ = some (.int .i64 (d.shape 3)) := T0.b1.cell 3
  have x_4 : (w.alloc (.cells #[.int .i64 (d.shape 0), .int .i64 (d.shape 1), .int .i64 (d.shape 2), .int .i64 (d.shape 3), .int .i64 (d.shape 4), .int .i64 (d.shape 5), .int .i64 (d.shape 6), .int .i64 (d.shape 7), .int .i64 (d.shape 8), .slice (some ⟨b1, off1, none⟩) d.groups.1 cap1, .slice ao2 d.on.1 cap2, .slice ao3 d.tapes.1 cap3, .int .i64 d.writes, .int .i64 d.stop, .bool d.down] 37)).cell? ⟨w.heap.size, 4, none⟩ = some (.int .i64 (d.shape 4)) := T0.b1.cell 4
  have x_5 : (w.alloc (.cells #[.int .i64 (d.shape 0), .int .i64 (d.shape 1), .int .i64 (d.shape 2), .int .i64 (d.shape 3), .int .i64 (d.shape 4), .int .i64 (d.shape 5), .int .i64 (d.shape 6), .int .i64 (d.shape 7), .int .i64 (d.shape 8), .slice (some ⟨b1, off1, none⟩) d.groups.1 cap1, .slice ao2 d.on.1 cap2, .slice ao3 d.tapes.1 cap3, .int .i64 d.writes, .int .i64 d.stop, .bool d.down] 37)).cell? ⟨w.heap.size, 5, none⟩ = some (.int .i64 (d.shape 5)) := T0.b1.cell 5
  have x_6 : (w.alloc (.cells #[.int .i64 (d.shape 0), .int .i64 (d.shape 1), .int .i64 (d.shape 2), .int .i64 (d.shape 3), .int .i64 (d.shape 4), .int .i64 (d.shape 5), .int .i64 (d.shape 6), .int .i64 (d.shape 7), .int .i64 (d.shape 8), .slice (some ⟨b1, off1, none⟩) d.groups.1 cap1, .slice ao2 d.on.1 cap2, .slice ao3 d.tapes.1 cap3, .int .i64 d.writes, .int .i64 d.stop, .bool d.down] 37)).cell? ⟨w.heap.size, 6, none⟩ = some (.int .i64 (d.shape 6)) := T0.b1.cell 6
  have x_7 : (w.alloc (.cells #[.int .i64 (d.shape 0), .int .i64 (d.shape 1), .int .i64 (d.shape 2), .int .i64 (d.shape 3), .int .i64 (d.shape 4), .int .i64 (d.shape 5), .int .i64 (d.shape 6), .int .i64 (d.shape 7), .int .i64 (d.shape 8), .slice (some ⟨b1, off1, none⟩) d.groups.1 cap1, .slice ao2 d.on.1 cap2, .slice ao3 d.tapes.1 cap3, .int .i64 d.writes, .int .i64 d.stop, .bool d.down] 37)).cell? ⟨w.heap.size, 7, none⟩ = some (.int .i64 (d.shape 7)) := T0.b1.cell 7
  have x_8 : (w.alloc (.cells #[.int .i64 (d.shape 0), .int .i64 (d.shape 1), .int .i64 (d.shape 2), .int .i64 (d.shape 3), .int .i64 (d.shape 4), .int .i64 (d.shape 5), .int .i64 (d.shape 6), .int .i64 (d.shape 7), .int .i64 (d.shape 8), .slice (some ⟨b1, off1, none⟩) d.groups.1 cap1, .slice ao2 d.on.1 cap2, .slice ao3 d.tapes.1 cap3, .int .i64 d.writes, .int .i64 d.stop, .bool d.down] 37)).cell? ⟨w.heap.size, 8, none⟩ = some (.int .i64 (d.shape 8)) := T0.b1.cell 8
  have CG := driveCount_any d.shape HOK.out.shape (w.alloc (.cells #[.int .i64 (d.shape 0), .int .i64 (d.shape 1), .int .i64 (d.shape 2), .int .i64 (d.shape 3), .int .i64 (d.shape 4), .int .i64 (d.shape 5), .int .i64 (d.shape 6), .int .i64 (d.shape 7), .int .i64 (d.shape 8), .slice (some ⟨b1, off1, none⟩) d.groups.1 cap1, .slice ao2 d.on.1 cap2, .slice ao3 d.tapes.1 cap3, .int .i64 d.writes, .int .i64 d.stop, .bool d.down] 37))
  rw [show d.shape 2 + d.shape 3 = ((d.groups.2 G).1 : Int) by rw [HD.out, HS.out, HN.out]; omega] at CG
  unfold shapeV at CG
  go_enter Tryz.func62, Tryz.ntmps62
  go_wp2_with fail
  refine CG.mono ?_
  rintro e w1 ⟨rfl, q1⟩
  have T1 := T0.call q1
  have zw1 : w.heap.size < w1.heap.size := T1.b1.lt
  clear CG T0 q1 c0' x_0 x_1 x_2 x_3 x_4 x_5 x_6 x_7 x_8
  obtain ⟨w2, hrun, hP, bm⟩ := run_makeT el_Bytes (fun _ => (0, fun _ => 0)) (fun _ => []) w1 (d.groups.2 G).1 (by omega)
  have T2 := T1.call bm
  have V2 : View layBytes 91 w2 w1.heap.size hi (.slice (some ⟨w1.heap.size, 0, none⟩) (d.groups.2 G).1 (d.groups.2 G).1) (d.groups.2 G).1 (rowK (d.groups.2 G).2 (d.groups.2 G).1 R 0) (fun _ => [.slice none 0 0]) := ⟨hP.row, fun i hi => by unfold rowK; rw [if_neg (by omega)]; exact rd_nilB _ _⟩
  have x9 := T2.b1.cell 9
  have c0' := (T2.bel.cell (p := ⟨b1, off1 + G, none⟩) (by show b1 < w.heap.size; omega)).trans c0
  have zw2 : w1.heap.size < w2.heap.size := hP.lt
  clear hP bm T1
  go_wp2
  go_loopw [20] (fun i wr => ∃ (k : Nat) (ce : Nat → List Value), k ≤ (d.groups.2 G).1 ∧ i = .int .i64 k ∧ View layBytes 91 wr w1.heap.size hi (.slice (some ⟨w1.heap.size, 0, none⟩) (d.groups.2 G).1 (d.groups.2 G).1) (d.groups.2 G).1 (rowK (d.groups.2 G).2 (d.groups.2 G).1 R k) ce ∧ One w wr #[.int .i64 (d.shape 0), .int .i64 (d.shape 1), .int .i64 (d.shape 2), .int .i64 (d.shape 3), .int .i64 (d.shape 4), .int .i64 (d.shape 5), .int .i64 (d.shape 6), .int .i64 (d.shape 7), .int .i64 (d.shape 8), .slice (some ⟨b1, off1, none⟩) d.groups.1 cap1, .slice ao2 d.on.1 cap2, .slice ao3 d.tapes.1 cap3, .int .i64 d.writes, .int .i64 d.stop, .bool d.down] 37) (fun i _ => (d.groups.2 G).1 - (intOf i).toNat)
  case atStart => exact ⟨0, _, Nat.zero_le _, rfl, V2, T2⟩
  case round =>
    clear T2 V2 x9 c0' hrun
    obtain ⟨k, ce, hk, rfl, V, T⟩ := hrel
    have HT : Hid (One w wr #[.int .i64 (d.shape 0), .int .i64 (d.shape 1), .int .i64 (d.shape 2), .int .i64 (d.shape 3), .int .i64 (d.shape 4), .int .i64 (d.shape 5), .int .i64 (d.shape 6), .int .i64 (d.shape 7), .int .i64 (d.shape 8), .slice (some ⟨b1, off1, none⟩) d.groups.1 cap1, .slice ao2 d.on.1 cap2, .slice ao3 d.tapes.1 cap3, .int .i64 d.writes, .int .i64 d.stop, .bool d.down] 37) := T
    have HV : Hid (View layBytes 91 wr w1.heap.size hi (.slice (some ⟨w1.heap.size, 0, none⟩) (d.groups.2 G).1 (d.groups.2 G).1) (d.groups.2 G).1 (rowK (d.groups.2 G).2 (d.groups.2 G).1 R k) ce) := V
    have zr : w1.heap.size < wr.heap.size := (V.row.lt w1.heap.size rfl).2
    by_cases hlt : k < (d.groups.2 G).1
    · have t1 : (k : Int) < ((d.groups.2 G).1 : Int) := by omega
      have HLT : Hid (k < (d.groups.2 G).1) := hlt
      obtain ⟨b, off, rfl, hblt, hcell⟩ := hc9 (by omega)
      obtain ⟨cd, hrd, hcd⟩ := hcell k hlt
      obtain ⟨ao5, cap5, rfl, g5⟩ := Drive_rd hrd
      have hRk : R < ((d.groups.2 G).2 k).blocks.1 := hR k hlt
      obtain ⟨_, _, e5, hm5, hc5⟩ := g5
      cases e5
      obtain ⟨b5, off5, he5, hb5, hel5⟩ := hc5 (by omega)
      subst he5
      obtain ⟨cb, hrb, hcb⟩ := hel5 R hRk
      obtain ⟨ao0, cap0, rfl, hrB, -⟩ := Block_rd hrb
      have c2 : wr.cell? ⟨b, off + k * 2, none⟩ = some (.bool ((d.groups.2 G).2 k).wiped) := (T.bel.cell (p := ⟨b, off + k * 2, none⟩) (by show b < w.heap.size; omega)).trans (hcd 0 (by decide))
      have c3 : wr.cell? ⟨b, off + k * 2 + 1, none⟩ = some (.slice (some ⟨b5, off5, none⟩) ((d.groups.2 G).2 k).blocks.1 cap5) := (T.bel.cell (p := ⟨b, off + k * 2 + 1, none⟩) (by show b < w.heap.size; omega)).trans (hcd 1 (by decide))
      have c4 : wr.cell? ⟨b5, off5 + R * 2 + 1, none⟩ = some (.slice ao0 (((d.groups.2 G).2 k).blocks.2 R).bytes.1 cap0) := (T.bel.cell (p := ⟨b5, off5 + R * 2 + 1, none⟩) (by show b5 < w.heap.size; omega)).trans (hcb 1 (by decide))
      obtain ⟨D9, hD9⟩ : ∃ D, D = (d.groups.2 G).2 k := ⟨_, rfl⟩
      have HD9 : Hid (D9 = (d.groups.2 G).2 k) := hD9
      rw [← hD9] at c2 c3 c4 hRk hrB
      obtain ⟨y, hy⟩ : ∃ y, y = (D9.blocks.2 R).bytes.1 := ⟨_, rfl⟩
      have HY : Hid (y = (D9.blocks.2 R).bytes.1) := hy
      have HRB : Hid (layBytes.rd w hi (D9.blocks.2 R).bytes [.slice ao0 y cap0]) := by rw [hy]; exact hrB
      rw [← hy] at c4
      have bA : Below wr.heap.size wr (wr.alloc (.cells #[.bool D9.wiped, .slice (some ⟨b5, off5, none⟩) D9.blocks.1 cap5] 76)) := (Below.refl _ _).alloc (Nat.le_refl _) _
      have HT9 : Hid (One w (wr.alloc (.cells #[.bool D9.wiped, .slice (some ⟨b5, off5, none⟩) D9.blocks.1 cap5] 76)) #[.int .i64 (d.shape 0), .int .i64 (d.shape 1), .int .i64 (d.shape 2), .int .i64 (d.shape 3), .int .i64 (d.shape 4), .int .i64 (d.shape 5), .int .i64 (d.shape 6), .int .i64 (d.shape 7), .int .i64 (d.shape 8), .slice (some ⟨b1, off1, none⟩) d.groups.1 cap1, .slice ao2 d.on.1 cap2, .slice ao3 d.tapes.1 cap3, .int .i64 d.writes, .int .i64 d.stop, .bool d.down] 37) := HT.out.call bA
      have HV9 : Hid (View layBytes 91 (wr.alloc (.cells #[.bool D9.wiped, .slice (some ⟨b5, off5, none⟩) D9.blocks.1 cap5] 76)) w1.heap.size hi (.slice (some ⟨w1.heap.size, 0, none⟩) (d.groups.2 G).1 (d.groups.2 G).1) (d.groups.2 G).1 (rowK (d.groups.2 G).2 (d.groups.2 G).1 R k) ce) := V.below bA (by omega)
      have c4' : (wr.alloc (.cells #[.bool D9.wiped, .slice (some ⟨b5, off5, none⟩) D9.blocks.1 cap5] 76)).cell? ⟨b5, off5 + R * 2 + 1, none⟩ = some (.slice ao0 y cap0) := (bA.cell (p := ⟨b5, off5 + R * 2 + 1, none⟩) (by have := T.b1.lt; show b5 < wr.heap.size; omega)).trans c4
      have fz := HV9.out.row.frozenAt k
      obtain ⟨uk, huk, _⟩ := V.each k hlt
      have ck0 := HV9.out.cell hlt (j := 0) (by decide)
      rw [huk, show k * layBytes.sz + 0 = k by show k * 1 + 0 = k; omega, show ([uk] : List Value)[0]? = some uk from rfl] at ck0
      have j1 : (0 : Int) ≤ (R : Int) := by omega
      have j2 : (R : Int) < (D9.blocks.1 : Int) := by omega
      clear hc9 hcell hcd hrd hcb hrb hel5 hc5 hm5 T V hD9 hy bA hrB huk
      cases hw : D9.wiped with
      | true =>
        rw [hw] at c2 HT9 c4' HV9 fz ck0
        have HW : Hid (D9.wiped = true) := hw
        clear hw
        go_wp2
        go_roundw
        case rel => exact ⟨k + 1, ce, by omega, by go_num, HV9.out.congr (fun i hi => rowK_skip (by rw [← HD9.out]; exact HW.out) i), HT9.out⟩
        case measure => simp [intOf]; omega
      | false =>
        rw [hw] at c2 HT9 c4' HV9 fz ck0
        have HW : Hid (D9.wiped = false) := hw
        clear hw
        have HE : Hid (rowX (d.groups.2 G).2 (d.groups.2 G).1 R k = (D9.blocks.2 R).bytes) := by
          show rowX (d.groups.2 G).2 (d.groups.2 G).1 R k = (D9.blocks.2 R).bytes
          rw [rowX_there HLT.out (by rw [← HD9.out]; exact HW.out), HD9.out]
        have VS := HV.out.store1 rfl (by omega) HLT.out (u := .slice ao0 y cap0) (a := rowX (d.groups.2 G).2 (d.groups.2 G).1 R k) (by
          rw [HE.out]
          exact layBytes.rd_below HRB.out HT.out.bel (by omega))
        have TS : One w (wr.setCell ⟨w1.heap.size, k, none⟩ (.slice ao0 y cap0)) #[.int .i64 (d.shape 0), .int .i64 (d.shape 1), .int .i64 (d.shape 2), .int .i64 (d.shape 3), .int .i64 (d.shape 4), .int .i64 (d.shape 5), .int .i64 (d.shape 6), .int .i64 (d.shape 7), .int .i64 (d.shape 8), .slice (some ⟨b1, off1, none⟩) d.groups.1 cap1, .slice ao2 d.on.1 cap2, .slice ao3 d.tapes.1 cap3, .int .i64 d.writes, .int .i64 d.stop, .bool d.down] 37 := ⟨HT.out.b1.below VS.2 zw1, HT.out.bel.trans (VS.2.mono (by omega))⟩
        have bS : Below (wr.setCell ⟨w1.heap.size, k, none⟩ (.slice ao0 y cap0)).heap.size (wr.setCell ⟨w1.heap.size, k, none⟩ (.slice ao0 y cap0)) ((wr.setCell ⟨w1.heap.size, k, none⟩ (.slice ao0 y cap0)).alloc (.cells #[.bool false, .slice (some ⟨b5, off5, none⟩) D9.blocks.1 cap5] 76)) := (Below.refl _ _).alloc (Nat.le_refl _) _
        have HVS : Hid (View layBytes 91 ((wr.setCell ⟨w1.heap.size, k, none⟩ (.slice ao0 y cap0)).alloc (.cells #[.bool false, .slice (some ⟨b5, off5, none⟩) D9.blocks.1 cap5] 76)) w1.heap.size hi (.slice (some ⟨w1.heap.size, 0, none⟩) (d.groups.2 G).1 (d.groups.2 G).1) (d.groups.2 G).1 (rowK (d.groups.2 G).2 (d.groups.2 G).1 R (k + 1)) (upd ce k [.slice ao0 y cap0])) := (VS.1.congr (fun i _ => rowK_next i)).below bS (by have := (VS.1.row.lt w1.heap.size rfl).2; omega)
        have HTS : Hid (One w ((wr.setCell ⟨w1.heap.size, k, none⟩ (.slice ao0 y cap0)).alloc (.cells #[.bool false, .slice (some ⟨b5, off5, none⟩) D9.blocks.1 cap5] 76)) #[.int .i64 (d.shape 0), .int .i64 (d.shape 1), .int .i64 (d.shape 2), .int .i64 (d.shape 3), .int .i64 (d.shape 4), .int .i64 (d.shape 5), .int .i64 (d.shape 6), .int .i64 (d.shape 7), .int .i64 (d.shape 8), .slice (some ⟨b1, off1, none⟩) d.groups.1 cap1, .slice ao2 d.on.1 cap2, .slice ao3 d.tapes.1 cap3, .int .i64 d.writes, .int .i64 d.stop, .bool d.down] 37) := TS.call bS
        clear VS TS bS HV9 HT9
        go_wp2
        go_roundw
        case rel => exact ⟨k + 1, _, by omega, by go_num, HVS.out, HTS.out⟩
        case measure => simp [intOf]; omega
    · obtain rfl : k = (d.groups.2 G).1 := by omega
      have x2 : wr.cell? ⟨w.heap.size, 2, none⟩ = some (.int .i64 (d.shape 2)) := T.b1.cell 2
      have x3 : wr.cell? ⟨w.heap.size, 3, none⟩ = some (.int .i64 (d.shape 3)) := T.b1.cell 3
      have RM : RdM wr wr.heap.size (.slice (some ⟨w1.heap.size, 0, none⟩) (d.groups.2 G).1 (d.groups.2 G).1) (d.groups.2 G).1 (rowN (d.groups.2 G).2 (d.groups.2 G).1 R) (rowM (d.groups.2 G).2 (d.groups.2 G).1 R) := (V.congr (fun i hi => rowK_all i hi)).rdM (by omega)
      have CD := implDecode_rd (d.shape 2) (d.shape 3) _ _ _ _ wr.heap.size wr RM (Nat.le_refl _) HKF.out
      have fB : ∀ (x : Int) (v : Value) (w' : World), (Instr.field 130 (.agg #[.int .i64 x, v]) 1).run Tryz.prog w' = .ok v w' := fun x v w' => by kernel_rfl
      clear hlt T V RM hc9
      go_wp2_with fail
      refine CD.mono ?_
      rintro e w3 ⟨x, v3, rfl, hans, o3, b3⟩
      have hx0 : x = 0 := hans.one (.inr (.inr ⟨.inr (.inr ⟨rfl, by rw [HD.out, HS.out]; exact ⟨by omega, by omega, by omega, by omega⟩, by rw [HD.out, HS.out, HN.out]; omega, HFour.out⟩), by rw [HD.out]; exact HCNT.out, rfl⟩))
      subst hx0
      have HO : Hid (Own w3 wr.heap.size w3.heap.size v3 (4 * (d.shape 2).toNat) (rowB d G R)) := o3
      have HB : Hid (Below w.heap.size w w3) := HT.out.bel.trans (b3.mono HT.out.bel.size)
      have zz := HT.out.bel.size
      obtain ⟨ao3, cap3, rfl⟩ := o3.slice
      clear o3 hans b3 CD x2 x3
      have f3 := fun w' => fB 0 (.slice ao3 (4 * (d.shape 2).toNat) cap3) w'
      clear fB
      unfold bytesR
      go_wp2
      go_ret
      exact ⟨_, rfl, HO.out.weaken (by omega) (Nat.le_refl _), HB.out⟩
def L7BPost (d : WorldD) (G R : Nat) (w : World) (e : Ending) (w' : World) : Prop := ∃ v b, e = .returned (.tuple #[v, .bool b]) ∧ (b = true ↔ ¬ DeadP d G) ∧ Own w' w.heap.size w'.heap.size v (if b = true then 4 * (d.shape 2).toNat else 0) (rowB d G R) ∧ Below w.heap.size w w'
set_option maxHeartbeats 8000000 in
set_option maxRecDepth 20000 in
theorem l7Bytes_any (d : WorldD) (cs : List Value) (hi B : Nat) (G R : Nat) (w : World) (h : layWorld.rd w hi d cs) (hhi : hi ≤ w.heap.size) (hB : Box w B cs.toArray 37) (hG : G < d.groups.1) (hR : ∀ k, k < (d.groups.2 G).1 → R < ((d.groups.2 G).2 k).blocks.1) (hok : OkWorld d) :
    Calls Tryz.prog 58 #[.pointer (some ⟨B, 0, none⟩), .int .i64 (G : Int), .int .i64 (R : Int)] w (L7BPost d G R w) := by
  have kf := rowM_byt h hG hR
  obtain ⟨D, S, hD, hS, hn, d1, d2, s2, h4'⟩ := row_facts hok hG
  have h4 := h4' R hR
  have HND : Hid (¬ DeadP d G ↔ D ≤ cntN (rowN (d.groups.2 G).2 (d.groups.2 G).1 R) (d.groups.2 G).1) := not_dead (R := R) hD hS hn h4
  have HFour : Hid (∀ i, i < (d.groups.2 G).1 → rowN (d.groups.2 G).2 (d.groups.2 G).1 R i = 0 ∨ rowN (d.groups.2 G).2 (d.groups.2 G).1 R i = 4) := rowN_four h4
  have HKF : Hid (Byt (rowM (d.groups.2 G).2 (d.groups.2 G).1 R)) := kf
  have HD : Hid (d.shape 2 = (D : Int)) := hD
  have hn6 : (d.groups.2 G).1 ≤ 6 := by omega
  have hn5 : (d.groups.2 G).1 ≤ D + 2 := by omega
  clear h4 h4' kf hD hS hn hok
  obtain ⟨ao1, cap1, ao2, cap2, ao3, cap3, rfl, g1, g2, g3, k0, k4, k5⟩ := World_rd h
  obtain ⟨_, _, e1, hm1, hc1⟩ := g1
  cases e1
  obtain ⟨b1, off1, he1, hb1, hel1⟩ := hc1 (by omega)
  subst he1
  obtain ⟨cg, hrg, hcg⟩ := hel1 G hG
  obtain ⟨ao9, cap9, rfl⟩ := sl_form hrg
  have c0 : w.cell? ⟨b1, off1 + G, none⟩ = some (.slice ao9 (d.groups.2 G).1 cap9) := by
    have := hcg 0 (by decide)
    have e : off1 + (G * (layDrive.slice 76).sz + 0) = off1 + G := by show off1 + (G * 1 + 0) = off1 + G; omega
    rw [e] at this
    exact this
  obtain ⟨_, _, e9, hm9, hc9⟩ := hrg
  cases e9
  unfold maxLen at hm9
  have i1 : (0 : Int) ≤ (G : Int) := by omega
  have i2 : (G : Int) < (d.groups.1 : Int) := by omega
  clear g2 g3 k0 k4 k5 hcg hel1 hc1 hm1
  have hBlt := hB.lt
  have HBX : Hid (Box w B #[.int .i64 (d.shape 0), .int .i64 (d.shape 1), .int .i64 (d.shape 2), .int .i64 (d.shape 3), .int .i64 (d.shape 4), .int .i64 (d.shape 5), .int .i64 (d.shape 6), .int .i64 (d.shape 7), .int .i64 (d.shape 8), .slice (some ⟨b1, off1, none⟩) d.groups.1 cap1, .slice ao2 d.on.1 cap2, .slice ao3 d.tapes.1 cap3, .int .i64 d.writes, .int .i64 d.stop, .bool d.down] 37) := hB
  clear hB
  go_enter Tryz.func58, Tryz.ntmps58
  go_wp2
  go_loopw [8, 9] (fun v i wr => ∃ (k : Nat) (ce : Nat → List Value), k ≤ (d.groups.2 G).1 ∧ i = .int .i64 k ∧ View layBytes 91 wr w.heap.size hi v k (rowX (d.groups.2 G).2 (d.groups.2 G).1 R) ce ∧ Below w.heap.size w wr) (fun _ i _ => (d.groups.2 G).1 - (intOf i).toNat)
  case atStart => exact ⟨0, fun _ => [], Nat.zero_le _, rfl, View.lit0 _ _ w hi, (Below.refl _ _).alloc (Nat.le_refl _) _⟩
  case round =>
    obtain ⟨k, ce, hk, rfl, V, bw⟩ := hrel
    have x9 : wr.cell? ⟨B, 9, none⟩ = some (.slice (some ⟨b1, off1, none⟩) d.groups.1 cap1) := (bw.cell (p := ⟨B, 9, none⟩) hBlt).trans (HBX.out.cell 9)
    have c0' := (bw.cell (p := ⟨b1, off1 + G, none⟩) (by show b1 < w.heap.size; omega)).trans c0
    have zr := bw.size
    have HV : Hid (View layBytes 91 wr w.heap.size hi u8 k (rowX (d.groups.2 G).2 (d.groups.2 G).1 R) ce) := V
    have HBW : Hid (Below w.heap.size w wr) := bw
    obtain ⟨aoV, capV, hvf⟩ := V.form
    subst hvf
    by_cases hlt : k < (d.groups.2 G).1
    · have t1 : (k : Int) < ((d.groups.2 G).1 : Int) := by omega
      have HLT : Hid (k < (d.groups.2 G).1) := hlt
      obtain ⟨b, off, rfl, hblt, hcell⟩ := hc9 (by omega)
      obtain ⟨cd, hrd, hcd⟩ := hcell k hlt
      obtain ⟨ao5, cap5, rfl, g5⟩ := Drive_rd hrd
      have hRk : R < ((d.groups.2 G).2 k).blocks.1 := hR k hlt
      obtain ⟨_, _, e5, hm5, hc5⟩ := g5
      cases e5
      obtain ⟨b5, off5, he5, hb5, hel5⟩ := hc5 (by omega)
      subst he5
      obtain ⟨cb, hrb, hcb⟩ := hel5 R hRk
      obtain ⟨ao0, cap0, rfl, hrB, -⟩ := Block_rd hrb
      have c2 : wr.cell? ⟨b, off + k * 2, none⟩ = some (.bool ((d.groups.2 G).2 k).wiped) := (bw.cell (p := ⟨b, off + k * 2, none⟩) (by show b < w.heap.size; omega)).trans (hcd 0 (by decide))
      have c3 : wr.cell? ⟨b, off + k * 2 + 1, none⟩ = some (.slice (some ⟨b5, off5, none⟩) ((d.groups.2 G).2 k).blocks.1 cap5) := (bw.cell (p := ⟨b, off + k * 2 + 1, none⟩) (by show b < w.heap.size; omega)).trans (hcd 1 (by decide))
      have c4 : wr.cell? ⟨b5, off5 + R * 2 + 1, none⟩ = some (.slice ao0 (((d.groups.2 G).2 k).blocks.2 R).bytes.1 cap0) := (bw.cell (p := ⟨b5, off5 + R * 2 + 1, none⟩) (by show b5 < w.heap.size; omega)).trans (hcb 1 (by decide))
      obtain ⟨D9, hD9⟩ : ∃ D, D = (d.groups.2 G).2 k := ⟨_, rfl⟩
      have HD9 : Hid (D9 = (d.groups.2 G).2 k) := hD9
      rw [← hD9] at c2 c3 c4 hRk hrB
      obtain ⟨y, hy⟩ : ∃ y, y = (D9.blocks.2 R).bytes.1 := ⟨_, rfl⟩
      have HY : Hid (y = (D9.blocks.2 R).bytes.1) := hy
      have HRB : Hid (layBytes.rd w hi (D9.blocks.2 R).bytes [.slice ao0 y cap0]) := by rw [hy]; exact hrB
      rw [← hy] at c4
      have j1 : (0 : Int) ≤ (R : Int) := by omega
      have j2 : (R : Int) < (D9.blocks.1 : Int) := by omega
      clear hc9 hcell hcd hrd hcb hrb hel5 hc5 hm5 V hD9 hy hrB bw
      cases hw : D9.wiped with
      | true =>
        rw [hw] at c2
        have HW : Hid (D9.wiped = true) := hw
        clear hw
        have bA : Below wr.heap.size wr (wr.alloc (.cells #[.slice none 0 0] 91)) := (Below.refl _ _).alloc (Nat.le_refl _) _
        obtain ⟨v3, w3, hrun, V3, _, b3⟩ := run_appendV el_Bytes rdOne_bytes 97 (HV.out.below bA (by omega)) 1 (src_one (b := wr.heap.size) (hi := hi) (y := (0, fun _ => 0)) (cs := [.slice none 0 0]) (fun j hj => by simp) (rd_nilB _ _)) (by simp; omega) (by omega) (by omega) (fun h => by cases h)
        have HV3 : Hid (View layBytes 91 w3 w.heap.size hi v3 (k + 1) (rowX (d.groups.2 G).2 (d.groups.2 G).1 R) _) := V3.congr (rowK_cat (rowX_wiped (by rw [← HD9.out]; exact HW.out)).symm)
        have HB3 : Hid (Below w.heap.size w w3) := (HBW.out.trans (bA.mono zr)).trans b3
        clear V3 b3 bA
        go_wp2_with (at_builtin; refine wp_run2 rfl (.tmp 34) (.tmp 35) rfl ?_ ?_ hrun ?_; (simp [Act.eval]); (simp [Act.eval]))
        clear hrun
        go_wp2
        go_roundw
        case rel => exact ⟨k + 1, _, by omega, by go_num, HV3.out, HB3.out⟩
        case measure => simp [intOf]; omega
      | false =>
        rw [hw] at c2
        have HW : Hid (D9.wiped = false) := hw
        clear hw
        have bA : Below wr.heap.size wr (wr.alloc (.cells #[.slice ao0 y cap0] 91)) := (Below.refl _ _).alloc (Nat.le_refl _) _
        obtain ⟨v3, w3, hrun, V3, _, b3⟩ := run_appendV el_Bytes rdOne_bytes 97 (HV.out.below bA (by omega)) 1 (src_one (b := wr.heap.size) (hi := hi) (y := (D9.blocks.2 R).bytes) (cs := [.slice ao0 y cap0]) (fun j hj => by simp) (by
          exact layBytes.rd_below HRB.out (HBW.out.trans (bA.mono zr)) (by omega))) (by simp; omega) (by omega) (by omega) (fun h => by cases h)
        have HV3 : Hid (View layBytes 91 w3 w.heap.size hi v3 (k + 1) (rowX (d.groups.2 G).2 (d.groups.2 G).1 R) _) := V3.congr (rowK_cat (by
          rw [rowX_there HLT.out (by rw [← HD9.out]; exact HW.out), HD9.out]))
        have HB3 : Hid (Below w.heap.size w w3) := (HBW.out.trans (bA.mono zr)).trans b3
        clear V3 b3 bA
        go_wp2_with (at_builtin; refine wp_run2 rfl (.tmp 37) (.tmp 53) rfl ?_ ?_ hrun ?_; (simp [Act.eval]); (simp [Act.eval]))
        clear hrun
        go_wp2
        go_roundw
        case rel => exact ⟨k + 1, _, by omega, by go_num, HV3.out, HB3.out⟩
        case measure => simp [intOf]; omega
    · obtain rfl : k = (d.groups.2 G).1 := by omega
      have x2 : wr.cell? ⟨B, 2, none⟩ = some (.int .i64 (d.shape 2)) := (bw.cell (p := ⟨B, 2, none⟩) hBlt).trans (HBX.out.cell 2)
      have RM : RdM wr wr.heap.size (.slice aoV (d.groups.2 G).1 capV) (d.groups.2 G).1 (rowN (d.groups.2 G).2 (d.groups.2 G).1 R) (rowM (d.groups.2 G).2 (d.groups.2 G).1 R) := V.rdM (by omega)
      have CD := l2Decode_any D _ _ _ _ wr.heap.size wr RM (Nat.le_refl _) d1 d2 hn5 HFour.out HKF.out
      rw [HD.out] at x2
      clear hlt V RM hc9 bw
      go_wp2_with fail
      refine CD.mono ?_
      rintro e w3 ⟨v3, t3, rfl, ht3, o3, b3⟩
      have HO : Hid (Own w3 wr.heap.size w3.heap.size v3 (if t3 = true then 4 * (d.shape 2).toNat else 0) (rowB d G R)) := by
        show Own w3 wr.heap.size w3.heap.size v3 _ (rowB d G R)
        unfold rowB
        rw [show (d.shape 2).toNat = D by rw [HD.out]; rfl]
        exact o3
      have HT3 : Hid (t3 = true ↔ ¬ DeadP d G) := ht3.trans HND.out.symm
      have HB : Hid (Below w.heap.size w w3) := HBW.out.trans (b3.mono zr)
      cases t3 with
      | false =>
        simp only [Bool.false_eq_true, if_false] at o3
        obtain ⟨ao3, cap3, rfl⟩ := o3.slice
        clear o3 ht3 b3 CD x2 x9 c0'
        go_wp2
        go_ret2
        exact ⟨_, false, rfl, HT3.out, HO.out.weaken (by omega) (Nat.le_refl _), HB.out⟩
      | true =>
        simp only [if_pos] at o3
        obtain ⟨ao3, cap3, rfl⟩ := o3.slice
        clear o3 ht3 b3 CD x2 x9 c0'
        go_wp2
        go_ret2
        exact ⟨_, true, rfl, by simpa using HT3.out, HO.out.weaken (by omega) (Nat.le_refl _), HB.out⟩
end Go.Proofs.YtkijpgfmjogagaaGreat
namespace Go.Proofs.YtkijpgfmjogagaaGreat
open Go.RowKit F256
def joinN (f : Mat) : Nat → Nat := fun t => f (t / 4) (t % 4)
theorem joinN_at (f : Mat) (k i : Nat) (hi : i < 4) : joinN f (4 * k + i) = f k i := by
  unfold joinN
  rw [show (4 * k + i) / 4 = k by omega, show (4 * k + i) % 4 = i by omega]
end Go.Proofs.YtkijpgfmjogagaaGreat
namespace Go.Proofs.YtkijpgfmjogagaaGreat
open Go.RowKit F256
end Go.Proofs.YtkijpgfmjogagaaGreat
namespace Go.Proofs.YtkijpgfmjogagaaGreat
open Go.RowKit F256
def rowAt (h i : Nat) : Value := .slice (some ⟨h, 4 * i, none⟩) 4 4
structure FlatE (w : World) (lo hi : Nat) (v : Value) (R : Nat) (f : Mat) (g cap h C : Nat) : Prop where
  val : v = .slice (some ⟨g, 0, none⟩) R cap
  low : lo ≤ g
  high : g < hi
  row : w.ownsRow lo 91 1 v R (valsOf R (rowAt h))
  flat : Own w h (h + 1) (.slice (some ⟨h, 0, none⟩) (4 * R) C) (4 * R) (joinN f)
  hlow : lo ≤ h
  hhigh : h < hi
  ne : h ≠ g
theorem FlatE.blocks {w : World} {lo hi : Nat} {v : Value} {R : Nat} {f : Mat} {g cap h C : Nat} (H : FlatE w lo hi v R f g cap h C) : g < w.heap.size ∧ h < w.heap.size := by
  refine ⟨?_, (H.flat.1.lt h rfl).2⟩
  have h1 := H.row
  rw [H.val] at h1
  exact (h1.lt g rfl).2
theorem FlatE.kept {w w' : World} {lo hi : Nat} {v : Value} {R : Nat} {f : Mat} {g cap h C : Nat} (H : FlatE w lo hi v R f g cap h C) (h1 : w'.heap[g]? = w.heap[g]?) (h2 : w'.heap[h]? = w.heap[h]?) : FlatE w' lo hi v R f g cap h C := by
  refine ⟨H.val, H.low, H.high, row_kept H.row fun q hq => ?_, H.flat.kept fun q hq => ?_, H.hlow, H.hhigh, H.ne⟩
  · rw [H.val] at hq
    have e1 : g = q := by simpa [Value.ownBlock] using hq
    subst e1
    exact h1
  · have e1 : h = q := by simpa [Value.ownBlock] using hq
    subst e1
    exact h2
theorem FlatE.below {w w' : World} {lo hi B : Nat} {v : Value} {R : Nat} {f : Mat} {g cap h C : Nat} (H : FlatE w lo hi v R f g cap h C) (hb : Below B w w') (hB : hi ≤ B) : FlatE w' lo hi v R f g cap h C :=
  H.kept (hb.block g (by have := H.high; omega)) (hb.block h (by have := H.hhigh; omega))
theorem FlatE.chg {w w' : World} {lo hi lo' hi' : Nat} {v : Value} {R : Nat} {f : Mat} {g cap h C : Nat} (H : FlatE w lo hi v R f g cap h C) (hb : Chg lo' hi' w w') (hB : hi ≤ lo' ∨ hi' ≤ lo) : FlatE w' lo hi v R f g cap h C := by
  have b := H.blocks
  have h1 := H.high
  have h2 := H.hhigh
  have h3 := H.low
  have h4 := H.hlow
  exact H.kept (hb.block g b.1 (by omega)) (hb.block h b.2 (by omega))
theorem FlatE.alloc {w : World} {lo hi : Nat} {v : Value} {R : Nat} {f : Mat} {g cap h C : Nat} (H : FlatE w lo hi v R f g cap h C) (o : Obj) : FlatE (w.alloc o) lo hi v R f g cap h C :=
  H.kept (Below.heap_alloc w o g H.blocks.1) (Below.heap_alloc w o h H.blocks.2)
theorem FlatE.weaken {w : World} {lo hi lo' hi' : Nat} {v : Value} {R : Nat} {f : Mat} {g cap h C : Nat} (H : FlatE w lo hi v R f g cap h C) (h1 : lo' ≤ lo) (h2 : hi ≤ hi') : FlatE w lo' hi' v R f g cap h C :=
  ⟨H.val, Nat.le_trans h1 H.low, Nat.lt_of_lt_of_le H.high h2, row_weaken H.row h1, H.flat, Nat.le_trans h1 H.hlow, Nat.lt_of_lt_of_le H.hhigh h2, H.ne⟩
theorem FlatE.cell {w : World} {lo hi : Nat} {v : Value} {R : Nat} {f : Mat} {g cap h C : Nat} (H : FlatE w lo hi v R f g cap h C) (i : Nat) (hi : i < R) : w.cell? ⟨g, i, none⟩ = some (rowAt h i) := by
  have hr := H.row
  rw [H.val] at hr
  rw [hr.cellAt i (by omega), valsOf_get R _ i hi]
theorem FlatE.at {w : World} {lo hi : Nat} {v : Value} {R : Nat} {f : Mat} {g cap h C : Nat} (H : FlatE w lo hi v R f g cap h C) (i j : Nat) (hi : i < R) (hj : j < 4) : w.cell? ⟨h, 4 * i + j, none⟩ = some (.int .u8 (f i j)) := by
  rw [H.flat.1.cellAt (4 * i + j) (by omega), cellsOf_get _ _ _ (by omega), joinN_at f i j hj]
theorem FlatE.le {w : World} {lo hi : Nat} {v : Value} {R : Nat} {f : Mat} {g cap h C : Nat} (H : FlatE w lo hi v R f g cap h C) : R ≤ maxLen := by
  rcases H.row.2 with ⟨h1, h2⟩ | ⟨g', cap', cur, h1, _, _, hnc, hcm, _⟩
  · rw [h2]; exact Nat.zero_le _
  · omega
theorem FlatE.rdRow {w : World} {lo hi : Nat} {v : Value} {R : Nat} {f : Mat} {g cap h C : Nat} (H : FlatE w lo hi v R f g cap h C) (i : Nat) (hR : i < R) : Rd w hi (rowAt h i) 4 (f i) :=
  ⟨_, _, rfl, by unfold maxLen; omega, fun _ => ⟨h, 4 * i, rfl, H.hhigh, fun j hj => H.at i j hR hj⟩⟩
theorem FlatE.rd {w : World} {lo hi : Nat} {v : Value} {R : Nat} {f : Mat} {g cap h C : Nat} (H : FlatE w lo hi v R f g cap h C) : RdM w hi v R (fun _ => 4) f :=
  ⟨_, cap, rowAt h, H.val, H.le, fun _ => ⟨g, 0, rfl, H.high, fun i hi => by rw [Nat.zero_add]; exact H.cell i hi⟩, fun i hi => H.rdRow i hi⟩
theorem FlatE.set {w w' : World} {lo hi : Nat} {v : Value} {R : Nat} {f f' : Mat} {g cap h C : Nat} (H : FlatE w lo hi v R f g cap h C) (hf : Own w' h (h + 1) (.slice (some ⟨h, 0, none⟩) (4 * R) C) (4 * R) (joinN f')) (hc : Chg h (h + 1) w w') : FlatE w' lo hi v R f' g cap h C := by
  have b := H.blocks
  have hne := H.ne
  refine ⟨H.val, H.low, H.high, row_kept H.row fun q hq => ?_, hf, H.hlow, H.hhigh, H.ne⟩
  rw [H.val] at hq
  have e1 : g = q := by simpa [Value.ownBlock] using hq
  subst e1
  exact hc.block g b.1 (by omega)
theorem keep_cell {h C N off n b off2 lo hi : Nat} {F G : Nat → Nat} {l : Nat → Nat} {w wr : World} (hs : Own w lo hi (.slice (some ⟨h, 0, none⟩) N C) N F) (hbw : b < w.heap.size) (hoff2 : b = h → off2 + n ≤ N)
    (hbo : (b < lo ∨ hi ≤ b) ∨ (b = h ∧ (off2 + n ≤ off ∨ off + n ≤ off2))) {k : Nat} (hk : k < n) (hl : w.cell? ⟨b, off2 + k, none⟩ = some (.int .u8 (l k)))
    (hw : Own wr lo hi (.slice (some ⟨h, 0, none⟩) N C) N (fun i => if off ≤ i ∧ i < off + k then G i else F i)) (hc : Chg lo hi w wr) : wr.cell? ⟨b, off2 + k, none⟩ = some (.int .u8 (l k)) := by
  rcases hbo with hbo | ⟨rfl, hbo⟩
  · exact (World.cell?_of_block (hc.block b hbw hbo)).trans hl
  · have hN := hoff2 rfl
    rw [hs.1.cellAt (off2 + k) (by omega), cellsOf_get _ _ _ (by omega)] at hl
    rw [hw.1.cellAt (off2 + k) (by omega), cellsOf_get _ _ _ (by omega), if_neg (by omega)]
    exact hl
set_option maxHeartbeats 2000000 in
theorem addScaled_at (h C N off n : Nat) (F l G : Nat → Nat) (c : Nat) (lo hi b off2 cap0 cap : Nat) (w : World) (hs : Own w lo hi (.slice (some ⟨h, 0, none⟩) N C) N F) (hoff : off + n ≤ N) (hhi : hi ≤ w.heap.size) (hbw : b < w.heap.size) (hoff2 : b = h → off2 + n ≤ N)
    (hbo : (b < lo ∨ hi ≤ b) ∨ (b = h ∧ (off2 + n ≤ off ∨ off + n ≤ off2)))
    (hl : ∀ i, i < n → w.cell? ⟨b, off2 + i, none⟩ = some (.int .u8 (l i))) (hlo : lo ≤ h) (hgh : h < hi)
    (kf : ∀ i, F i < 256) (kl : ∀ i, l i < 256) (hc : c < 256) (hg : ∀ i, i < N → G i = if off ≤ i ∧ i < off + n then F i ^^^ mulN c (l (i - off)) else F i) (hn : n ≤ 1000000000) :
    Calls Tryz.prog 97 #[.slice (some ⟨h, off, none⟩) n cap0, .slice (some ⟨b, off2, none⟩) n cap, .int .u8 c] w fun e w' => e = .returned (.tuple #[]) ∧ Own w' lo hi (.slice (some ⟨h, 0, none⟩) N C) N G ∧ Chg lo hi w w' := by
  have HG : Hid (∀ i, i < N → G i = if off ≤ i ∧ i < off + n then F i ^^^ mulN c (l (i - off)) else F i) := hg
  have KC : Hid (∀ (wr : World) (k : Nat), k < n → Own wr lo hi (.slice (some ⟨h, 0, none⟩) N C) N (fun i => if off ≤ i ∧ i < off + k then G i else F i) → Chg lo hi w wr → wr.cell? ⟨b, off2 + k, none⟩ = some (.int .u8 (l k))) := fun wr k hk hw hch => keep_cell hs hbw hoff2 hbo hk (hl k hk) hw hch
  clear hg hl hbo hoff2
  go_enter Tryz.func97, Tryz.ntmps97
  go_wp2_with (go_at_call 119; refine (doublings_any _ hc _).mono ?_; rintro e w1 ⟨rfl, hb1⟩; rw [T8])
  have hz1 := hb1.size
  have hbx : Box (w1.alloc (.cells (tabV c) 147)) w1.heap.size (tabV c) 147 := box_new _ _ _
  have hch : Chg lo hi w (w1.alloc (.cells (tabV c) 147)) := (Below.chg hb1 lo hi).trans (Below.chg ((Below.refl _ _).alloc (Nat.le_refl _) _) lo hi)
  have hown0 := ((hs.below hb1 hhi).alloc (.cells (tabV c) 147)).congr (g := fun i => if off ≤ i ∧ i < off + 0 then G i else F i) (fun i hi => by rw [if_neg (by omega)])
  have hzz : w1.heap.size < (w1.alloc (.cells (tabV c) 147)).heap.size := by simp
  go_loopw [7, 12] (fun _ i wr => ∃ k : Nat, k ≤ n ∧ i = .int .i64 k ∧ Own wr lo hi (.slice (some ⟨h, 0, none⟩) N C) N (fun i => if off ≤ i ∧ i < off + k then G i else F i) ∧ Chg lo hi w wr ∧ Box wr w1.heap.size (tabV c) 147) (fun _ i _ => n - (intOf i).toNat)
  case atStart => exact ⟨0, Nat.zero_le _, rfl, hown0, hch, hbx⟩
  case round =>
    clear hbx hch hown0 hzz
    obtain ⟨k, hk, rfl, hown, hchg, hbox⟩ := hrel
    by_cases hlt : k < n
    · have hck : wr.cell? ⟨b, off2 + k, none⟩ = some (.int .u8 (l k)) := KC.out wr k hlt hown hchg
      have hco : wr.cell? ⟨h, off + k, none⟩ = some (.int .u8 (F (off + k))) := by
        have := hown.1.cellAt (off + k) (by omega)
        rw [this, cellsOf_get _ _ _ (by omega), if_neg (by omega)]
      have hfo : wr.frozen? ⟨h, off + k, none⟩ = false := hown.1.frozenAt (off + k)
      have hlk := kl k
      have hx : bits .xor .u8 (F (off + k) : Int) (mulN c (l k) : Int) = ((G (off + k) : Nat) : Int) := by rw [u8_xor_nat _ _ (kf _) (mulN_lt hc), HG.out (off + k) (by omega), if_pos ⟨by omega, by omega⟩, show off + k - off = k by omega]
      obtain ⟨e0, e1, e2, e3, e4, e5, e6, e7⟩ := box8 hbox
      have hzr := hchg.size
      have hbz := hbox.lt
      have y1 : b < wr.heap.size := by omega
      have y2 : h < wr.heap.size := by omega
      have hoN : off + k < N := by omega
      go_wp2
      go_region_with (go_at_call 120; refine (productFrom_lit _ _ hc hlk _).mono ?_; rintro e w2 ⟨rfl, hb2⟩; have q1 : w2.cell? ⟨h, off + k, none⟩ = some (.int .u8 (F (off + k))) := (hb2.cell (p := ⟨h, off + k, none⟩) y2).trans hco; have q2 : w2.frozen? ⟨h, off + k, none⟩ = false := (hb2.frozen (p := ⟨h, off + k, none⟩) y2).trans hfo)
      all_goals
        have hown2 : Own w2 lo hi (.slice (some ⟨h, 0, none⟩) N C) N (fun i => if off ≤ i ∧ i < off + k then G i else F i) := hown.drew.below hb2 (by show hi ≤ wr.heap.size; omega)
        have R : Own (w2.setCell ⟨h, off + k, none⟩ (.int .u8 (G (off + k)))) lo hi (.slice (some ⟨h, 0, none⟩) N C) N (fun i => if off ≤ i ∧ i < off + (k + 1) then G i else F i) :=
          hown2.store (off + k) (G (off + k)) hoN (fun i _ => by
            by_cases e : i = off + k
            · subst e
              rw [if_pos rfl, if_pos ⟨by omega, by omega⟩]
            · rw [if_neg e]
              by_cases e' : off ≤ i ∧ i < off + k
              · rw [if_pos e', if_pos ⟨e'.1, by omega⟩]
              · rw [if_neg e', if_neg (by omega)])
        have C2 : Chg lo hi wr.drew (w2.setCell ⟨h, off + k, none⟩ (.int .u8 (G (off + k)))) := (Below.chg hb2 lo hi).trans (out_store w2 lo hi h (off + k) _ hlo hgh).chg
        have R2 : Chg lo hi w (w2.setCell ⟨h, off + k, none⟩ (.int .u8 (G (off + k)))) := hchg.drew.trans C2
        have R3 : Box (w2.setCell ⟨h, off + k, none⟩ (.int .u8 (G (off + k)))) w1.heap.size (tabV c) 147 := Box.chg (w := wr.drew) hbox C2 (.inr (by omega))
        clear hown hown2 hchg hbox hb2 C2 e0 e1 e2 e3 e4 e5 e6 e7
        go_wp2
        go_roundw
        case rel => exact ⟨k + 1, by omega, by go_num, R, R2, R3⟩
        case measure => simp [intOf]; omega
    · have hkn : k = n := by omega
      subst hkn
      have hfin := hown.congr (g := G) (fun i hi => by
        by_cases e' : off ≤ i ∧ i < off + k
        · rw [if_pos e']
        · rw [if_neg e', HG.out i hi, if_neg e'])
      clear hown
      go_wp2
      go_end0
      exact ⟨rfl, hfin, hchg⟩
end Go.Proofs.YtkijpgfmjogagaaGreat