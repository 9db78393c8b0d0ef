/- Walks of the program's cutBlocks, blocksOf and EncodeRow. -/
import Derived.Test.YtkijpgfmjogagaaGreatZPgroupan
import Derived.Test.YtkijpgfmjogagaaGreatZPgroupam
import Derived.Test.YtkijpgfmjogagaaGreatZPgroupad
import Derived.Test.YtkijpgfmjogagaaGreatZPgroupaf
import Derived.Test.YtkijpgfmjogagaaGreatZPgroupag
import Derived.Deep.MidRow
import Derived.Test.YtkijpgfmjogagaaGreatZPgroupaa
import Derived.Test.YtkijpgfmjogagaaGreatZPgroupak
import Derived.Test.YtkijpgfmjogagaaGreatZPgroupab
import Derived.Deep.DeepCutAuto
set_option linter.unusedVariables false
set_option linter.unusedSimpArgs false
namespace Go.Proofs.YtkijpgfmjogagaaGreat
open Go.RowKit F256
theorem joinN_cut (b : Nat → Nat) (t : Nat) : joinN (cutN b) t = b t := by
  unfold joinN cutN
  rw [show 4 * (t / 4) + t % 4 = t by omega]
set_option maxHeartbeats 2000000 in
theorem cutBlocks_any (h C R lo hi : Nat) (b : Nat → Nat) (w : World) (hs : Own w lo hi (.slice (some ⟨h, 0, none⟩) (4 * R) C) (4 * R) b) (hhi : hi ≤ w.heap.size) (hR : R ≤ 1000) :
    Calls Tryz.prog 94 #[.slice (some ⟨h, 0, none⟩) (4 * R) C] w fun e w' => ∃ v', e = .returned v' ∧ (∃ cap, FlatE w' lo w'.heap.size v' R (cutN b) w.heap.size cap h C) ∧ Below w.heap.size w w' := by
  have hlt0 := hs.1.lt h rfl
  have hC : 4 * R ≤ C := by
    rcases hs.1.2 with ⟨h', _⟩ | ⟨g', cap', cur, h', _, hg, hle, _⟩
    · cases h'
    · cases h'; exact hle
  have hF : Own w h (h + 1) (.slice (some ⟨h, 0, none⟩) (4 * R) C) (4 * R) (joinN (cutN b)) := (hs.tight).congr (fun i _ => (joinN_cut b i).symm)
  have HF : Hid (Own w h (h + 1) (.slice (some ⟨h, 0, none⟩) (4 * R) C) (4 * R) (joinN (cutN b))) := hF
  have hhw : h < w.heap.size := hlt0.2
  have hlh : lo ≤ h := hlt0.1
  clear hs hF hlt0
  obtain ⟨N, hN⟩ : ∃ N, N = 4 * R := ⟨_, rfl⟩
  rw [← hN]
  have hq0 : (N : Int).tdiv 4 = (N : Int) / 4 := Int.tdiv_eq_ediv_of_nonneg (by omega)
  have hq : (N : Int).tdiv 4 = (R : Int) := by omega
  have HN : Hid (N = 4 * R) := hN
  have hNC : N ≤ C := by omega
  have hN4 : N ≤ 4000 := by omega
  clear hN hC
  go_enter Tryz.func94, Tryz.ntmps94
  go_wp2_with (at_make; refine wp_makeM _ rfl _ _ rfl _ _ R rfl rfl (by first | rfl | omega | simp [hq]) (by first | rfl | omega | simp [hq]) (by omega) ?_; intro w1 hown1 hb1 hz1)
  go_loopw [4, 5, 6, 13] (fun _ _ _ i wr => ∃ k : Nat, k ≤ R ∧ i = .int .i64 k ∧ wr.ownsRow w.heap.size 91 1 (.slice (some ⟨w.heap.size, 0, none⟩) R R) R (valsOf R fun i => if i < k then rowAt h i else nilS) ∧ Below w.heap.size w wr) (fun _ _ _ i _ => R - (intOf i).toNat)
  case atStart => exact ⟨0, Nat.zero_le _, rfl, by rw [valsOf_eq (g := fun _ => nilS) (fun i hi => by simp)]; exact hown1, hb1⟩
  case round =>
    clear hown1 hb1 hz1
    obtain ⟨k, hk, rfl, hrow, hbel⟩ := hrel
    by_cases hlt : k < R
    · obtain ⟨A, hA⟩ : ∃ A, A = 4 * k := ⟨_, rfl⟩
      have a1 : IntKind.i64.wrap ((k : Int) * 4) = (A : Int) := by rw [IntKind.wrap_i64]; omega
      have a3 : IntKind.i64.wrap (((k : Int) + 1) * 4) = (A : Int) + 4 := by rw [IntKind.wrap_i64]; omega
      have a4 : (k : Int) * 4 = (A : Int) := by omega
      have a5 : ((k : Int) + 1) * 4 = (A : Int) + 4 := by omega
      have a6 : (A : Int) + 4 ≤ (C : Int) := by have := HN.out; omega
      have c1 : wr.cell? ⟨w.heap.size, k, none⟩ = some nilS := by rw [hrow.cellAt k (by omega), valsOf_get _ _ _ hlt, if_neg (Nat.lt_irrefl k)]
      have c2 : wr.frozen? ⟨w.heap.size, k, none⟩ = false := hrow.frozenAt k
      have hst := (hrow.stored k (.slice (some ⟨h, A, none⟩) 4 4)).1
      rw [valsOf_set R _ (fun i => if i < k + 1 then rowAt h i else nilS) k _ hlt (fun i hi => by
        by_cases c : i = k
        · subst c; simp [rowAt, hA]
        · by_cases c' : i < k
          · have c2 : i < k + 1 := by omega
            simp [c, c', c2]
          · have c2 : ¬ i < k + 1 := by omega
            simp [c, c', c2])] at hst
      have RB : Below w.heap.size w (wr.setCell ⟨w.heap.size, k, none⟩ (.slice (some ⟨h, A, none⟩) 4 4)) := hbel.setCell (Nat.le_refl _) _
      clear hA hrow hbel
      go_wp2
      go_roundw
      case rel => exact ⟨k + 1, by omega, by go_num, hst, RB⟩
      case measure => simp [intOf]; omega
    · obtain rfl : k = R := by omega
      rw [valsOf_eq (g := rowAt h) (fun i hi => by simp [hi])] at hrow
      have hw2 := (hrow.lt _ rfl).2
      have hsz := hbel.size
      go_wp2
      go_ret
      exact ⟨_, rfl, ⟨k, rfl, by omega, hw2, row_weaken hrow (by omega), HF.out.below hbel (by omega), hlh, by omega, by omega⟩, hbel⟩
def wayN (D : Nat) (b : Nat → Nat) (K M : Nat) : Mat := fun i j => if i < K then encN D b i j else if i = K then mixN (cutN b) (genN D K 0) M j else 0
theorem wayN_byt {D : Nat} {b : Nat → Nat} (kb : ∀ i, b i < 256) (K M : Nat) : Byt (wayN D b K M) := fun i j => by
  unfold wayN
  split
  · exact encN_byt kb i j
  · split
    · exact mixN_lt _ _ (genN_lt D K 0) _ _
    · omega
theorem wayN_start {D S : Nat} {b b0 : Nat → Nat} (h : ∀ i, i < 4 * (D + S) → b0 i = if i < 4 * D then b i else 0) (i j : Nat) (hi : i < D + S) (hj : j < 4) : cutN b0 i j = wayN D b D 0 i j := by
  unfold cutN wayN
  rw [h (4 * i + j) (by omega)]
  by_cases c : i < D
  · rw [if_pos (by omega), if_pos c]
    simp [encN, c, cutN]
  · rw [if_neg (by omega), if_neg c]
    split <;> rfl
theorem wayN_next {D : Nat} {b : Nat → Nat} {K : Nat} (hK : D ≤ K) (i j : Nat) : wayN D b K D i j = wayN D b (K + 1) 0 i j := by
  unfold wayN
  by_cases c : i < K
  · rw [if_pos c, if_pos (by omega)]
  · rw [if_neg c]
    by_cases c2 : i = K
    · subst c2
      rw [if_pos rfl, if_pos (by omega)]
      simp [encN, show ¬ i < D by omega]
    · rw [if_neg c2, if_neg (by omega)]
      split <;> rfl
theorem wayN_data {D : Nat} {b : Nat → Nat} {K M i : Nat} (hK : D ≤ K) (hi : i < D) (j : Nat) : wayN D b K M i j = cutN b i j := by
  unfold wayN
  rw [if_pos (by omega)]
  simp [encN, hi]
theorem wayN_step {D R : Nat} {b : Nat → Nat} {K M : Nat} (hK : D ≤ K) (hM : M < D) (t : Nat) :
    joinN (wayN D b K (M + 1)) t = if 4 * K ≤ t ∧ t < 4 * K + 4 then joinN (wayN D b K M) t ^^^ mulN (genN D K 0 M) (wayN D b K M M (t - 4 * K)) else joinN (wayN D b K M) t := by
  unfold joinN
  by_cases c : 4 * K ≤ t ∧ t < 4 * K + 4
  · rw [if_pos c, wayN_data hK hM]
    have e1 : t / 4 = K := by omega
    have e2 : t % 4 = t - 4 * K := by omega
    rw [e1, e2]
    simp [wayN, mixN]
  · rw [if_neg c]
    have e1 : t / 4 ≠ K := by omega
    simp [wayN, e1]
theorem FlatE.congr {w : World} {lo hi : Nat} {v : Value} {R : Nat} {f f' : Mat} {g cap h C : Nat} (H : FlatE w lo hi v R f g cap h C) (e : ∀ i j, i < R → j < 4 → f i j = f' i j) : FlatE w lo hi v R f' g cap h C :=
  ⟨H.val, H.low, H.high, H.row, H.flat.congr (fun t ht => e (t / 4) (t % 4) (by omega) (by omega)), H.hlow, H.hhigh, H.ne⟩
theorem joined_pad (vb v2 : Value) (n m : Nat) (b : Nat → Nat) (h1 h2 : Nat) (w : World) (r1 : Rd w h1 vb n b) (r2 : Rd w h2 v2 m (fun _ => 0)) (b1 : h1 ≤ w.heap.size) (b2 : h2 ≤ w.heap.size) (hn : n ≤ 1000000) (hm : m ≤ 1000000) :
    Calls Tryz.prog 95 #[vb, v2] w fun e w' => ∃ v', e = .returned v' ∧ Own w' w.heap.size w'.heap.size v' (n + m) (fun i => if i < n then b i else 0) ∧ Below w.heap.size w w' := by
  by_cases h0 : m = 0
  · subst h0
    refine (joined_nil vb v2 n b _ h1 h2 w r1 r2 b1 hn).mono fun e w' ⟨v', he, ho, hb⟩ => ⟨v', he, ?_, hb⟩
    exact ho.congr (fun i hi => by simp [hi])
  · exact joined_some vb v2 n m b (fun _ => 0) (fun i => if i < n then b i else 0) h1 h2 w r1 r2 b1 b2 hn hm (by omega) (fun i _ => rfl)
end Go.Proofs.YtkijpgfmjogagaaGreat
namespace Go.Proofs.YtkijpgfmjogagaaGreat
open Go.RowKit F256
set_option maxHeartbeats 4000000 in
theorem blocksOf_any (D S : Nat) (hD1 : 1 ≤ D) (hD : D ≤ 3) (hS : S ≤ 2) (vb : Value) (b : Nat → Nat) (h1 : Nat) (w : World) (rb : Rd w h1 vb (4 * D) b) (hh : h1 ≤ w.heap.size) (kb : ∀ i, b i < 256) :
    Calls Tryz.prog 61 #[.int .i64 D, .int .i64 S, vb] w fun e w' => ∃ v', e = .returned v' ∧ (∃ g cap h C, FlatE w' w.heap.size w'.heap.size v' (D + S) (encN D b) g cap h C) ∧ Below w.heap.size w w' := by
  have R1 := fun (w1 : World) (hb : Below w.heap.size w w1) => rb.below hb hh
  obtain ⟨aob, capb, rfl, hmb, hcb⟩ := rb
  clear hcb hmb
  have HR1 : Hid (∀ (w1 : World), Below w.heap.size w w1 → Rd w1 h1 (.slice aob (4 * D) capb) (4 * D) b) := R1
  clear R1
  have hs4 : (S : Int) * 4 = ((4 * S : Nat) : Int) := by omega
  obtain ⟨Q, hQ⟩ : ∃ Q, Q = 4 * S := ⟨_, rfl⟩
  rw [← hQ] at hs4
  have HQ : Hid (Q = 4 * S) := hQ
  have hQ8 : Q ≤ 8 := by omega
  obtain ⟨P, hP⟩ : ∃ P, P = 4 * D := ⟨_, rfl⟩
  rw [← hP] at HR1 ⊢
  have HP : Hid (P = 4 * D) := hP
  have hP12 : P ≤ 12 := by omega
  clear hQ hP
  go_enter Tryz.func61, Tryz.ntmps61
  go_wp2_with (at_make; refine wp_makeB _ rfl _ _ rfl _ _ Q rfl rfl (by first | omega | simp [hs4]) (by first | omega | simp [hs4]) (by omega) ?_; intro w1 hown1 hb1 hz1)
  refine (joined_pad _ _ P Q b h1 w1.heap.size w1 (HR1.out w1 hb1) hown1.rd (Nat.le_trans hh hb1.size) (Nat.le_refl _) (by omega) (by omega)).mono ?_
  rintro e w2 ⟨v2, rfl, o2, b2⟩
  have B2 : Below w.heap.size w w2 := hb1.trans (b2.mono hb1.size)
  have hPQ : P + Q = 4 * (D + S) := by rw [HP.out, HQ.out]; omega
  rw [hPQ] at o2
  obtain ⟨h, C, rfl, hlo, hhi, hhw, hcap⟩ := o2.form (by omega)
  have s1 := hb1.size
  have s2 := b2.size
  clear hown1 hb1 b2 hz1
  have CB := cutBlocks_any h C (D + S) w.heap.size w2.heap.size _ w2 (o2.weaken s1 (Nat.le_refl _)) (Nat.le_refl _) (by omega)
  obtain ⟨T, hT⟩ : ∃ T, T = 4 * (D + S) := ⟨_, rfl⟩
  rw [← hT] at CB ⊢
  have HT : Hid (T = 4 * (D + S)) := hT
  clear o2 hT hPQ
  go_wp2_with fail
  refine CB.mono ?_
  rintro e w3 ⟨v3, rfl, ⟨cap3, F3⟩, b3⟩
  have B3 : Below w.heap.size w w3 := B2.trans (b3.mono B2.size)
  have F3' : FlatE w3 w.heap.size w3.heap.size v3 (D + S) (wayN D b D 0) w2.heap.size cap3 h C := F3.congr (fun i j hi hj => wayN_start (S := S) (fun t ht => by rw [← HP.out]) i j hi hj)
  have hv3 := F3.val
  subst hv3
  have z3 : w3.heap.size ≤ w3.heap.size := Nat.le_refl _
  have hgne : h ≠ w2.heap.size := by omega
  clear F3 b3 CB B2 HR1
  go_wp2
  go_loopw [8] (fun p wr => ∃ P : Nat, D ≤ P ∧ P ≤ D + S ∧ p = .int .i64 P ∧ FlatE wr w.heap.size w3.heap.size (.slice (some ⟨w2.heap.size, 0, none⟩) (D + S) cap3) (D + S) (wayN D b P 0) w2.heap.size cap3 h C ∧ Below w.heap.size w wr ∧ w3.heap.size ≤ wr.heap.size) (fun p _ => D + S - (intOf p).toNat)
  case atStart => exact ⟨D, Nat.le_refl _, by omega, rfl, F3', B3, Nat.le_refl _⟩
  case round =>
    clear F3' B3
    obtain ⟨P, hP1, hP2, rfl, hF, hbel, hsz⟩ := hrel
    have hhw3 : h < w3.heap.size := hF.hhigh
    have hgw3 : w2.heap.size < w3.heap.size := hF.high
    by_cases hlt : P < D + S
    · have hlti : (P : Int) < (D : Int) + (S : Int) := by omega
      have CF := factorsAt_any D P (by omega) (by omega) wr
      have HF : Hid (FlatE wr w.heap.size w3.heap.size (.slice (some ⟨w2.heap.size, 0, none⟩) (D + S) cap3) (D + S) (wayN D b P 0) w2.heap.size cap3 h C) := hF
      have HBL : Hid (Below w.heap.size w wr) := hbel
      obtain ⟨wk, hwk⟩ : ∃ wk, wk = wr := ⟨_, rfl⟩
      rw [← hwk] at CF HF HBL hsz ⊢
      clear hF hbel hwk
      go_wp2_with fail
      refine CF.mono ?_
      rintro e w6 ⟨v6, rfl, o6, b6⟩
      obtain ⟨gv, capv, hgv, h61, h62, h63, h64⟩ := o6.form (by omega)
      subst hgv
      have F6 := HF.out.below b6 hsz
      have B6 : Below w.heap.size w w6 := HBL.out.trans (b6.mono HBL.out.size)
      have s6 := b6.size
      clear CF b6 HF HBL
      go_wp2
      go_loopw [29] (fun i wr => ∃ m : Nat, m ≤ D ∧ i = .int .i64 m ∧ FlatE wr w.heap.size w3.heap.size (.slice (some ⟨w2.heap.size, 0, none⟩) (D + S) cap3) (D + S) (wayN D b P m) w2.heap.size cap3 h C ∧ Own wr wk.heap.size w6.heap.size (.slice (some ⟨gv, 0, none⟩) D capv) D (genN D P 0) ∧ Below w.heap.size w wr ∧ w6.heap.size ≤ wr.heap.size) (fun i _ => D - (intOf i).toNat)
      case atStart => exact ⟨0, Nat.zero_le _, rfl, F6, o6, B6, Nat.le_refl _⟩
      case round =>
        clear F6 o6 B6
        obtain ⟨m, hm, rfl, hF, ho, hbel, hsz6⟩ := hrel
        by_cases hmD : m < D
        · obtain ⟨A, hA⟩ : ∃ A, A = 4 * P := ⟨_, rfl⟩
          obtain ⟨B, hB⟩ : ∃ B, B = 4 * m := ⟨_, rfl⟩
          obtain ⟨y, hy⟩ : ∃ y, y = genN D P 0 m := ⟨_, rfl⟩
          have c1 : wr.cell? ⟨w2.heap.size, P, none⟩ = some (.slice (some ⟨h, A, none⟩) 4 4) := by rw [hA]; exact hF.cell P hlt
          have c2 : wr.cell? ⟨w2.heap.size, m, none⟩ = some (.slice (some ⟨h, B, none⟩) 4 4) := by rw [hB]; exact hF.cell m (by omega)
          have c3 : wr.cell? ⟨gv, m, none⟩ = some (.int .u8 y) := by rw [hy]; exact (ho.1.cellAt m (by omega)).trans (cellsOf_get _ _ _ hmD)
          have HF : Hid (FlatE wr w.heap.size w3.heap.size (.slice (some ⟨w2.heap.size, 0, none⟩) (D + S) cap3) (D + S) (wayN D b P m) w2.heap.size cap3 h C) := hF
          have HO : Hid (Own wr wk.heap.size w6.heap.size (.slice (some ⟨gv, 0, none⟩) D capv) D (genN D P 0)) := ho
          have HBL : Hid (Below w.heap.size w wr) := hbel
          have HA : Hid (A = 4 * P) := hA
          have HB : Hid (B = 4 * m) := hB
          have HY : Hid (y = genN D P 0 m) := hy
          have hmS : m < D + S := by omega
          have hhr : h < wr.heap.size := by omega
          have CA : ∀ q, Calls Tryz.prog 97 #[.slice (some ⟨h, A, none⟩) 4 4, .slice (some ⟨h, B, none⟩) 4 4, .int .u8 y] (wr.drewN q) fun e w' => e = .returned (.tuple #[]) ∧ Own w' h (h + 1) (.slice (some ⟨h, 0, none⟩) (4 * (D + S)) C) (4 * (D + S)) (joinN (wayN D b P (m + 1))) ∧ Chg h (h + 1) (wr.drewN q) w' := fun q =>
            addScaled_at h C (4 * (D + S)) A 4 (joinN (wayN D b P m)) (wayN D b P m m) (joinN (wayN D b P (m + 1))) y h (h + 1) h B 4 4 (wr.drewN q) hF.flat (by omega) hhr hhr (fun _ => by omega) (.inr ⟨rfl, .inl (by omega)⟩) (fun i hi => by rw [hB]; exact hF.at m i hmS hi) (Nat.le_refl _) (Nat.lt_succ_self _)
              (fun i => wayN_byt kb P m _ _) (fun i => wayN_byt kb P m _ _) (by rw [hy]; exact genN_lt D P 0 m) (fun t _ => by rw [hA, hy]; exact wayN_step (R := 0) hP1 hmD t) (by omega)
          have CA1 := CA 1
          clear hF ho hbel hA hB hy CA
          go_wp2
          go_region_with (go_at_call 97; refine CA1.mono ?_; rintro e w7 ⟨rfl, o7, ch7⟩)
          all_goals
            have F7 := (HF.out.kept (w' := wr.drewN 1) rfl rfl).set o7 ch7
            have O7 : Own w7 wk.heap.size w6.heap.size (.slice (some ⟨gv, 0, none⟩) D capv) D (genN D P 0) := (show Own (wr.drewN 1) wk.heap.size w6.heap.size (.slice (some ⟨gv, 0, none⟩) D capv) D (genN D P 0) from HO.out).chg ch7 (.inr (by omega))
            have B7 : Below w.heap.size w w7 := (below_drewN HBL.out 1).trans (ch7.below (by omega) HBL.out.size)
            have S7 : w6.heap.size ≤ w7.heap.size := Nat.le_trans hsz6 ch7.size
            clear o7 ch7 HF HO HBL CA1 c1 c2 c3
            go_wp2
            go_roundw
            case rel => exact ⟨m + 1, by omega, by go_num, F7, O7, B7, S7⟩
            case measure => simp [intOf]; omega
        · obtain rfl : m = D := by omega
          have F8 := hF.congr (f' := wayN m b (P + 1) 0) (fun i j _ _ => wayN_next hP1 i j)
          clear hF ho
          go_wp2
          go_roundw
          case rel => exact ⟨P + 1, by omega, by omega, by go_num, F8, hbel, by omega⟩
          case measure => simp [intOf]; omega
    · obtain rfl : P = D + S := by omega
      have F9 := hF.congr (f' := encN D b) (fun i j hi _ => by simp [wayN, hi])
      have hlti : ¬ (((D + S : Nat) : Int) < (D : Int) + (S : Int)) := by omega
      clear hF
      go_wp2
      go_ret
      exact ⟨_, rfl, ⟨_, _, _, _, F9.weaken (Nat.le_refl _) hsz⟩, hbel⟩
end Go.Proofs.YtkijpgfmjogagaaGreat
namespace Go.Proofs.YtkijpgfmjogagaaGreat
open Go.RowKit F256
set_option maxHeartbeats 1000000 in
theorem equalB_any (v1 v2 : Value) (n m : Nat) (f g : Nat → Nat) (h1 h2 : Nat) (w : World) (r1 : Rd w h1 v1 n f) (r2 : Rd w h2 v2 m g) :
    Calls Tryz.prog 63 #[v1, v2] w (BoolP (SameP n m f g) w) := by
  obtain ⟨ao, cap, rfl, hm, hc⟩ := r1
  obtain ⟨ao2, cap2, rfl, hm2, hc2⟩ := r2
  unfold maxLen at hm hm2
  by_cases hnm : n = m
  · subst hnm
    go_enter Tryz.func63, Tryz.ntmps63
    go_wp2
    go_loopw [13] (fun i wr => ∃ k : Nat, k ≤ n ∧ i = .int .i64 k ∧ (∀ i, i < k → f i = g i) ∧ ∃ m, wr = w.drewN m) (fun i _ => n - (intOf i).toNat)
    case atStart => exact ⟨0, Nat.zero_le _, rfl, fun i hi => by omega, 0, rfl⟩
    case round =>
      obtain ⟨k, hk, rfl, hall, q, rfl⟩ := hrel
      have HALL : Hid (∀ i, i < k → f i = g i) := hall
      clear hall
      by_cases hlt : k < n
      · obtain ⟨b, off, rfl, hblt, hcell⟩ := hc (by omega)
        obtain ⟨b2, off2, rfl, hblt2, hcell2⟩ := hc2 (by omega)
        have hck : w.cell? ⟨b, off + k, none⟩ = some (.int .u8 (f k)) := hcell k hlt
        have hck2 : w.cell? ⟨b2, off2 + k, none⟩ = some (.int .u8 (g k)) := hcell2 k hlt
        obtain ⟨x, hx⟩ : ∃ x, x = f k := ⟨_, rfl⟩
        obtain ⟨y, hy⟩ : ∃ y, y = g k := ⟨_, rfl⟩
        have HX : Hid (x = f k) := hx
        have HY : Hid (y = g k) := hy
        rw [← hx] at hck
        rw [← hy] at hck2
        clear hc hc2 hcell hcell2 hx hy
        by_cases heq : x = y
        · subst heq
          go_wp2
          go_quiet (fail)
          go_wp2
          go_roundw
          case rel => exact ⟨k + 1, by omega, by go_num, fun i hi => by
                        by_cases c : i = k
                        · rw [c, ← HX.out, ← HY.out]
                        · exact HALL.out i (by omega), _, rfl⟩
          case measure => simp [intOf]; omega
        · have tn : ((x : Int) != (y : Int)) = true := by simp; omega
          go_wp2
          go_quiet (fail)
          go_wp2
          go_ret
          exact boolNo rfl (fun h => absurd (h.2 k hlt) (by rw [← HX.out, ← HY.out]; exact heq)) (below_drewN (below_drewN (Below.refl _ _) _) _)
      · have hkn : k = n := by omega
        subst hkn
        go_wp2
        go_ret
        exact boolYes rfl ⟨rfl, HALL.out⟩ (below_drewN (Below.refl _ _) _)
  · have tn : ((n : Int) != (m : Int)) = true := by simp; omega
    clear hc hc2
    go_enter Tryz.func63, Tryz.ntmps63
    go_wp2
    go_ret
    exact boolNo rfl (fun h => hnm h.1) (Below.refl _ _)
end Go.Proofs.YtkijpgfmjogagaaGreat
namespace Go.Proofs.YtkijpgfmjogagaaGreat
open Go.RowKit
theorem SL {α : Type} : (∀ (l : List α) (i : Nat) (v : α), l.toArray.setIfInBounds i v = (l.set i v).toArray) ∧ (∀ (a : α) (l : List α) (b : α), (a :: l).set 0 b = b :: l) ∧ (∀ (a : α) (l : List α) (n : Nat) (b : α), (a :: l).set (n + 1) b = a :: l.set n b) ∧ (∀ (l : List α) (i : Nat) (h : i < l.toArray.size), l.toArray[i] = l[i]'(by simpa using h)) ∧ (∀ (a : α) (l : List α) (n : Nat) (h : n + 1 < (a :: l).length), (a :: l)[n + 1] = l[n]'(by simpa using h)) ∧ ∀ (a : α) (l : List α) (h : 0 < (a :: l).length), (a :: l)[0] = a := ⟨fun _ _ _ => List.setIfInBounds_toArray .., fun _ _ _ => rfl, fun _ _ _ _ => rfl, fun _ _ _ => rfl, fun _ _ _ _ => rfl, fun _ _ _ => rfl⟩
section
variable {P : Program} {ops : Array Oper} {Q : Exit → Act → World → Prop} {md : Region.Mode} {S : World → Prop} {L : Nat}
def wpAnyM (P : Program) (md : Region.Mode) (ops : Array Oper) (Q : Exit → Act → World → Prop) (S : World → Prop) (L : Nat) : Nat → Array Bool → Act → World → Prop
  | 0, listed, a, w => Region.ready md ops listed = [] ∧ Q .normal a w
  | fuel + 1, listed, a, w =>
    (Region.ready md ops listed = [] → Q .normal a w) ∧
    ∀ i ∈ Region.ready md ops listed, wpOp P ops Q i (fun a' w' => ((listed.setIfInBounds i true).getD L false = false → S w') ∧ wpAnyM P md ops Q S L fuel (listed.setIfInBounds i true) a' w') a w
theorem wpAny_of_M : ∀ (fuel : Nat) (listed : Array Bool) (a : Act) (w : World), wpAnyM P md ops Q S L fuel listed a w → wpAny P md ops Q fuel listed a w
  | 0, _, _, _, h => h
  | fuel + 1, _, _, _, h => ⟨h.1, fun i hi => wpOp_mono (fun a' w' h' => wpAny_of_M fuel _ a' w' h'.2) (h.2 i hi)⟩
theorem wpAnyM_first {i : Nat} {oi : Oper} {v : Value} (hi : ops[i]? = some oi) (hsel : ∀ (j : Nat) (o : Oper) cs b, ops[j]? = some o → o.op ≠ .select cs b)
    (hQ : ∀ c a w, Q (.panic c) (a.put oi.dst v) w → Q (.panic c) a w) (hLi : L ≠ i) {n : Nat} (hd : depB md ops n L i = true) :
    ∀ (fuel : Nat) (listed : Array Bool) (a : Act) (w : World), ClosedP md ops listed →
      (∀ j oj, ops[j]? = some oj → j ≠ i → listed.getD j true = false → (∀ e ∈ oj.after, Region.binds md e = true → e.on ≠ i) → oi.apart ops oj = true) →
      i ∈ Region.ready md ops listed → YieldsIf P ops S oi v a → S w →
      wpAnyM P md ops Q S L fuel (listed.setIfInBounds i true) (a.put oi.dst v) w → wpAnyM P md ops Q S L (fuel + 1) listed a w := by
  intro fuel
  induction fuel with
  | zero =>
    intro listed a w _ _ hr hy hS H
    refine ⟨fun h => (by rw [h] at hr; cases hr), fun j hj => ?_⟩
    by_cases hji : j = i
    · subst hji; exact hy.wpOp hi hS ⟨fun _ => hS, H⟩
    · have := ready_mono hj hji
      rw [H.1] at this
      cases this
  | succ fuel ih =>
    intro listed a w hcl hfree hr hy hS H
    refine ⟨fun h => (by rw [h] at hr; cases hr), fun j hj => ?_⟩
    by_cases hji : j = i
    · subst hji; exact hy.wpOp hi hS ⟨fun _ => hS, H⟩
    · have hjL : j ≠ L := fun h => by
        subst h
        exact dep_waits hcl hLi hd (unlisted_false (mem_ready.1 hr).1) hj
      have h1 := H.2 j (ready_mono hj hji)
      obtain ⟨hjun, oj, hoj, hall⟩ := mem_ready.1 hj
      have hnot : ∀ e ∈ oj.after, Region.binds md e = true → e.on ≠ i := fun e he hb heq => by
        have h1 := hall e he hb
        have h0 := unlisted_false (mem_ready.1 hr).1
        rw [heq, h0] at h1
        cases h1
      have h2 := wpOp_putIf hoj (hfree j oj hoj hji hjun hnot) (fun cs b => hsel i oi cs b hi) (fun cs b => hsel j oj cs b hoj) hQ hy h1
      have hfree' : ∀ k ok, ops[k]? = some ok → k ≠ i → (listed.setIfInBounds j true).getD k true = false →
          (∀ e ∈ ok.after, Region.binds md e = true → e.on ≠ i) → oi.apart ops ok = true := fun k ok hk hki hun hno => by
        refine hfree k ok hk hki ?_ hno
        by_cases hjk : j = k
        · subst hjk; exact hjun
        · rw [getD_set_ne true hjk] at hun; exact hun
      have hLn : (listed.setIfInBounds j true).getD L false = false := by
        rw [getD_set_ne false hjL]
        cases hg : listed.getD L false with
        | false => rfl
        | true => have := dep_listed hcl n L i hd hg; rw [unlisted_false (mem_ready.1 hr).1] at this; cases this
      have hLn2 : ((listed.setIfInBounds i true).setIfInBounds j true).getD L false = false := by
        rw [← Array.setIfInBounds_comm _ _ hji, getD_set_ne false (Ne.symm hLi)]
        exact hLn
      refine wpOp_mono (fun a' w' h3 => ⟨fun _ => h3.2.1 hLn2, ih (listed.setIfInBounds j true) a' w' (closed_step hcl hj) hfree' (ready_mono hr (Ne.symm hji)) h3.1 (h3.2.1 hLn2) ?_⟩) h2
      rw [Array.setIfInBounds_comm _ _ hji]
      exact h3.2.2
theorem wpAnyM_pure0 {i : Nat} {oi : Oper} {v : Value} (hi : ops[i]? = some oi) (hsel : ∀ (j : Nat) (o : Oper) cs b, ops[j]? = some o → o.op ≠ .select cs b)
    (hQ : ∀ c a w, Q (.panic c) (a.put oi.dst v) w → Q (.panic c) a w) (hLi : L ≠ i) :
    ∀ (fuel : Nat) (listed : Array Bool) (a : Act) (w : World), ClosedP md ops listed →
      (∀ j oj, ops[j]? = some oj → j ≠ i → listed.getD j true = false → (∀ e ∈ oj.after, Region.binds md e = true → e.on ≠ i) → oi.apart ops oj = true) →
      i ∈ Region.ready md ops listed → YieldsIf P ops (fun _ => True) oi v a → ((listed.setIfInBounds i true).getD L false = false → S w) →
      wpAnyM P md ops Q S L fuel (listed.setIfInBounds i true) (a.put oi.dst v) w → wpAnyM P md ops Q S L (fuel + 1) listed a w := by
  intro fuel
  induction fuel with
  | zero =>
    intro listed a w _ _ hr hy hS H
    refine ⟨fun h => (by rw [h] at hr; cases hr), fun j hj => ?_⟩
    by_cases hji : j = i
    · subst hji; exact hy.wpOp hi trivial ⟨hS, H⟩
    · have := ready_mono hj hji
      rw [H.1] at this
      cases this
  | succ fuel ih =>
    intro listed a w hcl hfree hr hy hS H
    refine ⟨fun h => (by rw [h] at hr; cases hr), fun j hj => ?_⟩
    by_cases hji : j = i
    · subst hji; exact hy.wpOp hi trivial ⟨hS, H⟩
    · skip
      have h1 := H.2 j (ready_mono hj hji)
      obtain ⟨hjun, oj, hoj, hall⟩ := mem_ready.1 hj
      have hnot : ∀ e ∈ oj.after, Region.binds md e = true → e.on ≠ i := fun e he hb heq => by
        have h1 := hall e he hb
        have h0 := unlisted_false (mem_ready.1 hr).1
        rw [heq, h0] at h1
        cases h1
      have h2 := wpOp_putIf hoj (hfree j oj hoj hji hjun hnot) (fun cs b => hsel i oi cs b hi) (fun cs b => hsel j oj cs b hoj) hQ hy h1
      have hfree' : ∀ k ok, ops[k]? = some ok → k ≠ i → (listed.setIfInBounds j true).getD k true = false →
          (∀ e ∈ ok.after, Region.binds md e = true → e.on ≠ i) → oi.apart ops ok = true := fun k ok hk hki hun hno => by
        refine hfree k ok hk hki ?_ hno
        by_cases hjk : j = k
        · subst hjk; exact hjun
        · rw [getD_set_ne true hjk] at hun; exact hun
      refine wpOp_mono (fun a' w' h3 => ?_) h2
      have hk : ((listed.setIfInBounds j true).setIfInBounds i true).getD L false = false → S w' := fun hn => h3.2.1 (by rw [Array.setIfInBounds_comm _ _ (Ne.symm hji)]; exact hn)
      refine ⟨fun hn => ?_, ih (listed.setIfInBounds j true) a' w' (closed_step hcl hj) hfree' (ready_mono hr (Ne.symm hji)) h3.1 hk ?_⟩
      · exact hk (by rw [getD_set_ne false (Ne.symm hLi)]; exact hn)
      · rw [Array.setIfInBounds_comm _ _ hji]
        exact h3.2.2
theorem wpAnyM_pure {i : Nat} {oi : Oper} {v : Value} {fuel : Nat} {listed : Array Bool} {a : Act} {w : World} (hi : ops[i]? = some oi)
    (hs : (Region.noSelect ops && Region.free md ops listed i && (Region.ready md ops listed).contains i && !(L == i) && closedB md ops listed) = true)
    (hQ : ∀ c a w, Q (.panic c) (a.put oi.dst v) w → Q (.panic c) a w) (hy : YieldsIf P ops (fun _ => True) oi v a) (hS : S w)
    (h : wpAnyM P md ops Q S L fuel (listed.setIfInBounds i true) (a.put oi.dst v) w) : wpAnyM P md ops Q S L (fuel + 1) listed a w := by
  simp only [Bool.and_eq_true, Bool.not_eq_true', beq_eq_false_iff_ne] at hs
  obtain ⟨⟨⟨⟨h1, h2⟩, h3⟩, h4⟩, h6⟩ := hs
  exact wpAnyM_pure0 hi (Region.noSelect_spec h1) hQ h4 fuel listed a w (closed_of h6) (Region.free_spec hi h2) (by simpa using h3) hy (fun _ => hS) h
theorem wpAnyM_pureL {i : Nat} {oi : Oper} {v : Value} {fuel : Nat} {listed : Array Bool} {a : Act} {w : World} (hi : ops[i]? = some oi)
    (hs : (Region.noSelect ops && Region.free md ops listed i && (Region.ready md ops listed).contains i && !(L == i) && closedB md ops listed && listed.getD L false) = true)
    (hQ : ∀ c a w, Q (.panic c) (a.put oi.dst v) w → Q (.panic c) a w) (hy : YieldsIf P ops (fun _ => True) oi v a)
    (h : wpAnyM P md ops Q S L fuel (listed.setIfInBounds i true) (a.put oi.dst v) w) : wpAnyM P md ops Q S L (fuel + 1) listed a w := by
  simp only [Bool.and_eq_true, Bool.not_eq_true', beq_eq_false_iff_ne] at hs
  obtain ⟨⟨⟨⟨⟨h1, h2⟩, h3⟩, h4⟩, h6⟩, h7⟩ := hs
  exact wpAnyM_pure0 hi (Region.noSelect_spec h1) hQ h4 fuel listed a w (closed_of h6) (Region.free_spec hi h2) (by simpa using h3) hy (fun hn => by rw [getD_set_ne false (Ne.symm h4), h7] at hn; cases hn) h
theorem wpAnyM_take {i : Nat} {oi : Oper} {v : Value} {fuel : Nat} {listed : Array Bool} {a : Act} {w : World} (n : Nat) (hi : ops[i]? = some oi)
    (hs : (Region.noSelect ops && Region.free md ops listed i && (Region.ready md ops listed).contains i && !(L == i) && depB md ops n L i && closedB md ops listed) = true)
    (hQ : ∀ c a w, Q (.panic c) (a.put oi.dst v) w → Q (.panic c) a w) (hy : YieldsIf P ops S oi v a) (hS : S w)
    (h : wpAnyM P md ops Q S L fuel (listed.setIfInBounds i true) (a.put oi.dst v) w) : wpAnyM P md ops Q S L (fuel + 1) listed a w := by
  simp only [Bool.and_eq_true, Bool.not_eq_true', beq_eq_false_iff_ne] at hs
  obtain ⟨⟨⟨⟨⟨h1, h2⟩, h3⟩, h4⟩, h5⟩, h6⟩ := hs
  exact wpAnyM_first hi (Region.noSelect_spec h1) hQ h4 h5 fuel listed a w (closed_of h6) (Region.free_spec hi h2) (by simpa using h3) hy hS h
theorem wpAnyM_one {i : Nat} {o : Oper} {fuel : Nat} {listed : Array Bool} {a : Act} {w : World} (ho : ops[i]? = some o) (hr : Region.ready md ops listed = [i]) (hL : (listed.setIfInBounds i true).getD L false = true)
    (h : ∀ K' : Act → World → Prop, Shut (∀ a w, wpAnyM P md ops Q S L fuel (listed.setIfInBounds i true) a w → K' a w) → if Region.wanted o (yielded ops a.tmps) = true then Oper.wp P o a w K' Q else K' (a.put o.dst undef) w) : wpAnyM P md ops Q S L (fuel + 1) listed a w := by
  refine ⟨fun h0 => (by rw [hr] at h0; cases h0), fun j hj => ?_⟩
  rw [hr] at hj
  obtain rfl : j = i := by simpa using hj
  exact wpOp_step ho (fun K' hK => h K' (fun a w hW => hK a w ⟨fun hn => (by rw [hL] at hn; cases hn), hW⟩))
theorem wpAnyM_done {listed : Array Bool} {a : Act} {w : World} (hr : Region.ready md ops listed = []) (h : Q .normal a w) : ∀ fuel, wpAnyM P md ops Q S L fuel listed a w
  | 0 => ⟨hr, h⟩
  | _ + 1 => ⟨fun _ => h, by rw [hr]; simp⟩
theorem wp_region_M {id : Nat} {a : Act} {w : World} (L : Nat) (S : World → Prop) (hm : P.follows .mixedOrders = true) (hS : S w.drew)
    (h : S w.drew → wpAnyM P .any ops Q S L ops.size (Array.replicate ops.size false) a w.drew) : (Code.region id ops true).wp P Q a w :=
  wp_region_any hm (wpAny_of_M _ _ _ _ (h hS))
end
end Go.Proofs.YtkijpgfmjogagaaGreat
namespace Go.Proofs.YtkijpgfmjogagaaGreat
open Go.RowKit
theorem step_callv {ops : Array Oper} {o : Oper} {a : Act} {w : World} {K : Act → World → Prop} {Q : Exit → Act → World → Prop} {E : Prop}
    (hw : Region.wanted o (yielded ops a.tmps) = true) (x : Operand) (n : Nat) (caps : Array Value) (args : Array Operand) (ty : Array TypeId) (hop : o.op = Op.call { callee := Callee.value x, args := args, argTypes := ty }) (hx : a.eval x = .func (.func n) #[] caps) (vals : Array Value) (hv : args.map a.eval = vals)
    {fn : Func} (hfn : Tryz.prog.funcs[n]? = some fn) (hnm : (fn.name == "runtime.NumGoroutine") = false) (hbd : fn.body.isSome = true)
    {R : Ending → World → Prop} (hc : Calls Tryz.prog n (vals ++ caps) w R) (hK : ∀ e w', R e w' → ∃ v, e = .returned v ∧ K (a.put o.dst v) w') :
    if Region.wanted o (yielded ops a.tmps) = true then Oper.wp Tryz.prog o a w K Q else E := by
  have hn' : ¬ fn.name = "runtime.NumGoroutine" := by simpa using hnm
  have hb' : ¬ fn.body = none := by intro h; rw [h] at hbd; cases hbd
  rw [if_pos hw]
  unfold Oper.wp
  simp [execOp, hop, hx, resolve, invoke, Result.andThen, Deferred.ofValue, callFunc, Oper.upon, hv, hfn, hn', hb']
  refine hc.mono fun e w' h => ?_
  obtain ⟨v, rfl, hk⟩ := hK e w' h
  exact hk
end Go.Proofs.YtkijpgfmjogagaaGreat
namespace Go.Proofs.YtkijpgfmjogagaaGreat
open Go.RowKit
section
variable {P : Program} {ops : Array Oper} {Q : Exit → Act → World → Prop} {md : Region.Mode} {S : World → Prop} {L : Nat}
theorem wpAnyM_oneS {i : Nat} {o : Oper} {fuel : Nat} {listed : Array Bool} {a : Act} {w : World} (ho : ops[i]? = some o) (hr : Region.ready md ops listed = [i])
    (h : ∀ K' : Act → World → Prop, Shut (∀ a w, S w → wpAnyM P md ops Q S L fuel (listed.setIfInBounds i true) a w → K' a w) → if Region.wanted o (yielded ops a.tmps) = true then Oper.wp P o a w K' Q else K' (a.put o.dst undef) w) : wpAnyM P md ops Q S L (fuel + 1) listed a w := by
  refine ⟨fun h0 => (by rw [hr] at h0; cases h0), fun j hj => ?_⟩
  rw [hr] at hj
  obtain rfl : j = i := by simpa using hj
  exact wpOp_step ho (fun K' hK => h K' (fun a w hS hW => hK a w ⟨fun _ => hS, hW⟩))
end
end Go.Proofs.YtkijpgfmjogagaaGreat
namespace Go.Proofs.YtkijpgfmjogagaaGreat
open Go.RowKit F256
theorem mixedG : Tryz.prog.follows Departure.mixedOrders = true := by kernel_rfl
theorem if_noG {c : Bool} {X Y : Prop} (h : c = false) (y : Y) : if c = true then X else Y := by rw [h, if_neg (by decide)]; exact y
theorem info_W15 {cs : List Value} (h : cs.length = 15) : (Tryz.prog.info? 37).map (·.size) = some cs.length := by rw [h]; kernel_rfl
theorem rd_upto {w w' : World} {hi hj B n : Nat} {v : Value} {f : Nat → Nat} (h : Rd w hi v n f) (hb : Below B w w') (h1 : hi ≤ B) (h2 : hi ≤ hj) : Rd w' hj v n f := (h.below hb h1).mono h2
def fitK (d : WorldD) (G R k : Nat) : Prop := ((d.groups.2 G).2 k).wiped = false → SameP (((d.groups.2 G).2 k).blocks.2 R).bytes.1 4 (((d.groups.2 G).2 k).blocks.2 R).bytes.2 (encN (d.shape 2).toNat (rowB d G R) k)
def fitP (d : WorldD) (G R : Nat) : Prop := ∀ k, k < (d.groups.2 G).1 → fitK d G R k
theorem rows_of {d : WorldD} (h : OkWorld d) {G R : Nat} (hG : G < d.groups.1) (hR : (R : Int) < d.shape 4) : ∀ k, k < (d.groups.2 G).1 → R < ((d.groups.2 G).2 k).blocks.1 := fun k hk => by
  have h1 := ((h.form.1.2 G hG).2 k hk).1
  omega
theorem rowB_lt2 (d : WorldD) (G R : Nat) (i : Nat) : rowB d G R i < 256 := by
  unfold rowB decN blockN
  exact mixN_lt _ _ (weightsN_lt _ _ _ _) _ _
theorem rd_form {w : World} {hi n : Nat} {v : Value} {f : Nat → Nat} (h : Rd w hi v n f) : ∃ ao cap, v = .slice ao n cap := by
  obtain ⟨ao, cap, rfl, _⟩ := h
  exact ⟨ao, cap, rfl⟩
set_option maxHeartbeats 16000000 in
set_option maxRecDepth 20000 in
theorem rowHolds_any (d : WorldD) (cs : List Value) (hi G R : Nat) (w : World) (h : layWorld.rd w hi d cs) (hhi : hi ≤ w.heap.size) (hG : G < d.groups.1) (hok : OkWorld d) (hnd : ¬ DeadP d G) (hR : (R : Int) < d.shape 4) :
    Calls Tryz.prog 39 #[.agg cs.toArray, .int .i64 (G : Int), .int .i64 (R : Int)] w (BoolP (fitP d G R) w) := by
  have hRr := rows_of hok hG hR
  have hfew := (grp_few hok hG).2
  obtain ⟨D, S, hDe0, hSe0, hDS, hD1, hD3, hS2, h4⟩ := row_facts hok hG
  have hDe : Hid (d.shape 2 = (D : Int)) := hDe0
  have hSe : Hid (d.shape 3 = (S : Int)) := hSe0
  clear hDe0 hSe0
  have kf := rowM_byt h hG hRr
  have HRD : Hid (layWorld.rd w hi d cs) := h
  have CB := fun w' (h1 : layWorld.rd w' hi d cs) (h2 : hi ≤ w'.heap.size) => bytesInRow_any d cs hi G R w' h1 h2 hG hRr hok hnd
  obtain ⟨ao1, cap1, ao2, cap2, ao3, cap3, rfl, g1, g2, g3, k0, k4, k5⟩ := World_rd h
  obtain ⟨_, _, e1, hm1, hc1⟩ := g1
  cases e1
  obtain ⟨b1, off1, he1, hb1, hel1⟩ := hc1 (by omega)
  subst he1
  obtain ⟨cg, hrg, hcg⟩ := hel1 G hG
  obtain ⟨ao9, cap9, rfl⟩ := sl_form hrg
  have c0 : w.cell? ⟨b1, off1 + G, none⟩ = some (.slice ao9 (d.groups.2 G).1 cap9) := by
    have := hcg 0 (by decide)
    have e : off1 + (G * (layDrive.slice 76).sz + 0) = off1 + G := by show off1 + (G * 1 + 0) = off1 + G; omega
    rw [e] at this
    exact this
  obtain ⟨_, _, e9, hm9, hc9⟩ := hrg
  cases e9
  have hc9' : (d.groups.2 G).1 ≠ 0 → ∃ b off, ao9 = some ⟨b, off, none⟩ ∧ b < hi ∧ ∀ i, i < (d.groups.2 G).1 → ∃ ce, layDrive.rd w hi ((d.groups.2 G).2 i) ce ∧ ∀ j, j < layDrive.sz → w.cell? ⟨b, off + (i * layDrive.sz + j), none⟩ = ce[j]? := hc9
  obtain ⟨nG, hnG⟩ : ∃ n, n = (d.groups.2 G).1 := ⟨_, rfl⟩
  have HNG : Hid (nG = (d.groups.2 G).1) := hnG
  rw [← hnG] at c0 hc9' hfew
  have HC9 : Hid (nG ≠ 0 → ∃ b off, ao9 = some ⟨b, off, none⟩ ∧ b < hi ∧ ∀ i, i < nG → ∃ ce, layDrive.rd w hi ((d.groups.2 G).2 i) ce ∧ ∀ j, j < layDrive.sz → w.cell? ⟨b, off + (i * layDrive.sz + j), none⟩ = ce[j]?) := hc9'
  have i1 : (0 : Int) ≤ (G : Int) := by omega
  have i2 : (G : Int) < (d.groups.1 : Int) := by omega
  clear g2 g3 k0 k4 k5 hcg hel1 hc1 hm1 hm9 hc9 hc9' hnG
  have HDS : Hid (nG = D + S) := by rw [HNG.out]; exact hDS
  have T0 := one_new w #[.int .i64 (d.shape 0), .int .i64 (d.shape 1), .int .i64 (d.shape 2), .int .i64 (d.shape 3), .int .i64 (d.shape 4), .int .i64 (d.shape 5), .int .i64 (d.shape 6), .int .i64 (d.shape 7), .int .i64 (d.shape 8), .slice (some ⟨b1, off1, none⟩) d.groups.1 cap1, .slice ao2 d.on.1 cap2, .slice ao3 d.tapes.1 cap3, .int .i64 d.writes, .int .i64 d.stop, .bool d.down] 37
  go_enter Tryz.func39, Tryz.ntmps39
  go_upto_region 1 with fail
  obtain ⟨W, hW⟩ : ∃ x, x = w.alloc (.cells #[.int .i64 (d.shape 0), .int .i64 (d.shape 1), .int .i64 (d.shape 2), .int .i64 (d.shape 3), .int .i64 (d.shape 4), .int .i64 (d.shape 5), .int .i64 (d.shape 6), .int .i64 (d.shape 7), .int .i64 (d.shape 8), .slice (some ⟨b1, off1, none⟩) d.groups.1 cap1, .slice ao2 d.on.1 cap2, .slice ao3 d.tapes.1 cap3, .int .i64 d.writes, .int .i64 d.stop, .bool d.down] 37) := ⟨_, rfl⟩
  rw [← hW] at T0 ⊢
  clear hW
  have HT0 : Hid (One w W #[.int .i64 (d.shape 0), .int .i64 (d.shape 1), .int .i64 (d.shape 2), .int .i64 (d.shape 3), .int .i64 (d.shape 4), .int .i64 (d.shape 5), .int .i64 (d.shape 6), .int .i64 (d.shape 7), .int .i64 (d.shape 8), .slice (some ⟨b1, off1, none⟩) d.groups.1 cap1, .slice ao2 d.on.1 cap2, .slice ao3 d.tapes.1 cap3, .int .i64 d.writes, .int .i64 d.stop, .bool d.down] 37) := T0
  have zW : w.heap.size < W.heap.size := T0.b1.lt
  have bD : Below W.heap.size W W.drew := ⟨rfl, rfl, rfl, Nat.le_refl _, fun _ _ => rfl⟩
  have CBW := CB W.drew (layWorld.rd_below (layWorld.rd_below HRD.out T0.bel hhi) bD (by omega)) (by show hi ≤ W.heap.size; omega)
  obtain ⟨cw, hcw⟩ : ∃ c : List Value, c = [.int .i64 (d.shape 0), .int .i64 (d.shape 1), .int .i64 (d.shape 2), .int .i64 (d.shape 3), .int .i64 (d.shape 4), .int .i64 (d.shape 5), .int .i64 (d.shape 6), .int .i64 (d.shape 7), .int .i64 (d.shape 8), .slice (some ⟨b1, off1, none⟩) d.groups.1 cap1, .slice ao2 d.on.1 cap2, .slice ao3 d.tapes.1 cap3, .int .i64 d.writes, .int .i64 d.stop, .bool d.down] := ⟨_, rfl⟩
  have hcl : cw.length = 15 := by rw [hcw]; rfl
  have rW : W.drew.rangeAt w.heap.size 0 cw := fun j v hv => by
    rw [hcw] at hv
    have := (T0.b1.cell j).trans (by simpa using hv)
    rw [Nat.zero_add]
    exact this
  have x2 : W.drew.cell? ⟨w.heap.size, 2, none⟩ = some (.int .i64 (D : Int)) := by rw [← hDe.out]; exact T0.b1.cell 2
  have x3 : W.drew.cell? ⟨w.heap.size, 3, none⟩ = some (.int .i64 (S : Int)) := by rw [← hSe.out]; exact T0.b1.cell 3
  rw [← hcw] at CBW
  have CC : Calls Tryz.prog 62 (#[.agg cw.toArray, .int .i64 (G : Int), .int .i64 (R : Int)] ++ #[]) W.drew (fun e w' => ∃ v, e = .returned v ∧ Own w' W.drew.heap.size w'.heap.size v (4 * (d.shape 2).toNat) (rowB d G R) ∧ Below W.drew.heap.size W.drew w') := by rw [Array.append_empty]; exact CBW
  clear T0 CBW CB hcw
  refine wp_region_M 10 (fun w' => w'.rangeAt w.heap.size 0 cw ∧ w'.cell? ⟨w.heap.size, 2, none⟩ = some (.int .i64 (D : Int)) ∧ w'.cell? ⟨w.heap.size, 3, none⟩ = some (.int .i64 (S : Int))) mixedG ⟨rW, x2, x3⟩ (fun hHeld => ?_)
  refine wpAnyM_pure (i := 0) (oi := _) (v := ?_) rfl (by kernel_rfl) (fun _ _ _ h => h) (Or.inl ⟨by kernel_rfl, ?_⟩) (by assumption) ?_
  rotate_left
  · intro w' hSw; go_simp; try with_reducible rfl
  try simp only [Act.put, SL]
  refine wpAnyM_pure (i := 1) (oi := _) (v := ?_) rfl (by kernel_rfl) (fun _ _ _ h => h) (Or.inl ⟨by kernel_rfl, ?_⟩) (by assumption) ?_
  rotate_left
  · intro w' hSw; go_simp; try with_reducible rfl
  try simp only [Act.put, SL]
  refine wpAnyM_take (i := 2) (oi := _) (v := ?_) 16 rfl (by kernel_rfl) (fun _ _ _ h => h) (Or.inl ⟨by kernel_rfl, ?_⟩) (by assumption) ?_
  rotate_left
  · intro w' hSw
    try dsimp only at hSw
    obtain ⟨hq0, hq1, hq2⟩ := hSw
    go_simp
    try with_reducible rfl
  try simp only [Act.put, SL]
  refine wpAnyM_pure (i := 3) (oi := _) (v := ?_) rfl (by kernel_rfl) (fun _ _ _ h => h) (Or.inl ⟨by kernel_rfl, ?_⟩) (by assumption) ?_
  rotate_left
  · intro w' hSw; go_simp; try with_reducible rfl
  try simp only [Act.put, SL]
  refine wpAnyM_pure (i := 4) (oi := _) (v := ?_) rfl (by kernel_rfl) (fun _ _ _ h => h) (Or.inl ⟨by kernel_rfl, ?_⟩) (by assumption) ?_
  rotate_left
  · intro w' hSw; go_simp; try with_reducible rfl
  try simp only [Act.put, SL]
  refine wpAnyM_take (i := 5) (oi := _) (v := ?_) 16 rfl (by kernel_rfl) (fun _ _ _ h => h) (Or.inl ⟨by kernel_rfl, ?_⟩) (by assumption) ?_
  rotate_left
  · intro w' hSw
    try dsimp only at hSw
    obtain ⟨hq0, hq1, hq2⟩ := hSw
    go_simp
    try with_reducible rfl
  try simp only [Act.put, SL]
  refine wpAnyM_take (i := 6) (oi := _) (v := .agg cw.toArray) 16 rfl (by kernel_rfl) (fun _ _ _ h => h) (yieldsIf_load_mid (by kernel_rfl) 37 (.tmp 3) rfl w.heap.size (0) (by simp [Act.eval, Act.put]) cw _ (fun w h => h.1) Tryz.underlying37 rfl (info_W15 hcl)) (by assumption) ?_
  try simp only [Act.put, SL]
  refine wpAnyM_pure (i := 7) (oi := _) (v := ?_) rfl (by kernel_rfl) (fun _ _ _ h => h) (Or.inl ⟨by kernel_rfl, ?_⟩) (by assumption) ?_
  rotate_left
  · intro w' hSw; go_simp; try with_reducible rfl
  try simp only [Act.put, SL]
  refine wpAnyM_pure (i := 8) (oi := _) (v := ?_) rfl (by kernel_rfl) (fun _ _ _ h => h) (Or.inl ⟨by kernel_rfl, ?_⟩) (by assumption) ?_
  rotate_left
  · intro w' hSw; go_simp; try with_reducible rfl
  try simp only [Act.put, SL]
  refine wpAnyM_oneS (i := 9) (o := _) rfl (by kernel_rfl) (fun KC hKC => ?_)
  refine step_callv (by kernel_rfl) (.func 62) 62 #[] _ _ rfl (by simp [Act.eval, Act.put]) #[.agg cw.toArray, .int .i64 (G : Int), .int .i64 (R : Int)] (by simp [Act.eval, Act.put]) Tryz.func62 (by kernel_rfl) (by kernel_rfl) CC ?_
  rintro ee w2 ⟨vY, rfl, oY, b2⟩
  refine ⟨_, rfl, ?_⟩
  have b2' : Below W.heap.size W w2 := bD.trans b2
  have z2 : W.heap.size ≤ w2.heap.size := b2'.size
  refine hKC _ _ ⟨fun j v hv => (b2.cell (p := ⟨w.heap.size, 0 + j, none⟩) zW).trans (rW j v hv), (b2.cell (p := ⟨w.heap.size, 2, none⟩) zW).trans x2, (b2.cell (p := ⟨w.heap.size, 3, none⟩) zW).trans x3⟩ ?_
  clear hKC KC
  try simp only [Act.put, SL]
  have eD : Hid ((d.shape 2).toNat = D) := by show (d.shape 2).toNat = D; rw [hDe.out]; rfl
  have CF0 := blocksOf_any D S hD1 hD3 hS2 vY (rowB d G R) w2.heap.size w2 (by rw [← eD.out]; exact oY.rd) (Nat.le_refl _) (rowB_lt2 d G R)
  have CF : Calls Tryz.prog 61 (#[.int .i64 (D : Int), .int .i64 (S : Int), vY] ++ #[]) w2 (fun e w' => ∃ v', e = .returned v' ∧ (∃ g cap h C, FlatE w' w2.heap.size w'.heap.size v' (D + S) (encN D (rowB d G R)) g cap h C) ∧ Below w2.heap.size w2 w') := by rw [Array.append_empty]; exact CF0
  clear CF0 CC
  refine wpAnyM_one (i := 10) (o := _) rfl (by kernel_rfl) (by kernel_rfl) (fun KC hKC => ?_)
  refine step_callv (by kernel_rfl) (.func 61) 61 #[] _ _ rfl (by simp [Act.eval, Act.put]) #[.int .i64 (D : Int), .int .i64 (S : Int), vY] (by simp [Act.eval, Act.put]) Tryz.func61 (by kernel_rfl) (by kernel_rfl) CF ?_
  rintro ee w3 ⟨vF, rfl, ⟨gF, cF, hF0, CF0, fF⟩, b3⟩
  refine ⟨_, rfl, ?_⟩
  refine hKC _ _ ?_
  clear hKC KC
  try simp only [Act.put, SL]
  refine wpAnyM_pureL (i := 11) (oi := _) (v := ?_) rfl (by kernel_rfl) (fun _ _ _ h => h) (Or.inl ⟨by kernel_rfl, ?_⟩) ?_
  rotate_left
  · intro w' hSw; go_simp; try with_reducible rfl
  try simp only [Act.put, SL]
  refine wpAnyM_done (by kernel_rfl) ?_ _
  have B3 := b2'.trans (b3.mono z2)
  have HT3 : Hid (One w w3 #[.int .i64 (d.shape 0), .int .i64 (d.shape 1), .int .i64 (d.shape 2), .int .i64 (d.shape 3), .int .i64 (d.shape 4), .int .i64 (d.shape 5), .int .i64 (d.shape 6), .int .i64 (d.shape 7), .int .i64 (d.shape 8), .slice (some ⟨b1, off1, none⟩) d.groups.1 cap1, .slice ao2 d.on.1 cap2, .slice ao3 d.tapes.1 cap3, .int .i64 d.writes, .int .i64 d.stop, .bool d.down] 37) := HT0.out.call B3
  have RF : RdM w3 w3.heap.size vF nG (fun _ => 4) (encN (d.shape 2).toNat (rowB d G R)) := by rw [HDS.out, eD.out]; exact fF.rd
  have x9 : w3.cell? ⟨w.heap.size, 9, none⟩ = some (.slice (some ⟨b1, off1, none⟩) d.groups.1 cap1) := HT3.out.b1.cell 9
  have c0' : w3.cell? ⟨b1, off1 + G, none⟩ = some (.slice ao9 nG cap9) := (HT3.out.bel.cell (p := ⟨b1, off1 + G, none⟩) (by show b1 < w.heap.size; omega)).trans c0
  obtain ⟨hF, hhF⟩ : ∃ x, x = w3.heap.size := ⟨_, rfl⟩
  have HRF : Hid (RdM w3 hF vF nG (fun _ => 4) (encN (d.shape 2).toNat (rowB d G R))) := by rw [hhF]; exact RF
  have zF : hF ≤ w3.heap.size := Nat.le_of_eq hhF
  clear CF b3 b2 b2' fF oY B3 RF hhF hHeld rW x2 x3 HT0 bD hcl zW z2
  go_wp2
  go_loopw [27] (fun i wr => ∃ k : Nat, k ≤ nG ∧ i = .int .i64 k ∧ (∀ j, j < k → fitK d G R j) ∧ One w wr #[.int .i64 (d.shape 0), .int .i64 (d.shape 1), .int .i64 (d.shape 2), .int .i64 (d.shape 3), .int .i64 (d.shape 4), .int .i64 (d.shape 5), .int .i64 (d.shape 6), .int .i64 (d.shape 7), .int .i64 (d.shape 8), .slice (some ⟨b1, off1, none⟩) d.groups.1 cap1, .slice ao2 d.on.1 cap2, .slice ao3 d.tapes.1 cap3, .int .i64 d.writes, .int .i64 d.stop, .bool d.down] 37 ∧ RdM wr hF vF nG (fun _ => 4) (encN (d.shape 2).toNat (rowB d G R)) ∧ hF ≤ wr.heap.size) (fun i _ => nG - (intOf i).toNat)
  case atStart => exact ⟨0, Nat.zero_le _, rfl, fun j hj => by omega, HT3.out, HRF.out, zF⟩
  case round =>
    clear x9 c0' zF HRF HT3
    obtain ⟨k, hk, rfl, hall, T, F, zF⟩ := hrel
    obtain ⟨wx, rfl⟩ : ∃ y, y = wr := ⟨_, rfl⟩
    have HALL : Hid (∀ j, j < k → fitK d G R j) := hall
    have HT : Hid (One w wx #[.int .i64 (d.shape 0), .int .i64 (d.shape 1), .int .i64 (d.shape 2), .int .i64 (d.shape 3), .int .i64 (d.shape 4), .int .i64 (d.shape 5), .int .i64 (d.shape 6), .int .i64 (d.shape 7), .int .i64 (d.shape 8), .slice (some ⟨b1, off1, none⟩) d.groups.1 cap1, .slice ao2 d.on.1 cap2, .slice ao3 d.tapes.1 cap3, .int .i64 d.writes, .int .i64 d.stop, .bool d.down] 37) := T
    have HF : Hid (RdM wx hF vF nG (fun _ => 4) (encN (d.shape 2).toNat (rowB d G R))) := F
    have zx : w.heap.size < wx.heap.size := T.b1.lt
    clear hall
    by_cases hlt : k < nG
    · skip
      obtain ⟨b, off, rfl, hblt, hcell⟩ := HC9.out (by omega)
      obtain ⟨cd, hrd, hcd⟩ := hcell k hlt
      obtain ⟨ao5, cap5, rfl, g5⟩ := Drive_rd hrd
      obtain ⟨_, _, e5, hm5, hc5⟩ := g5
      cases e5
      have hRk : R < ((d.groups.2 G).2 k).blocks.1 := hRr k (by rw [← HNG.out]; exact hlt)
      obtain ⟨b5, off5, he5, hb5, hel5⟩ := hc5 (by omega)
      subst he5
      obtain ⟨cb, hrb, hcb⟩ := hel5 R hRk
      obtain ⟨ao0, cap0, rfl, hrB, -⟩ := Block_rd hrb
      obtain ⟨vB, eB, hrBB, -⟩ := hrB
      obtain rfl : vB = .slice ao0 (((d.groups.2 G).2 k).blocks.2 R).bytes.1 cap0 := by simpa using eB.symm
      have bw := T.bel
      have c2 : wx.cell? ⟨b, off + k * 2, none⟩ = some (.bool ((d.groups.2 G).2 k).wiped) := (bw.cell (p := ⟨b, off + k * 2, none⟩) (by show b < w.heap.size; omega)).trans (hcd 0 (by decide))
      have c3 : wx.cell? ⟨b, off + k * 2 + 1, none⟩ = some (.slice (some ⟨b5, off5, none⟩) ((d.groups.2 G).2 k).blocks.1 cap5) := (bw.cell (p := ⟨b, off + k * 2 + 1, none⟩) (by show b < w.heap.size; omega)).trans (hcd 1 (by decide))
      have c4 : wx.cell? ⟨b5, off5 + R * 2 + 1, none⟩ = some (.slice ao0 (((d.groups.2 G).2 k).blocks.2 R).bytes.1 cap0) := (bw.cell (p := ⟨b5, off5 + R * 2 + 1, none⟩) (by show b5 < w.heap.size; omega)).trans (hcb 1 (by decide))
      obtain ⟨D9, hD9⟩ : ∃ D, D = (d.groups.2 G).2 k := ⟨_, rfl⟩
      have HD9 : Hid (D9 = (d.groups.2 G).2 k) := hD9
      rw [← hD9] at c2 c3 c4 hrBB hRk
      obtain ⟨y0, hy0⟩ : ∃ y, y = (D9.blocks.2 R).bytes.1 := ⟨_, rfl⟩
      have HY0 : Hid (y0 = (D9.blocks.2 R).bytes.1) := hy0
      rw [← hy0] at c4 hrBB
      obtain ⟨m5, hm5e⟩ : ∃ m, m = D9.blocks.1 := ⟨_, rfl⟩
      rw [← hm5e] at c3 hRk
      obtain ⟨aoF, capF, eF, evF, hmF, hcF, hrF⟩ := F
      obtain ⟨fb, foff, haoF, hfb, hcFc⟩ := hcF (by omega)
      subst haoF
      subst evF
      obtain ⟨aoE, capE, eE⟩ := rd_form (hrF k hlt)
      have cF : wx.cell? ⟨fb, foff + k, none⟩ = some (.slice aoE 4 capE) := by rw [← eE]; exact hcFc k hlt
      have rEx : Rd wx hF (.slice aoE 4 capE) 4 (encN (d.shape 2).toNat (rowB d G R) k) := by rw [← eE]; exact hrF k hlt
      have i3 : (0 : Int) ≤ (k : Int) := by omega
      have i4 : (k : Int) < (nG : Int) := by omega
      have j1 : (0 : Int) ≤ (R : Int) := by omega
      have j2 : (R : Int) < (m5 : Int) := by omega
      have bA : Below wx.heap.size wx (wx.alloc (.cells #[.bool D9.wiped, .slice (some ⟨b5, off5, none⟩) m5 cap5] 76)) := (Below.refl _ _).alloc (Nat.le_refl _) _
      have XD : Box (wx.alloc (.cells #[.bool D9.wiped, .slice (some ⟨b5, off5, none⟩) m5 cap5] 76)) wx.heap.size #[.bool D9.wiped, .slice (some ⟨b5, off5, none⟩) m5 cap5] 76 := box_new _ _ _
      clear hcell hcd hrd hm5 hc5 hel5 hrb hcb eB hD9 hy0 hm5e hmF hcF hrF hcFc eE T
      go_upto_region 5 with fail
      obtain ⟨W5, hW5⟩ : ∃ x, x = wx.alloc (.cells #[.bool D9.wiped, .slice (some ⟨b5, off5, none⟩) m5 cap5] 76) := ⟨_, rfl⟩
      rw [← hW5] at bA XD ⊢
      have z5 : wx.heap.size ≤ W5.heap.size := bA.size
      have HT5 : Hid (One w W5 #[.int .i64 (d.shape 0), .int .i64 (d.shape 1), .int .i64 (d.shape 2), .int .i64 (d.shape 3), .int .i64 (d.shape 4), .int .i64 (d.shape 5), .int .i64 (d.shape 6), .int .i64 (d.shape 7), .int .i64 (d.shape 8), .slice (some ⟨b1, off1, none⟩) d.groups.1 cap1, .slice ao2 d.on.1 cap2, .slice ao3 d.tapes.1 cap3, .int .i64 d.writes, .int .i64 d.stop, .bool d.down] 37) := HT.out.call bA
      have HF5 : Hid (RdM W5 hF (.slice (some ⟨fb, foff, none⟩) nG capF) nG (fun _ => 4) (encN (d.shape 2).toNat (rowB d G R))) := HF.out.below bA zF
      have zF5 : hF ≤ W5.heap.size := by omega
      have q0 : W5.drew.cell? ⟨wx.heap.size, 0, none⟩ = some (.bool D9.wiped) := XD.cell 0
      have q1 : W5.drew.cell? ⟨wx.heap.size, 1, none⟩ = some (.slice (some ⟨b5, off5, none⟩) m5 cap5) := XD.cell 1
      have q2 : W5.drew.cell? ⟨b5, off5 + R * 2 + 1, none⟩ = some (.slice ao0 y0 cap0) := (bA.cell (p := ⟨b5, off5 + R * 2 + 1, none⟩) (by show b5 < _; omega)).trans c4
      have q3 : W5.drew.cell? ⟨fb, foff + k, none⟩ = some (.slice aoE 4 capE) := (bA.cell (p := ⟨fb, foff + k, none⟩) (by show fb < _; omega)).trans cF
      have bDD : Below wx.heap.size wx W5.drew := bA.trans (show Below wx.heap.size W5 W5.drew from ⟨rfl, rfl, rfl, Nat.le_refl _, fun _ _ => rfl⟩)
      have bWD : Below w.heap.size w W5.drew := bw.trans (bDD.mono (by omega))
      have r0 : Rd W5.drew W5.heap.size (.slice ao0 y0 cap0) y0 (D9.blocks.2 R).bytes.2 := rd_upto hrBB bWD hhi (by omega)
      have rE : Rd W5.drew W5.heap.size (.slice aoE 4 capE) 4 (encN (d.shape 2).toNat (rowB d G R) k) := rd_upto rEx bDD zF (by omega)
      clear hW5 bDD bWD bA XD HT HF c2 c3 c4 cF rEx hrBB bw
      cases hw : D9.wiped with
      | true =>
        rw [hw] at q0
        have HW : Hid (D9.wiped = true) := hw
        have bD : Below W5.heap.size W5 W5.drew := ⟨rfl, rfl, rfl, Nat.le_refl _, fun _ _ => rfl⟩
        clear hw q1 q2 q3
        refine wp_region_M 14 (fun w' => w'.cell? ⟨wx.heap.size, 0, none⟩ = some (.bool true)) mixedG q0 (fun hHeld => ?_)
        refine wpAnyM_pure (i := 0) (oi := _) (v := ?_) rfl (by kernel_rfl) (fun _ _ _ h => h) (Or.inl ⟨by kernel_rfl, ?_⟩) (by assumption) ?_
        rotate_left
        · intro w' hSw; go_simp; try with_reducible rfl
        try simp only [Act.put, SL]
        refine wpAnyM_take (i := 1) (oi := _) (v := ?_) 16 rfl (by kernel_rfl) (fun _ _ _ h => h) (Or.inl ⟨by kernel_rfl, ?_⟩) (by assumption) ?_
        rotate_left
        · intro w' hSw
          try dsimp only at hSw
          have hq0 := hSw
          go_simp
          try with_reducible rfl
        try simp only [Act.put, SL]
        refine wpAnyM_pure (i := 2) (oi := _) (v := ?_) rfl (by kernel_rfl) (fun _ _ _ h => h) (Or.inl ⟨by kernel_rfl, ?_⟩) (by assumption) ?_
        rotate_left
        · intro w' hSw; go_simp; try with_reducible rfl
        try simp only [Act.put, SL]
        refine wpAnyM_pure (i := 3) (oi := _) (v := ?_) rfl (by kernel_rfl) (fun _ _ _ h => h) (Or.inl ⟨by kernel_rfl, ?_⟩) (by assumption) ?_
        rotate_left
        · intro w' hSw; go_simp; try with_reducible rfl
        try simp only [Act.put, SL]
        refine wpAnyM_pure (i := 4) (oi := _) (v := undef) rfl (by kernel_rfl) (fun _ _ _ h => h) (Or.inr ⟨by kernel_rfl, rfl⟩) (by assumption) ?_
        try simp only [Act.put, SL]
        refine wpAnyM_pure (i := 5) (oi := _) (v := undef) rfl (by kernel_rfl) (fun _ _ _ h => h) (Or.inr ⟨by kernel_rfl, rfl⟩) (by assumption) ?_
        try simp only [Act.put, SL]
        refine wpAnyM_pure (i := 6) (oi := _) (v := undef) rfl (by kernel_rfl) (fun _ _ _ h => h) (Or.inr ⟨by kernel_rfl, rfl⟩) (by assumption) ?_
        try simp only [Act.put, SL]
        refine wpAnyM_pure (i := 7) (oi := _) (v := undef) rfl (by kernel_rfl) (fun _ _ _ h => h) (Or.inr ⟨by kernel_rfl, rfl⟩) (by assumption) ?_
        try simp only [Act.put, SL]
        refine wpAnyM_pure (i := 8) (oi := _) (v := undef) rfl (by kernel_rfl) (fun _ _ _ h => h) (Or.inr ⟨by kernel_rfl, rfl⟩) (by assumption) ?_
        try simp only [Act.put, SL]
        refine wpAnyM_pure (i := 9) (oi := _) (v := undef) rfl (by kernel_rfl) (fun _ _ _ h => h) (Or.inr ⟨by kernel_rfl, rfl⟩) (by assumption) ?_
        try simp only [Act.put, SL]
        refine wpAnyM_pure (i := 10) (oi := _) (v := undef) rfl (by kernel_rfl) (fun _ _ _ h => h) (Or.inr ⟨by kernel_rfl, rfl⟩) (by assumption) ?_
        try simp only [Act.put, SL]
        refine wpAnyM_pure (i := 11) (oi := _) (v := undef) rfl (by kernel_rfl) (fun _ _ _ h => h) (Or.inr ⟨by kernel_rfl, rfl⟩) (by assumption) ?_
        try simp only [Act.put, SL]
        refine wpAnyM_pure (i := 12) (oi := _) (v := undef) rfl (by kernel_rfl) (fun _ _ _ h => h) (Or.inr ⟨by kernel_rfl, rfl⟩) (by assumption) ?_
        try simp only [Act.put, SL]
        refine wpAnyM_pure (i := 13) (oi := _) (v := undef) rfl (by kernel_rfl) (fun _ _ _ h => h) (Or.inr ⟨by kernel_rfl, rfl⟩) (by assumption) ?_
        try simp only [Act.put, SL]
        refine wpAnyM_one (i := 14) (o := _) rfl (by kernel_rfl) (by kernel_rfl) (fun KC hKC => ?_)
        refine if_noG (by kernel_rfl) (hKC _ _ ?_)
        clear hKC KC
        try simp only [Act.put, SL]
        refine wpAnyM_pureL (i := 15) (oi := _) (v := undef) rfl (by kernel_rfl) (fun _ _ _ h => h) (Or.inr ⟨by kernel_rfl, rfl⟩) ?_
        try simp only [Act.put, SL]
        refine wpAnyM_pureL (i := 16) (oi := _) (v := ?_) rfl (by kernel_rfl) (fun _ _ _ h => h) (Or.inl ⟨by kernel_rfl, ?_⟩) ?_
        rotate_left
        · intro w' hSw; go_simp; try with_reducible rfl
        try simp only [Act.put, SL]
        refine wpAnyM_done (by kernel_rfl) ?_ _
        obtain ⟨w7, hw7⟩ : ∃ x, x = W5.drew := ⟨_, rfl⟩
        rw [← hw7] at bD ⊢
        have b7' : Below W5.heap.size W5 w7 := bD
        have HFK : Hid (fitK d G R k) := fun h => by rw [← HD9.out, HW.out] at h; cases h
        clear bD hw7 hHeld q0
        have HT7 : Hid (One w w7 #[.int .i64 (d.shape 0), .int .i64 (d.shape 1), .int .i64 (d.shape 2), .int .i64 (d.shape 3), .int .i64 (d.shape 4), .int .i64 (d.shape 5), .int .i64 (d.shape 6), .int .i64 (d.shape 7), .int .i64 (d.shape 8), .slice (some ⟨b1, off1, none⟩) d.groups.1 cap1, .slice ao2 d.on.1 cap2, .slice ao3 d.tapes.1 cap3, .int .i64 d.writes, .int .i64 d.stop, .bool d.down] 37) := HT5.out.call b7'
        have HF7 : Hid (RdM w7 hF (.slice (some ⟨fb, foff, none⟩) nG capF) nG (fun _ => 4) (encN (d.shape 2).toNat (rowB d G R))) := HF5.out.below b7' (by omega)
        have zF7 : hF ≤ w7.heap.size := Nat.le_trans zF5 b7'.size
        clear b7'
        go_wp2
        go_roundw
        case rel => exact ⟨k + 1, by omega, by go_num, fun j hj => by
          by_cases c : j = k
          · rw [c]; exact HFK.out
          · exact HALL.out j (by omega), HT7.out, HF7.out, zF7⟩
        case measure => simp [intOf]; omega
      | false =>
        rw [hw] at q0
        have HW : Hid (D9.wiped = false) := hw
        have bD : Below W5.heap.size W5 W5.drew := ⟨rfl, rfl, rfl, Nat.le_refl _, fun _ _ => rfl⟩
        clear hw
        have CC0 := equalB_any (.slice ao0 y0 cap0) (.slice aoE 4 capE) y0 4 (D9.blocks.2 R).bytes.2 (encN (d.shape 2).toNat (rowB d G R) k) W5.heap.size W5.heap.size W5.drew r0 rE
        have CC : Calls Tryz.prog 63 (#[.slice ao0 y0 cap0, .slice aoE 4 capE] ++ #[]) W5.drew (BoolP (SameP y0 4 (D9.blocks.2 R).bytes.2 (encN (d.shape 2).toNat (rowB d G R) k)) W5.drew) := by rw [Array.append_empty]; exact CC0
        clear CC0 r0 rE
        refine wp_region_M 14 (fun w' => w'.cell? ⟨wx.heap.size, 0, none⟩ = some (.bool false) ∧ w'.cell? ⟨wx.heap.size, 1, none⟩ = some (.slice (some ⟨b5, off5, none⟩) m5 cap5) ∧ w'.cell? ⟨b5, off5 + R * 2 + 1, none⟩ = some (.slice ao0 y0 cap0) ∧ w'.cell? ⟨fb, foff + k, none⟩ = some (.slice aoE 4 capE)) mixedG ⟨q0, q1, q2, q3⟩ (fun hHeld => ?_)
        refine wpAnyM_pure (i := 0) (oi := _) (v := ?_) rfl (by kernel_rfl) (fun _ _ _ h => h) (Or.inl ⟨by kernel_rfl, ?_⟩) (by assumption) ?_
        rotate_left
        · intro w' hSw; go_simp; try with_reducible rfl
        try simp only [Act.put, SL]
        refine wpAnyM_take (i := 1) (oi := _) (v := ?_) 16 rfl (by kernel_rfl) (fun _ _ _ h => h) (Or.inl ⟨by kernel_rfl, ?_⟩) (by assumption) ?_
        rotate_left
        · intro w' hSw
          try dsimp only at hSw
          obtain ⟨hq0, hq1, hq2, hq3⟩ := hSw
          go_simp
          try with_reducible rfl
        try simp only [Act.put, SL]
        refine wpAnyM_pure (i := 2) (oi := _) (v := ?_) rfl (by kernel_rfl) (fun _ _ _ h => h) (Or.inl ⟨by kernel_rfl, ?_⟩) (by assumption) ?_
        rotate_left
        · intro w' hSw; go_simp; try with_reducible rfl
        try simp only [Act.put, SL]
        refine wpAnyM_pure (i := 3) (oi := _) (v := ?_) rfl (by kernel_rfl) (fun _ _ _ h => h) (Or.inl ⟨by kernel_rfl, ?_⟩) (by assumption) ?_
        rotate_left
        · intro w' hSw; go_simp; try with_reducible rfl
        try simp only [Act.put, SL]
        refine wpAnyM_pure (i := 4) (oi := _) (v := ?_) rfl (by kernel_rfl) (fun _ _ _ h => h) (Or.inl ⟨by kernel_rfl, ?_⟩) (by assumption) ?_
        rotate_left
        · intro w' hSw; go_simp; try with_reducible rfl
        try simp only [Act.put, SL]
        refine wpAnyM_take (i := 5) (oi := _) (v := ?_) 16 rfl (by kernel_rfl) (fun _ _ _ h => h) (Or.inl ⟨by kernel_rfl, ?_⟩) (by assumption) ?_
        rotate_left
        · intro w' hSw
          try dsimp only at hSw
          obtain ⟨hq0, hq1, hq2, hq3⟩ := hSw
          go_simp
          try with_reducible rfl
        try simp only [Act.put, SL]
        refine wpAnyM_pure (i := 6) (oi := _) (v := ?_) rfl (by kernel_rfl) (fun _ _ _ h => h) (Or.inl ⟨by kernel_rfl, ?_⟩) (by assumption) ?_
        rotate_left
        · intro w' hSw; go_simp; try with_reducible rfl
        try simp only [Act.put, SL]
        refine wpAnyM_pure (i := 7) (oi := _) (v := ?_) rfl (by kernel_rfl) (fun _ _ _ h => h) (Or.inl ⟨by kernel_rfl, ?_⟩) (by assumption) ?_
        rotate_left
        · intro w' hSw; go_simp; try with_reducible rfl
        try simp only [Act.put, SL]
        refine wpAnyM_pure (i := 8) (oi := _) (v := ?_) rfl (by kernel_rfl) (fun _ _ _ h => h) (Or.inl ⟨by kernel_rfl, ?_⟩) (by assumption) ?_
        rotate_left
        · intro w' hSw; go_simp; try with_reducible rfl
        try simp only [Act.put, SL]
        refine wpAnyM_take (i := 9) (oi := _) (v := ?_) 16 rfl (by kernel_rfl) (fun _ _ _ h => h) (Or.inl ⟨by kernel_rfl, ?_⟩) (by assumption) ?_
        rotate_left
        · intro w' hSw
          try dsimp only at hSw
          obtain ⟨hq0, hq1, hq2, hq3⟩ := hSw
          go_simp
          try with_reducible rfl
        try simp only [Act.put, SL]
        refine wpAnyM_pure (i := 10) (oi := _) (v := ?_) rfl (by kernel_rfl) (fun _ _ _ h => h) (Or.inl ⟨by kernel_rfl, ?_⟩) (by assumption) ?_
        rotate_left
        · intro w' hSw; go_simp; try with_reducible rfl
        try simp only [Act.put, SL]
        refine wpAnyM_pure (i := 11) (oi := _) (v := ?_) rfl (by kernel_rfl) (fun _ _ _ h => h) (Or.inl ⟨by kernel_rfl, ?_⟩) (by assumption) ?_
        rotate_left
        · intro w' hSw; go_simp; try with_reducible rfl
        try simp only [Act.put, SL]
        refine wpAnyM_pure (i := 12) (oi := _) (v := ?_) rfl (by kernel_rfl) (fun _ _ _ h => h) (Or.inl ⟨by kernel_rfl, ?_⟩) (by assumption) ?_
        rotate_left
        · intro w' hSw; go_simp; try with_reducible rfl
        try simp only [Act.put, SL]
        refine wpAnyM_take (i := 13) (oi := _) (v := ?_) 16 rfl (by kernel_rfl) (fun _ _ _ h => h) (Or.inl ⟨by kernel_rfl, ?_⟩) (by assumption) ?_
        rotate_left
        · intro w' hSw
          try dsimp only at hSw
          obtain ⟨hq0, hq1, hq2, hq3⟩ := hSw
          go_simp
          try with_reducible rfl
        try simp only [Act.put, SL]
        refine wpAnyM_one (i := 14) (o := _) rfl (by kernel_rfl) (by kernel_rfl) (fun KC hKC => ?_)
        refine step_callv (by kernel_rfl) (.func 63) 63 #[] _ _ rfl (by simp [Act.eval, Act.put]) #[.slice ao0 y0 cap0, .slice aoE 4 capE] (by simp [Act.eval, Act.put]) Tryz.func63 (by kernel_rfl) (by kernel_rfl) CC ?_
        rintro ee w7 ⟨t, rfl, ht, b7⟩
        refine ⟨_, rfl, ?_⟩
        refine hKC _ _ ?_
        clear hKC KC
        try simp only [Act.put, SL]
        refine wpAnyM_pureL (i := 15) (oi := _) (v := ?_) rfl (by kernel_rfl) (fun _ _ _ h => h) (Or.inl ⟨by kernel_rfl, ?_⟩) ?_
        rotate_left
        · intro w' hSw; go_simp; try with_reducible rfl
        try simp only [Act.put, SL]
        refine wpAnyM_pureL (i := 16) (oi := _) (v := ?_) rfl (by kernel_rfl) (fun _ _ _ h => h) (Or.inl ⟨by kernel_rfl, ?_⟩) ?_
        rotate_left
        · intro w' hSw; go_simp; try with_reducible rfl
        try simp only [Act.put, SL]
        refine wpAnyM_done (by kernel_rfl) ?_ _
        have b7' : Below W5.heap.size W5 w7 := bD.trans b7
        have HT : Hid (t = true ↔ fitK d G R k) := by
          show t = true ↔ fitK d G R k
          rw [ht]
          unfold fitK
          rw [← HD9.out, ← HY0.out]
          exact ⟨fun h _ => h, fun h => h HW.out⟩
        clear ht b7 bD CC hHeld q0 q1 q2 q3
        cases t with
        | true =>
          have HFK : Hid (fitK d G R k) := HT.out.1 (by simp)
          have HT7 : Hid (One w w7 #[.int .i64 (d.shape 0), .int .i64 (d.shape 1), .int .i64 (d.shape 2), .int .i64 (d.shape 3), .int .i64 (d.shape 4), .int .i64 (d.shape 5), .int .i64 (d.shape 6), .int .i64 (d.shape 7), .int .i64 (d.shape 8), .slice (some ⟨b1, off1, none⟩) d.groups.1 cap1, .slice ao2 d.on.1 cap2, .slice ao3 d.tapes.1 cap3, .int .i64 d.writes, .int .i64 d.stop, .bool d.down] 37) := HT5.out.call b7'
          have HF7 : Hid (RdM w7 hF (.slice (some ⟨fb, foff, none⟩) nG capF) nG (fun _ => 4) (encN (d.shape 2).toNat (rowB d G R))) := HF5.out.below b7' (by omega)
          have zF7 : hF ≤ w7.heap.size := Nat.le_trans zF5 b7'.size
          clear b7'
          go_wp2
          go_roundw
          case rel => exact ⟨k + 1, by omega, by go_num, fun j hj => by
            by_cases c : j = k
            · rw [c]; exact HFK.out
            · exact HALL.out j (by omega), HT7.out, HF7.out, zF7⟩
          case measure => simp [intOf]; omega
        | false =>
          have HFK : Hid (¬ fitK d G R k) := fun h => absurd (HT.out.2 h) (by simp)
          have HT7 : Hid (One w w7 #[.int .i64 (d.shape 0), .int .i64 (d.shape 1), .int .i64 (d.shape 2), .int .i64 (d.shape 3), .int .i64 (d.shape 4), .int .i64 (d.shape 5), .int .i64 (d.shape 6), .int .i64 (d.shape 7), .int .i64 (d.shape 8), .slice (some ⟨b1, off1, none⟩) d.groups.1 cap1, .slice ao2 d.on.1 cap2, .slice ao3 d.tapes.1 cap3, .int .i64 d.writes, .int .i64 d.stop, .bool d.down] 37) := HT5.out.call b7'
          clear b7'
          go_wp2
          go_ret
          exact boolNo rfl (fun h => HFK.out (h k (by rw [← HNG.out]; exact hlt))) HT7.out.bel
    · obtain rfl : k = nG := by omega
      clear T F hlt
      go_wp2
      go_ret
      exact boolYes rfl (fun j hj => HALL.out j (by rw [HNG.out]; exact hj)) HT.out.bel
end Go.Proofs.YtkijpgfmjogagaaGreat
namespace Go.Proofs.YtkijpgfmjogagaaGreat
open Go.RowKit F256
def GhP (d : WorldD) (g : Int) : Prop := KnowAns d g 0 ∧ ¬ DeadP d g.toNat ∧ ∀ R : Nat, (R : Int) < d.shape 4 → fitP d g.toNat R
set_option maxHeartbeats 16000000 in
set_option maxRecDepth 20000 in
theorem implGh_any (d : WorldD) (g : Int) (cs : List Value) (hi : Nat) (w : World) (h : layWorld.rd w hi d cs) (hhi : hi ≤ w.heap.size) (hsz : szWorldD d ≤ 1048576) :
    Calls Tryz.prog 15 #[.agg cs.toArray, .int .i64 g] w (BoolP (GhP d g) w) := by
  have h' := h
  obtain ⟨ao1, cap1, ao2, cap2, ao3, cap3, rfl, g1, g2, g3, k0, k4, k5⟩ := World_rd h'
  have HRD : Hid (layWorld.rd w hi d [.int .i64 (d.shape 0), .int .i64 (d.shape 1), .int .i64 (d.shape 2), .int .i64 (d.shape 3), .int .i64 (d.shape 4), .int .i64 (d.shape 5), .int .i64 (d.shape 6), .int .i64 (d.shape 7), .int .i64 (d.shape 8), .slice ao1 d.groups.1 cap1, .slice ao2 d.on.1 cap2, .slice ao3 d.tapes.1 cap3, .int .i64 d.writes, .int .i64 d.stop, .bool d.down]) := h
  clear h h' g1 g2 g3 k0 k4 k5
  have T0 := one_new w #[.int .i64 (d.shape 0), .int .i64 (d.shape 1), .int .i64 (d.shape 2), .int .i64 (d.shape 3), .int .i64 (d.shape 4), .int .i64 (d.shape 5), .int .i64 (d.shape 6), .int .i64 (d.shape 7), .int .i64 (d.shape 8), .slice ao1 d.groups.1 cap1, .slice ao2 d.on.1 cap2, .slice ao3 d.tapes.1 cap3, .int .i64 d.writes, .int .i64 d.stop, .bool d.down] 37
  go_enter Tryz.func15, Tryz.ntmps15
  go_wp2_with (refine wp_loadBox 37 (.tmp 2) rfl rfl (w.heap.size) rfl (cs := [.int .i64 (d.shape 0), .int .i64 (d.shape 1), .int .i64 (d.shape 2), .int .i64 (d.shape 3), .int .i64 (d.shape 4), .int .i64 (d.shape 5), .int .i64 (d.shape 6), .int .i64 (d.shape 7), .int .i64 (d.shape 8), .slice ao1 d.groups.1 cap1, .slice ao2 d.on.1 cap2, .slice ao3 d.tapes.1 cap3, .int .i64 d.writes, .int .i64 d.stop, .bool d.down]) (T0.b1) Tryz.underlying37 size_W rfl ?_)
  refine (knownFault_any d g _ hi _ (layWorld.rd_below HRD.out T0.bel hhi) (Nat.le_trans hhi T0.bel.size) hsz).mono ?_
  rintro e w1 ⟨x, rfl, hx, b1⟩
  have HT1 : Hid (One w w1 #[.int .i64 (d.shape 0), .int .i64 (d.shape 1), .int .i64 (d.shape 2), .int .i64 (d.shape 3), .int .i64 (d.shape 4), .int .i64 (d.shape 5), .int .i64 (d.shape 6), .int .i64 (d.shape 7), .int .i64 (d.shape 8), .slice ao1 d.groups.1 cap1, .slice ao2 d.on.1 cap2, .slice ao3 d.tapes.1 cap3, .int .i64 d.writes, .int .i64 d.stop, .bool d.down] 37) := T0.call b1
  have HX : Hid (KnowAns d g x) := hx
  have z1 : w.heap.size < w1.heap.size := HT1.out.b1.lt
  clear b1 T0 hx
  by_cases hx0 : x = 0
  case neg =>
    have hne : (x != 0) = true := by simp [hx0]
    have HN : Hid (x ≠ 0) := hx0
    clear hx0
    go_wp2
    go_ret
    exact boolNo rfl (fun h => HN.out (HX.out.one h.1)) HT1.out.bel
  subst hx0
  have hK := KnowAns.zero HX.out
  have HOK : Hid (OkWorld d) := WldAns.ok hK.1
  obtain ⟨G, hGe⟩ : ∃ G : Nat, g = (G : Int) := ⟨g.toNat, by have := hK.2.1; omega⟩
  subst hGe
  have hG : G < d.groups.1 := by have h1 := hK.2.2; have h2 := HOK.out.form.1.1; omega
  have CD := isDead_any d _ hi G w1 (layWorld.rd_below HRD.out HT1.out.bel hhi) (by omega) hG
  clear hK
  have xw_0 : w1.cell? ⟨w.heap.size, 0, none⟩ = some (.int .i64 (d.shape 0)) := HT1.out.b1.cell 0
  have xw_1 : w1.cell? ⟨w.heap.size, 1, none⟩ = some (.int .i64 (d.shape 1)) := HT1.out.b1.cell 1
  have xw_2 : w1.cell? ⟨w.heap.size, 2, none⟩ = some (.int .i64 (d.shape 2)) := HT1.out.b1.cell 2
  have xw_3 : w1.cell? ⟨w.heap.size, 3, none⟩ = some (.int .i64 (d.shape 3)) := HT1.out.b1.cell 3
  have xw_4 : w1.cell? ⟨w.heap.size, 4, none⟩ = some (.int .i64 (d.shape 4)) := HT1.out.b1.cell 4
  have xw_5 : w1.cell? ⟨w.heap.size, 5, none⟩ = some (.int .i64 (d.shape 5)) := HT1.out.b1.cell 5
  have xw_6 : w1.cell? ⟨w.heap.size, 6, none⟩ = some (.int .i64 (d.shape 6)) := HT1.out.b1.cell 6
  have xw_7 : w1.cell? ⟨w.heap.size, 7, none⟩ = some (.int .i64 (d.shape 7)) := HT1.out.b1.cell 7
  have xw_8 : w1.cell? ⟨w.heap.size, 8, none⟩ = some (.int .i64 (d.shape 8)) := HT1.out.b1.cell 8
  have xw_9 : w1.cell? ⟨w.heap.size, 9, none⟩ = some (.slice ao1 d.groups.1 cap1) := HT1.out.b1.cell 9
  have xw_10 : w1.cell? ⟨w.heap.size, 10, none⟩ = some (.slice ao2 d.on.1 cap2) := HT1.out.b1.cell 10
  have xw_11 : w1.cell? ⟨w.heap.size, 11, none⟩ = some (.slice ao3 d.tapes.1 cap3) := HT1.out.b1.cell 11
  have xw_12 : w1.cell? ⟨w.heap.size, 12, none⟩ = some (.int .i64 d.writes) := HT1.out.b1.cell 12
  have xw_13 : w1.cell? ⟨w.heap.size, 13, none⟩ = some (.int .i64 d.stop) := HT1.out.b1.cell 13
  have xw_14 : w1.cell? ⟨w.heap.size, 14, none⟩ = some (.bool d.down) := HT1.out.b1.cell 14
  go_wp2_with fail
  refine CD.mono ?_
  rintro e w2 ⟨t, rfl, ht, b2⟩
  have HT2 : Hid (One w w2 #[.int .i64 (d.shape 0), .int .i64 (d.shape 1), .int .i64 (d.shape 2), .int .i64 (d.shape 3), .int .i64 (d.shape 4), .int .i64 (d.shape 5), .int .i64 (d.shape 6), .int .i64 (d.shape 7), .int .i64 (d.shape 8), .slice ao1 d.groups.1 cap1, .slice ao2 d.on.1 cap2, .slice ao3 d.tapes.1 cap3, .int .i64 d.writes, .int .i64 d.stop, .bool d.down] 37) := HT1.out.call b2
  have HTD : Hid (t = true ↔ DeadP d G) := ht
  clear ht b2 CD HT1 xw_0 xw_1 xw_2 xw_3 xw_4 xw_5 xw_6 xw_7 xw_8 xw_9 xw_10 xw_11 xw_12 xw_13 xw_14
  cases t with
  | true =>
    go_wp2
    go_ret
    exact boolNo rfl (fun h => h.2.1 (HTD.out.1 (by simp))) HT2.out.bel
  | false =>
    have HND : Hid (¬ DeadP d G) := fun h => absurd (HTD.out.2 h) (by simp)
    obtain ⟨N, hN⟩ : ∃ N : Nat, d.shape 4 = (N : Int) := ⟨(d.shape 4).toNat, by
      obtain ⟨s1, q, s3, _⟩ := HOK.out.shape
      omega⟩
    have HNN : Hid (d.shape 4 = (N : Int)) := hN
    have hN6 : N ≤ 100 := by
      obtain ⟨s1, q, s3, _⟩ := HOK.out.shape
      omega
    have x4 : w2.cell? ⟨w.heap.size, 4, none⟩ = some (.int .i64 (N : Int)) := by rw [← hN]; exact HT2.out.b1.cell 4
    clear hN
    go_wp2
    go_loopw [18] (fun i wr => ∃ R : Nat, R ≤ N ∧ i = .int .i64 R ∧ (∀ j, j < R → fitP d G j) ∧ One w wr #[.int .i64 (d.shape 0), .int .i64 (d.shape 1), .int .i64 (d.shape 2), .int .i64 (d.shape 3), .int .i64 (d.shape 4), .int .i64 (d.shape 5), .int .i64 (d.shape 6), .int .i64 (d.shape 7), .int .i64 (d.shape 8), .slice ao1 d.groups.1 cap1, .slice ao2 d.on.1 cap2, .slice ao3 d.tapes.1 cap3, .int .i64 d.writes, .int .i64 d.stop, .bool d.down] 37) (fun i _ => N - (intOf i).toNat)
    case atStart => exact ⟨0, Nat.zero_le _, rfl, fun j hj => by omega, HT2.out⟩
    case round =>
      clear x4 HT2
      obtain ⟨R, hR, rfl, hall, T⟩ := hrel
      obtain ⟨wx, rfl⟩ : ∃ y, y = wr := ⟨_, rfl⟩
      have HALL : Hid (∀ j, j < R → fitP d G j) := hall
      have HT : Hid (One w wx #[.int .i64 (d.shape 0), .int .i64 (d.shape 1), .int .i64 (d.shape 2), .int .i64 (d.shape 3), .int .i64 (d.shape 4), .int .i64 (d.shape 5), .int .i64 (d.shape 6), .int .i64 (d.shape 7), .int .i64 (d.shape 8), .slice ao1 d.groups.1 cap1, .slice ao2 d.on.1 cap2, .slice ao3 d.tapes.1 cap3, .int .i64 d.writes, .int .i64 d.stop, .bool d.down] 37) := T
      clear hall
      by_cases hlt : R < N
      · have CS := rowHolds_any d _ hi G R wx (layWorld.rd_below HRD.out T.bel hhi) (Nat.le_trans hhi T.bel.size) hG HOK.out HND.out (by rw [HNN.out]; omega)
        have t1 : (R : Int) < (N : Int) := by omega
        clear T
        go_wp2_with (refine wp_loadBox 37 (.tmp 2) rfl rfl (w.heap.size) rfl (cs := [.int .i64 (d.shape 0), .int .i64 (d.shape 1), .int .i64 (d.shape 2), .int .i64 (d.shape 3), .int .i64 (d.shape 4), .int .i64 (d.shape 5), .int .i64 (d.shape 6), .int .i64 (d.shape 7), .int .i64 (d.shape 8), .slice ao1 d.groups.1 cap1, .slice ao2 d.on.1 cap2, .slice ao3 d.tapes.1 cap3, .int .i64 d.writes, .int .i64 d.stop, .bool d.down]) (HT.out.b1) Tryz.underlying37 size_W rfl ?_)
        refine CS.mono ?_
        rintro e w3 ⟨t, rfl, ht, b3⟩
        have HT3 : Hid (One w w3 #[.int .i64 (d.shape 0), .int .i64 (d.shape 1), .int .i64 (d.shape 2), .int .i64 (d.shape 3), .int .i64 (d.shape 4), .int .i64 (d.shape 5), .int .i64 (d.shape 6), .int .i64 (d.shape 7), .int .i64 (d.shape 8), .slice ao1 d.groups.1 cap1, .slice ao2 d.on.1 cap2, .slice ao3 d.tapes.1 cap3, .int .i64 d.writes, .int .i64 d.stop, .bool d.down] 37) := HT.out.call b3
        have HF : Hid (t = true ↔ fitP d G R) := ht
        clear ht b3 CS HT
        cases t with
        | true =>
          go_wp2
          go_roundw
          case rel => exact ⟨R + 1, by omega, by go_num, fun j hj => by
                        by_cases c : j = R
                        · rw [c]; exact HF.out.1 (by simp)
                        · exact HALL.out j (by omega), HT3.out⟩
          case measure => simp [intOf]; omega
        | false =>
          go_wp2
          go_ret
          exact boolNo rfl (fun h => absurd (HF.out.2 (h.2.2 R (by rw [HNN.out]; omega))) (by simp)) HT3.out.bel
      · obtain rfl : R = N := by omega
        clear T hlt
        go_wp2
        go_ret
        exact boolYes rfl ⟨HX.out, HND.out, fun j hj => HALL.out j (by rw [HNN.out] at hj; omega)⟩ HT.out.bel
end Go.Proofs.YtkijpgfmjogagaaGreat