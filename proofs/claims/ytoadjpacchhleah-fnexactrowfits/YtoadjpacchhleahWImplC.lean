/- Walk of the program's blocksOf. -/
import Derived.Test.YtoadjpacchhleahWImplB
namespace Go.Proofs.Ytoadjpacchhleah
open Go.RowKit F256
set_option linter.unusedVariables false
set_option linter.unusedSimpArgs false

set_option maxHeartbeats 4000000 in
theorem blocksOf_any (D S : Nat) (hD1 : 1 ≤ D) (hD : D ≤ 3) (hS : S ≤ 2) (vb : Value) (b : Nat → Nat) (h1 : Nat) (w : World) (rb : Rd w h1 vb (4 * D) b) (hh : h1 ≤ w.heap.size) (kb : ∀ i, b i < 256) :
    Calls Try.prog 51 #[.int .i64 D, .int .i64 S, vb] w fun e w' => ∃ v', e = .returned v' ∧ (∃ g cap h C, FlatE w' w.heap.size w'.heap.size v' (D + S) (encN D b) g cap h C) ∧ Below w.heap.size w w' := by
  have R1 := fun (w1 : World) (hb : Below w.heap.size w w1) => rb.below hb hh
  obtain ⟨aob, capb, rfl, hmb, hcb⟩ := rb
  clear hcb hmb
  have HR1 : Hid (∀ (w1 : World), Below w.heap.size w w1 → Rd w1 h1 (.slice aob (4 * D) capb) (4 * D) b) := R1
  clear R1
  have hs4 : (S : Int) * 4 = ((4 * S : Nat) : Int) := by omega
  obtain ⟨Q, hQ⟩ : ∃ Q, Q = 4 * S := ⟨_, rfl⟩
  rw [← hQ] at hs4
  have HQ : Hid (Q = 4 * S) := hQ
  have hQ8 : Q ≤ 8 := by omega
  obtain ⟨P, hP⟩ : ∃ P, P = 4 * D := ⟨_, rfl⟩
  rw [← hP] at HR1 ⊢
  have HP : Hid (P = 4 * D) := hP
  have hP12 : P ≤ 12 := by omega
  clear hQ hP
  go_enter Try.func51, Try.ntmps51
  go_wp2_with (at_make; refine wp_makeB _ rfl _ _ rfl _ _ Q rfl rfl (by first | omega | simp [hs4]) (by first | omega | simp [hs4]) (by omega) ?_; intro w1 hown1 hb1 hz1)
  refine (joined_pad _ _ P Q b h1 w1.heap.size w1 (HR1.out w1 hb1) hown1.rd (Nat.le_trans hh hb1.size) (Nat.le_refl _) (by omega) (by omega)).mono ?_
  rintro e w2 ⟨v2, rfl, o2, b2⟩
  have B2 : Below w.heap.size w w2 := hb1.trans (b2.mono hb1.size)
  have hPQ : P + Q = 4 * (D + S) := by rw [HP.out, HQ.out]; omega
  rw [hPQ] at o2
  obtain ⟨h, C, rfl, hlo, hhi, hhw, hcap⟩ := o2.form (by omega)
  have s1 := hb1.size
  have s2 := b2.size
  clear hown1 hb1 b2 hz1
  have CB := cutBlocks_any h C (D + S) w.heap.size w2.heap.size _ w2 (o2.weaken s1 (Nat.le_refl _)) (Nat.le_refl _) (by omega)
  obtain ⟨T, hT⟩ : ∃ T, T = 4 * (D + S) := ⟨_, rfl⟩
  rw [← hT] at CB ⊢
  have HT : Hid (T = 4 * (D + S)) := hT
  clear o2 hT hPQ
  go_wp2_with fail
  refine CB.mono ?_
  rintro e w3 ⟨v3, rfl, ⟨cap3, F3⟩, b3⟩
  have B3 : Below w.heap.size w w3 := B2.trans (b3.mono B2.size)
  have F3' : FlatE w3 w.heap.size w3.heap.size v3 (D + S) (wayN D b D 0) w2.heap.size cap3 h C := F3.congr (fun i j hi hj => wayN_start (S := S) (fun t ht => by rw [← HP.out]) i j hi hj)
  have hv3 := F3.val
  subst hv3
  have z3 : w3.heap.size ≤ w3.heap.size := Nat.le_refl _
  have hgne : h ≠ w2.heap.size := by omega
  clear F3 b3 CB B2 HR1
  go_wp2
  go_loopw [8] (fun p wr => ∃ P : Nat, D ≤ P ∧ P ≤ D + S ∧ p = .int .i64 P ∧ FlatE wr w.heap.size w3.heap.size (.slice (some ⟨w2.heap.size, 0, none⟩) (D + S) cap3) (D + S) (wayN D b P 0) w2.heap.size cap3 h C ∧ Below w.heap.size w wr ∧ w3.heap.size ≤ wr.heap.size) (fun p _ => D + S - (intOf p).toNat)
  case atStart => exact ⟨D, Nat.le_refl _, by omega, rfl, F3', B3, Nat.le_refl _⟩
  case round =>
    clear F3' B3
    obtain ⟨P, hP1, hP2, rfl, hF, hbel, hsz⟩ := hrel
    have hhw3 : h < w3.heap.size := hF.hhigh
    have hgw3 : w2.heap.size < w3.heap.size := hF.high
    by_cases hlt : P < D + S
    · have hlti : (P : Int) < (D : Int) + (S : Int) := by omega
      have CF := factorsAt_any D P (by omega) (by omega) wr
      have HF : Hid (FlatE wr w.heap.size w3.heap.size (.slice (some ⟨w2.heap.size, 0, none⟩) (D + S) cap3) (D + S) (wayN D b P 0) w2.heap.size cap3 h C) := hF
      have HBL : Hid (Below w.heap.size w wr) := hbel
      obtain ⟨wk, hwk⟩ : ∃ wk, wk = wr := ⟨_, rfl⟩
      rw [← hwk] at CF HF HBL hsz ⊢
      clear hF hbel hwk
      go_wp2_with fail
      refine CF.mono ?_
      rintro e w6 ⟨v6, rfl, o6, b6⟩
      obtain ⟨gv, capv, hgv, h61, h62, h63, h64⟩ := o6.form (by omega)
      subst hgv
      have F6 := HF.out.below b6 hsz
      have B6 : Below w.heap.size w w6 := HBL.out.trans (b6.mono HBL.out.size)
      have s6 := b6.size
      clear CF b6 HF HBL
      go_wp2
      go_loopw [29] (fun i wr => ∃ m : Nat, m ≤ D ∧ i = .int .i64 m ∧ FlatE wr w.heap.size w3.heap.size (.slice (some ⟨w2.heap.size, 0, none⟩) (D + S) cap3) (D + S) (wayN D b P m) w2.heap.size cap3 h C ∧ Own wr wk.heap.size w6.heap.size (.slice (some ⟨gv, 0, none⟩) D capv) D (genN D P 0) ∧ Below w.heap.size w wr ∧ w6.heap.size ≤ wr.heap.size) (fun i _ => D - (intOf i).toNat)
      case atStart => exact ⟨0, Nat.zero_le _, rfl, F6, o6, B6, Nat.le_refl _⟩
      case round =>
        clear F6 o6 B6
        obtain ⟨m, hm, rfl, hF, ho, hbel, hsz6⟩ := hrel
        by_cases hmD : m < D
        · obtain ⟨A, hA⟩ : ∃ A, A = 4 * P := ⟨_, rfl⟩
          obtain ⟨B, hB⟩ : ∃ B, B = 4 * m := ⟨_, rfl⟩
          obtain ⟨y, hy⟩ : ∃ y, y = genN D P 0 m := ⟨_, rfl⟩
          have c1 : wr.cell? ⟨w2.heap.size, P, none⟩ = some (.slice (some ⟨h, A, none⟩) 4 4) := by rw [hA]; exact hF.cell P hlt
          have c2 : wr.cell? ⟨w2.heap.size, m, none⟩ = some (.slice (some ⟨h, B, none⟩) 4 4) := by rw [hB]; exact hF.cell m (by omega)
          have c3 : wr.cell? ⟨gv, m, none⟩ = some (.int .u8 y) := by rw [hy]; exact (ho.1.cellAt m (by omega)).trans (cellsOf_get _ _ _ hmD)
          have HF : Hid (FlatE wr w.heap.size w3.heap.size (.slice (some ⟨w2.heap.size, 0, none⟩) (D + S) cap3) (D + S) (wayN D b P m) w2.heap.size cap3 h C) := hF
          have HO : Hid (Own wr wk.heap.size w6.heap.size (.slice (some ⟨gv, 0, none⟩) D capv) D (genN D P 0)) := ho
          have HBL : Hid (Below w.heap.size w wr) := hbel
          have HA : Hid (A = 4 * P) := hA
          have HB : Hid (B = 4 * m) := hB
          have HY : Hid (y = genN D P 0 m) := hy
          have hmS : m < D + S := by omega
          have hhr : h < wr.heap.size := by omega
          have CA : ∀ q, Calls Try.prog 38 #[.slice (some ⟨h, A, none⟩) 4 4, .slice (some ⟨h, B, none⟩) 4 4, .int .u8 y] (wr.drewN q) fun e w' => e = .returned (.tuple #[]) ∧ Own w' h (h + 1) (.slice (some ⟨h, 0, none⟩) (4 * (D + S)) C) (4 * (D + S)) (joinN (wayN D b P (m + 1))) ∧ Chg h (h + 1) (wr.drewN q) w' := fun q =>
            addScaled_at h C (4 * (D + S)) A 4 (joinN (wayN D b P m)) (wayN D b P m m) (joinN (wayN D b P (m + 1))) y h (h + 1) h B 4 4 (wr.drewN q) hF.flat (by omega) hhr hhr (fun _ => by omega) (.inr ⟨rfl, .inl (by omega)⟩) (fun i hi => by rw [hB]; exact hF.at m i hmS hi) (Nat.le_refl _) (Nat.lt_succ_self _)
              (fun i => wayN_byt kb P m _ _) (fun i => wayN_byt kb P m _ _) (by rw [hy]; exact genN_lt D P 0 m) (fun t _ => by rw [hA, hy]; exact wayN_step (R := 0) hP1 hmD t) (by omega)
          have CA1 := CA 1
          clear hF ho hbel hA hB hy CA
          go_wp2
          go_region_with (go_at_call 38; refine CA1.mono ?_; rintro e w7 ⟨rfl, o7, ch7⟩)
          all_goals
            have F7 := (HF.out.kept (w' := wr.drewN 1) rfl rfl).set o7 ch7
            have O7 : Own w7 wk.heap.size w6.heap.size (.slice (some ⟨gv, 0, none⟩) D capv) D (genN D P 0) := (show Own (wr.drewN 1) wk.heap.size w6.heap.size (.slice (some ⟨gv, 0, none⟩) D capv) D (genN D P 0) from HO.out).chg ch7 (.inr (by omega))
            have B7 : Below w.heap.size w w7 := (below_drewN HBL.out 1).trans (ch7.below (by omega) HBL.out.size)
            have S7 : w6.heap.size ≤ w7.heap.size := Nat.le_trans hsz6 ch7.size
            clear o7 ch7 HF HO HBL CA1 c1 c2 c3
            go_wp2
            go_roundw
            case rel => exact ⟨m + 1, by omega, by go_num, F7, O7, B7, S7⟩
            case measure => simp [intOf]; omega
        · obtain rfl : m = D := by omega
          have F8 := hF.congr (f' := wayN m b (P + 1) 0) (fun i j _ _ => wayN_next hP1 i j)
          clear hF ho
          go_wp2
          go_roundw
          case rel => exact ⟨P + 1, by omega, by omega, by go_num, F8, hbel, by omega⟩
          case measure => simp [intOf]; omega
    · obtain rfl : P = D + S := by omega
      have F9 := hF.congr (f' := encN D b) (fun i j hi _ => by simp [wayN, hi])
      have hlti : ¬ (((D + S : Nat) : Int) < (D : Int) + (S : Int)) := by omega
      clear hF
      go_wp2
      go_ret
      exact ⟨_, rfl, ⟨_, _, _, _, F9.weaken (Nat.le_refl _) hsz⟩, hbel⟩
end Go.Proofs.Ytoadjpacchhleah
