/- Walk of the program's RowFits. -/
import Derived.Test.YtoadjpacchhleahWImplC
import Derived.Test.YtoadjpacchhleahWImplG
import Derived.Laws.Cover3
import Derived.Stop.BytesEq
import Derived.BigQuiet
import Derived.Deep.QuietTactic
namespace Go.Proofs.Ytoadjpacchhleah
open Go.RowKit F256
set_option linter.unusedVariables false
set_option linter.unusedSimpArgs false

/-- four bytes as an array -/
def arr4 (f : Nat → Nat) : Value := .agg #[.int .u8 (f 0), .int .u8 (f 1), .int .u8 (f 2), .int .u8 (f 3)]
theorem arr4_cells (f : Nat → Nat) (h : ∀ j, f j < 256) : arr4 f = .agg (([UInt8.ofNat (f 0), UInt8.ofNat (f 1), UInt8.ofNat (f 2), UInt8.ofNat (f 3)] : List UInt8).map Extern.Stop.cell).toArray := by
  have e : ∀ j, Extern.Stop.cell (UInt8.ofNat (f j)) = Value.int .u8 (f j) := fun j => by
    have : (UInt8.ofNat (f j)).toNat = f j := by simp [UInt8.toNat_ofNat, Nat.mod_eq_of_lt (h j)]
    simp [Extern.Stop.cell, this]
  simp [arr4, e]
theorem ofNat_eq {a b : Nat} (ha : a < 256) (hb : b < 256) : UInt8.ofNat a = UInt8.ofNat b ↔ a = b := by
  have e : ∀ x, x < 256 → (UInt8.ofNat x).toNat = x := fun x hx => by simp [Nat.mod_eq_of_lt hx]
  rw [← UInt8.toNat_inj, e a ha, e b hb]
theorem eq4_run (f g : Nat → Nat) (hf : ∀ j, f j < 256) (hg : ∀ j, g j < 256) (b : Bool) (hb : b = true ↔ ∀ j, j < 4 → f j = g j) (w : World) : (Op.equalIn 10000 66 (arr4 f) (arr4 g)).run Try.prog w = .ok b w := by
  rw [arr4_cells f hf, arr4_cells g hg, run_equalIn_bytes w 9998 66 5 4 Try.underlying66 Try.underlying5 (fun w => by kernel_rfl) _ _ rfl rfl]
  congr 1
  rw [Bool.eq_iff_iff, hb]
  simp only [beq_iff_eq, List.cons.injEq, and_true]
  rw [ofNat_eq (hf 0) (hg 0), ofNat_eq (hf 1) (hg 1), ofNat_eq (hf 2) (hg 2), ofNat_eq (hf 3) (hg 3)]
  constructor
  · rintro ⟨h0, h1, h2, h3⟩ j hj
    match j, hj with
    | 0, _ => exact h0
    | 1, _ => exact h1
    | 2, _ => exact h2
    | 3, _ => exact h3
  · exact fun h => ⟨h 0 (by omega), h 1 (by omega), h 2 (by omega), h 3 (by omega)⟩

theorem cntN_all {n : Nat → Nat} : ∀ {k : Nat}, (∀ i, i < k → n i ≠ 0) → cntN n k = k
  | 0, _ => rfl
  | k + 1, h => by rw [cntN, if_neg (h k (by omega)), cntN_all (fun i hi => h i (by omega))]
theorem nthN_all {n : Nat → Nat} {R t : Nat} (h : ∀ i, i < R → n i ≠ 0) (ht : t < R) : nthN n R t = t := by
  have := nthN_is (n := n) ht (h t ht)
  rw [cntN_all (fun i hi => h i (by omega))] at this
  exact this
/-- where all blocks are there the bytes are the data blocks' -/
theorem decN_all {D R : Nat} {n : Nat → Nat} {f : Mat} (hD1 : 1 ≤ D) (hD : D ≤ 3) (hR : R ≤ D + 2) (hDR : D ≤ R) (h4 : ∀ i, i < R → n i = 4) (kf : Byt f) (t : Nat) (ht : t < 4 * D) : decN D n R f t = joinN f t := by
  have hn : ∀ i, i < R → n i ≠ 0 := fun i hi => by rw [h4 i hi]; omega
  have h1 := blockN_is (t0 := t / 4) hD1 hD hR (by rw [cntN_all hn]; exact hDR) (fun i hi => .inr (h4 i hi)) kf (by omega) (t % 4)
  rw [nthN_all hn (by omega)] at h1
  exact h1

set_option maxHeartbeats 4000000 in
theorem implFits_rd (d s : Int) (v : Value) (R : Nat) (n : Nat → Nat) (f : Mat) (h1 : Nat) (w : World) (r1 : RdM w h1 v R n f) (hh : h1 ≤ w.heap.size) (kf : Byt f) :
    Calls Try.prog 34 #[.int .i64 d, .int .i64 s, v] w (BoolP (FitsP d s R n f) w) := by
  have HR : Hid (RdM w h1 v R n f) := r1
  obtain ⟨ao, cap, e, rfl, hmR, hc, he⟩ := r1
  unfold maxLen at hmR
  have HHE : Hid (∀ i, i < R → Rd w h1 (e i) (n i) (f i)) := he
  have HHC : Hid (R ≠ 0 → ∃ b off, ao = some ⟨b, off, none⟩ ∧ b < h1 ∧ ∀ i, i < R → w.cell? ⟨b, off + i, none⟩ = some (e i)) := hc
  clear hc he
  go_enter Try.func34, Try.ntmps34
  go_wp2_with fail
  refine (rowInBounds_any d s _).mono ?_
  rintro e0 w1 ⟨b1, rfl, hb1, B1⟩
  have HS : Hid (b1 = true ↔ Shp d s) := hb1
  clear hb1
  cases b1 with
  | false =>
    have HNO : Hid (¬ FitsP d s R n f) := fun h => by have := HS.out.mpr h.1; cases this
    clear HS
    go_wp2
    go_ret
    exact boolNo rfl HNO.out B1
  | true =>
    have hsh := HS.out.mp rfl
    have HSH : Hid (Shp d s) := hsh
    obtain ⟨q1, q2, q3, q4⟩ := hsh
    obtain ⟨D, rfl⟩ : ∃ D : Nat, d = D := ⟨d.toNat, by omega⟩
    obtain ⟨S, rfl⟩ : ∃ S : Nat, s = S := ⟨s.toNat, by omega⟩
    have CT := allThere_any (.slice ao R cap) R n f h1 ((D : Int) + (S : Int)) w1 (HR.out.below B1 hh)
    clear HS
    go_wp2_with fail
    refine CT.mono ?_
    rintro e0 w2 ⟨b2, rfl, hb2, b2'⟩
    have HT : Hid (b2 = true ↔ WholeP R n ((D : Int) + (S : Int))) := hb2
    have B2 : Below w.heap.size w w2 := B1.trans (b2'.mono B1.size)
    clear hb2 b2' B1 CT
    cases b2 with
    | false =>
      have HNO : Hid (¬ FitsP (D : Int) (S : Int) R n f) := fun h => by have := HT.out.mpr h.2.1; cases this
      clear HT
      go_wp2
      go_ret
      exact boolNo rfl HNO.out B2
    | true =>
      have hth := HT.out.mp rfl
      have HTH : Hid (WholeP R n ((D : Int) + (S : Int))) := hth
      have hRD0 : R = D + S := by have := hth.2; omega
      have HRD : Hid (R = D + S) := hRD0
      have hR0 : 0 < R := by omega
      have hcnt : D ≤ cntN n R := by rw [cntN_all (fun i hi => by rw [hth.1 i hi]; omega)]; omega
      have CF := firstThere_any D (.slice ao R cap) R n f h1 w2 (HR.out.below B2 hh) (Nat.le_trans hh B2.size) (by omega)
      have CBf := fun (w3 : World) (B3 : Below w.heap.size w w3) (v3 : Value) (o3 : OwnI w3 w2.heap.size w3.heap.size v3 D (fun t => (nthN n R t : Int))) => bytesFrom_any D (.slice ao R cap) v3 R n f h1 w3.heap.size w3 (HR.out.below B3 hh) o3.rd (Nat.le_trans hh B3.size) (Nat.le_refl _) (by omega) (by omega) (by omega) hcnt (fun i hi => .inr (hth.1 i hi)) kf
      have HCB : Hid (∀ (w3 : World), Below w.heap.size w w3 → ∀ (v3 : Value), OwnI w3 w2.heap.size w3.heap.size v3 D (fun t => (nthN n R t : Int)) → Calls Try.prog 57 #[.int .i64 D, .slice ao R cap, v3] w3 fun e w' => ∃ v', e = .returned v' ∧ Own w' w3.heap.size w'.heap.size v' (4 * D) (decN D n R f) ∧ Below w3.heap.size w3 w') := CBf
      have HDA : Hid (∀ t, t < 4 * D → decN D n R f t = joinN f t) := fun t ht => decN_all (by omega) (by omega) (by omega) (by omega) hth.1 kf t ht
      rw [pickN_all hcnt] at CF
      clear HT hth hRD0 hcnt CBf
      go_wp2_with fail
      refine CF.mono ?_
      rintro e0 w3 ⟨v3, rfl, o3, b3⟩
      have B3 : Below w.heap.size w w3 := B2.trans (b3.mono B2.size)
      have CB := HCB.out w3 B3 v3 o3
      obtain ⟨ao3, cap3, rfl⟩ := o3.slice
      clear CF o3 b3 B2 HCB
      go_wp2_with fail
      refine CB.mono ?_
      rintro e0 w4 ⟨v4, rfl, o4, b4⟩
      have B4 : Below w.heap.size w w4 := B3.trans (b4.mono B3.size)
      have CE := blocksOf_any D S (by omega) (by omega) (by omega) v4 (joinN f) w4.heap.size w4 (o4.congr HDA.out).rd (Nat.le_refl _) (fun i => kf _ _)
      obtain ⟨ao4, cap4, rfl⟩ := o4.slice
      clear CB o4 b4 B3
      go_wp2_with fail
      refine CE.mono ?_
      rintro e0 w5 ⟨v5, rfl, ⟨g5, cap5, h5, C5, om⟩, b5⟩
      have hv5 := om.val
      subst hv5
      have HF : Hid (FlatE w5 w4.heap.size w5.heap.size (.slice (some ⟨g5, 0, none⟩) (D + S) cap5) (D + S) (encN D (joinN f)) g5 cap5 h5 C5) := om
      have s4 := B4.size
      have B5 : Below w.heap.size w w5 := B4.trans (b5.mono s4)
      have HB5 : Hid (Below w.heap.size w w5) := B5
      have hg5 : g5 < w5.heap.size := om.high
      have hh5 : h5 < w5.heap.size := om.hhigh
      clear om b5 CE B4 B5
      obtain ⟨b0, off, hao, hblt, hcell⟩ := HHC.out (by omega)
      subst hao
      have HC : Hid (∀ i, i < R → w.cell? ⟨b0, off + i, none⟩ = some (e i)) := hcell
      have hb0w : b0 < w.heap.size := by omega
      clear hcell HHC
      go_wp2
      go_loopw [32] (fun i wr => ∃ k : Nat, k ≤ R ∧ i = .int .i64 k ∧ (∀ i, i < k → ∀ j, j < 4 → f i j = encN D (joinN f) i j) ∧ ∃ m, wr = w5.drewN m) (fun i _ => R - (intOf i).toNat)
      case atStart => exact ⟨0, Nat.zero_le _, rfl, fun i hi => by omega, 0, rfl⟩
      case round =>
        obtain ⟨k, hk, rfl, hall, q, rfl⟩ := hrel
        have HALL : Hid (∀ i, i < k → ∀ j, j < 4 → f i j = encN D (joinN f) i j) := hall
        clear hall
        by_cases hlt : k < R
        · have hkR := HRD.out
          have c1 : w5.cell? ⟨b0, off + k, none⟩ = some (e k) := (HB5.out.cell (p := ⟨b0, off + k, none⟩) hb0w).trans (HC.out k hlt)
          have rk := (HHE.out k hlt).below HB5.out hh
          rw [HTH.out.1 k hlt] at rk
          obtain ⟨x, hx⟩ : ∃ x, x = e k := ⟨_, rfl⟩
          rw [← hx] at c1 rk
          obtain ⟨aox, capx, hxs, hmx, hcx⟩ := rk
          obtain ⟨bx, ox, hax, hbx, hcellx⟩ := hcx (by omega)
          subst hax
          subst hxs
          obtain ⟨A, hA⟩ : ∃ A, A = 4 * k := ⟨_, rfl⟩
          have c2 : w5.cell? ⟨g5, k, none⟩ = some (.slice (some ⟨h5, A, none⟩) 4 4) := by rw [hA]; exact HF.out.cell k (by omega)
          have d0 : w5.cell? ⟨bx, ox, none⟩ = some (.int .u8 (f k 0)) := hcellx 0 (by omega)
          have d1 : w5.cell? ⟨bx, ox + 1, none⟩ = some (.int .u8 (f k 1)) := hcellx 1 (by omega)
          have d2 : w5.cell? ⟨bx, ox + 2, none⟩ = some (.int .u8 (f k 2)) := hcellx 2 (by omega)
          have d3 : w5.cell? ⟨bx, ox + 3, none⟩ = some (.int .u8 (f k 3)) := hcellx 3 (by omega)
          have f0 : w5.cell? ⟨h5, A, none⟩ = some (.int .u8 (encN D (joinN f) k 0)) := by rw [hA]; exact HF.out.at k 0 (by omega) (by omega)
          have f1 : w5.cell? ⟨h5, A + 1, none⟩ = some (.int .u8 (encN D (joinN f) k 1)) := by rw [hA]; exact HF.out.at k 1 (by omega) (by omega)
          have f2 : w5.cell? ⟨h5, A + 2, none⟩ = some (.int .u8 (encN D (joinN f) k 2)) := by rw [hA]; exact HF.out.at k 2 (by omega) (by omega)
          have f3 : w5.cell? ⟨h5, A + 3, none⟩ = some (.int .u8 (encN D (joinN f) k 3)) := by rw [hA]; exact HF.out.at k 3 (by omega) (by omega)
          have hat1 : ∀ w, (Instr.arrayAt 66 (.slice (some ⟨bx, ox, none⟩) 4 capx)).run Try.prog w = .ok (.pointer (some ⟨bx, ox, none⟩)) w := fun w => run_arrayAt w 66 _ 4 _ 4 capx Try.underlying66 (Nat.le_refl _)
          have hat2 : ∀ w, (Instr.arrayAt 66 (.slice (some ⟨h5, A, none⟩) 4 4)).run Try.prog w = .ok (.pointer (some ⟨h5, A, none⟩)) w := fun w => run_arrayAt w 66 _ 4 _ 4 4 Try.underlying66 (Nat.le_refl _)
          obtain ⟨bb, hbb⟩ : ∃ bb : Bool, bb = true ↔ ∀ j, j < 4 → f k j = encN D (joinN f) k j := by
            by_cases c : ∀ j, j < 4 → f k j = encN D (joinN f) k j
            · exact ⟨true, ⟨fun _ => c, fun _ => rfl⟩⟩
            · exact ⟨false, ⟨fun h => (by cases h), fun h => absurd h c⟩⟩
          have heq := eq4_run (f k) (encN D (joinN f) k) (kf k) (encN_byt (fun i => kf _ _) k) bb hbb
          unfold arr4 at heq
          have HBB : Hid (bb = true ↔ ∀ j, j < 4 → f k j = encN D (joinN f) k j) := hbb
          obtain ⟨p0, hp0⟩ : ∃ p, p = f k 0 := ⟨_, rfl⟩
          obtain ⟨p1, hp1⟩ : ∃ p, p = f k 1 := ⟨_, rfl⟩
          obtain ⟨p2, hp2⟩ : ∃ p, p = f k 2 := ⟨_, rfl⟩
          obtain ⟨p3, hp3⟩ : ∃ p, p = f k 3 := ⟨_, rfl⟩
          obtain ⟨r0, hr0⟩ : ∃ p, p = encN D (joinN f) k 0 := ⟨_, rfl⟩
          obtain ⟨r1, hr1⟩ : ∃ p, p = encN D (joinN f) k 1 := ⟨_, rfl⟩
          obtain ⟨r2, hr2⟩ : ∃ p, p = encN D (joinN f) k 2 := ⟨_, rfl⟩
          obtain ⟨r3, hr3⟩ : ∃ p, p = encN D (joinN f) k 3 := ⟨_, rfl⟩
          rw [← hp0, ← hp1, ← hp2, ← hp3, ← hr0, ← hr1, ← hr2, ← hr3] at heq
          rw [← hp0] at d0
          rw [← hp1] at d1
          rw [← hp2] at d2
          rw [← hp3] at d3
          rw [← hr0] at f0
          rw [← hr1] at f1
          rw [← hr2] at f2
          rw [← hr3] at f3
          have hkDS : k < D + S := by omega
          have hkDSi : (k : Int) < (D : Int) + (S : Int) := by omega
          clear hx hA hcx hcellx hkR hbb hp0 hp1 hp2 hp3 hr0 hr1 hr2 hr3
          go_wp2
          go_quiet (fail)
          cases bb with
          | true =>
            go_wp2
            go_roundw
            case rel => exact ⟨k + 1, by omega, by go_num, fun i hi j hj => by
                          by_cases c : i = k
                          · rw [c]; exact HBB.out.mp rfl j hj
                          · exact HALL.out i (by omega) j hj, _, rfl⟩
            case measure => simp [intOf]; omega
          | false =>
            have HNO : Hid (¬ FitsP (D : Int) (S : Int) R n f) := fun h => by
              have h2 := h.2.2 k hlt
              rw [Int.toNat_natCast] at h2
              have := HBB.out.mpr h2
              cases this
            go_wp2
            go_ret
            exact boolNo rfl HNO.out (below_drewN (below_drewN HB5.out _) _)
        · obtain rfl : k = R := by omega
          go_wp2
          go_ret
          exact boolYes rfl ⟨HSH.out, HTH.out, fun i hi j hj => by rw [Int.toNat_natCast]; exact HALL.out i hi j hj⟩ (below_drewN HB5.out _)
theorem implFits_any (d s : Int) (v : Value) (R : Nat) (n : Nat → Nat) (f : Mat) (l1 h1 : Nat) (w : World) (o1 : OwnM w l1 h1 v R n f) (hh : h1 ≤ w.heap.size) (kf : Byt f) :
    Calls Try.prog 34 #[.int .i64 d, .int .i64 s, v] w (BoolP (FitsP d s R n f) w) := implFits_rd d s v R n f h1 w o1.rd hh kf
end Go.Proofs.Ytoadjpacchhleah
