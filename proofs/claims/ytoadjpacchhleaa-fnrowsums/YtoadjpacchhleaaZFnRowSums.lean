/- The blocks of the sum of a drawn row and of drawn bytes are the sums of their blocks; a code is the specification's: the law FnRowSums returns true at every code, and changes nothing that was there. No condition. -/
import Derived.Test.YtoadjpacchhleaaWImplC
import Derived.Test.YtoadjpacchhleaaWImplG
import Derived.Laws.Cover3
import Derived.Stop.BytesEq
import Derived.BigQuiet
import Derived.Deep.QuietTactic
import Derived.Test.YtoadjpacchhleaaWRowE
import Derived.Test.YtoadjpacchhleaaWFlat
import Derived.Test.YtoadjpacchhleaaWL1Add
import Derived.Test.YtoadjpacchhleaaWDrawR
import Derived.Test.YtoadjpacchhleaaRows
import Derived.Test.YtoadjpacchhleaaFrameB
namespace Go.Proofs.Ytoadjpacchhleaa
open Go.RowKit F256
set_option linter.unusedVariables false
set_option linter.unusedSimpArgs false

/-- four bytes as an array -/
def arr4 (f : Nat → Nat) : Value := .agg #[.int .u8 (f 0), .int .u8 (f 1), .int .u8 (f 2), .int .u8 (f 3)]
theorem arr4_cells (f : Nat → Nat) (h : ∀ j, f j < 256) : arr4 f = .agg (([UInt8.ofNat (f 0), UInt8.ofNat (f 1), UInt8.ofNat (f 2), UInt8.ofNat (f 3)] : List UInt8).map Extern.Stop.cell).toArray := by
  have e : ∀ j, Extern.Stop.cell (UInt8.ofNat (f j)) = Value.int .u8 (f j) := fun j => by
    have : (UInt8.ofNat (f j)).toNat = f j := by simp [UInt8.toNat_ofNat, Nat.mod_eq_of_lt (h j)]
    simp [Extern.Stop.cell, this]
  simp [arr4, e]
theorem ofNat_eq {a b : Nat} (ha : a < 256) (hb : b < 256) : UInt8.ofNat a = UInt8.ofNat b ↔ a = b := by
  have e : ∀ x, x < 256 → (UInt8.ofNat x).toNat = x := fun x hx => by simp [Nat.mod_eq_of_lt hx]
  rw [← UInt8.toNat_inj, e a ha, e b hb]
theorem eq4_run (f g : Nat → Nat) (hf : ∀ j, f j < 256) (hg : ∀ j, g j < 256) (b : Bool) (hb : b = true ↔ ∀ j, j < 4 → f j = g j) (w : World) : (Op.equalIn 10000 86 (arr4 f) (arr4 g)).run Try.prog w = .ok b w := by
  rw [arr4_cells f hf, arr4_cells g hg, run_equalIn_bytes w 9998 86 5 4 Try.underlying86 Try.underlying5 (fun w => by kernel_rfl) _ _ rfl rfl]
  congr 1
  rw [Bool.eq_iff_iff, hb]
  simp only [beq_iff_eq, List.cons.injEq, and_true]
  rw [ofNat_eq (hf 0) (hg 0), ofNat_eq (hf 1) (hg 1), ofNat_eq (hf 2) (hg 2), ofNat_eq (hf 3) (hg 3)]
  constructor
  · rintro ⟨h0, h1, h2, h3⟩ j hj
    match j, hj with
    | 0, _ => exact h0
    | 1, _ => exact h1
    | 2, _ => exact h2
    | 3, _ => exact h3
  · exact fun h => ⟨h 0 (by omega), h 1 (by omega), h 2 (by omega), h 3 (by omega)⟩

theorem cntN_all {n : Nat → Nat} : ∀ {k : Nat}, (∀ i, i < k → n i ≠ 0) → cntN n k = k
  | 0, _ => rfl
  | k + 1, h => by rw [cntN, if_neg (h k (by omega)), cntN_all (fun i hi => h i (by omega))]
theorem nthN_all {n : Nat → Nat} {R t : Nat} (h : ∀ i, i < R → n i ≠ 0) (ht : t < R) : nthN n R t = t := by
  have := nthN_is (n := n) ht (h t ht)
  rw [cntN_all (fun i hi => h i (by omega))] at this
  exact this
/-- where all blocks are there the bytes are the data blocks' -/
theorem decN_all {D R : Nat} {n : Nat → Nat} {f : Mat} (hD1 : 1 ≤ D) (hD : D ≤ 3) (hR : R ≤ D + 2) (hDR : D ≤ R) (h4 : ∀ i, i < R → n i = 4) (kf : Byt f) (t : Nat) (ht : t < 4 * D) : decN D n R f t = joinN f t := by
  have hn : ∀ i, i < R → n i ≠ 0 := fun i hi => by rw [h4 i hi]; omega
  have h1 := blockN_is (t0 := t / 4) hD1 hD hR (by rw [cntN_all hn]; exact hDR) (fun i hi => .inr (h4 i hi)) kf (by omega) (t % 4)
  rw [nthN_all hn (by omega)] at h1
  exact h1

set_option maxHeartbeats 4000000 in
theorem implFits_rd (d s : Int) (v : Value) (R : Nat) (n : Nat → Nat) (f : Mat) (h1 : Nat) (w : World) (r1 : RdM w h1 v R n f) (hh : h1 ≤ w.heap.size) (kf : Byt f) :
    Calls Try.prog 22 #[.int .i64 d, .int .i64 s, v] w (BoolP (FitsP d s R n f) w) := by
  have HR : Hid (RdM w h1 v R n f) := r1
  obtain ⟨ao, cap, e, rfl, hmR, hc, he⟩ := r1
  unfold maxLen at hmR
  have HHE : Hid (∀ i, i < R → Rd w h1 (e i) (n i) (f i)) := he
  have HHC : Hid (R ≠ 0 → ∃ b off, ao = some ⟨b, off, none⟩ ∧ b < h1 ∧ ∀ i, i < R → w.cell? ⟨b, off + i, none⟩ = some (e i)) := hc
  clear hc he
  go_enter Try.func22, Try.ntmps22
  go_wp2_with fail
  refine (rowInBounds_any d s _).mono ?_
  rintro e0 w1 ⟨b1, rfl, hb1, B1⟩
  have HS : Hid (b1 = true ↔ Shp d s) := hb1
  clear hb1
  cases b1 with
  | false =>
    have HNO : Hid (¬ FitsP d s R n f) := fun h => by have := HS.out.mpr h.1; cases this
    clear HS
    go_wp2
    go_ret
    exact boolNo rfl HNO.out B1
  | true =>
    have hsh := HS.out.mp rfl
    have HSH : Hid (Shp d s) := hsh
    obtain ⟨q1, q2, q3, q4⟩ := hsh
    obtain ⟨D, rfl⟩ : ∃ D : Nat, d = D := ⟨d.toNat, by omega⟩
    obtain ⟨S, rfl⟩ : ∃ S : Nat, s = S := ⟨s.toNat, by omega⟩
    have CT := allThere_any (.slice ao R cap) R n f h1 ((D : Int) + (S : Int)) w1 (HR.out.below B1 hh)
    clear HS
    go_wp2_with fail
    refine CT.mono ?_
    rintro e0 w2 ⟨b2, rfl, hb2, b2'⟩
    have HT : Hid (b2 = true ↔ WholeP R n ((D : Int) + (S : Int))) := hb2
    have B2 : Below w.heap.size w w2 := B1.trans (b2'.mono B1.size)
    clear hb2 b2' B1 CT
    cases b2 with
    | false =>
      have HNO : Hid (¬ FitsP (D : Int) (S : Int) R n f) := fun h => by have := HT.out.mpr h.2.1; cases this
      clear HT
      go_wp2
      go_ret
      exact boolNo rfl HNO.out B2
    | true =>
      have hth := HT.out.mp rfl
      have HTH : Hid (WholeP R n ((D : Int) + (S : Int))) := hth
      have hRD0 : R = D + S := by have := hth.2; omega
      have HRD : Hid (R = D + S) := hRD0
      have hR0 : 0 < R := by omega
      have hcnt : D ≤ cntN n R := by rw [cntN_all (fun i hi => by rw [hth.1 i hi]; omega)]; omega
      have CF := firstThere_any D (.slice ao R cap) R n f h1 w2 (HR.out.below B2 hh) (Nat.le_trans hh B2.size) (by omega)
      have CBf := fun (w3 : World) (B3 : Below w.heap.size w w3) (v3 : Value) (o3 : OwnI w3 w2.heap.size w3.heap.size v3 D (fun t => (nthN n R t : Int))) => bytesFrom_any D (.slice ao R cap) v3 R n f h1 w3.heap.size w3 (HR.out.below B3 hh) o3.rd (Nat.le_trans hh B3.size) (Nat.le_refl _) (by omega) (by omega) (by omega) hcnt (fun i hi => .inr (hth.1 i hi)) kf
      have HCB : Hid (∀ (w3 : World), Below w.heap.size w w3 → ∀ (v3 : Value), OwnI w3 w2.heap.size w3.heap.size v3 D (fun t => (nthN n R t : Int)) → Calls Try.prog 57 #[.int .i64 D, .slice ao R cap, v3] w3 fun e w' => ∃ v', e = .returned v' ∧ Own w' w3.heap.size w'.heap.size v' (4 * D) (decN D n R f) ∧ Below w3.heap.size w3 w') := CBf
      have HDA : Hid (∀ t, t < 4 * D → decN D n R f t = joinN f t) := fun t ht => decN_all (by omega) (by omega) (by omega) (by omega) hth.1 kf t ht
      rw [pickN_all hcnt] at CF
      clear HT hth hRD0 hcnt CBf
      go_wp2_with fail
      refine CF.mono ?_
      rintro e0 w3 ⟨v3, rfl, o3, b3⟩
      have B3 : Below w.heap.size w w3 := B2.trans (b3.mono B2.size)
      have CB := HCB.out w3 B3 v3 o3
      obtain ⟨ao3, cap3, rfl⟩ := o3.slice
      clear CF o3 b3 B2 HCB
      go_wp2_with fail
      refine CB.mono ?_
      rintro e0 w4 ⟨v4, rfl, o4, b4⟩
      have B4 : Below w.heap.size w w4 := B3.trans (b4.mono B3.size)
      have CE := blocksOf_any D S (by omega) (by omega) (by omega) v4 (joinN f) w4.heap.size w4 (o4.congr HDA.out).rd (Nat.le_refl _) (fun i => kf _ _)
      obtain ⟨ao4, cap4, rfl⟩ := o4.slice
      clear CB o4 b4 B3
      go_wp2_with fail
      refine CE.mono ?_
      rintro e0 w5 ⟨v5, rfl, ⟨g5, cap5, h5, C5, om⟩, b5⟩
      have hv5 := om.val
      subst hv5
      have HF : Hid (FlatE w5 w4.heap.size w5.heap.size (.slice (some ⟨g5, 0, none⟩) (D + S) cap5) (D + S) (encN D (joinN f)) g5 cap5 h5 C5) := om
      have s4 := B4.size
      have B5 : Below w.heap.size w w5 := B4.trans (b5.mono s4)
      have HB5 : Hid (Below w.heap.size w w5) := B5
      have hg5 : g5 < w5.heap.size := om.high
      have hh5 : h5 < w5.heap.size := om.hhigh
      clear om b5 CE B4 B5
      obtain ⟨b0, off, hao, hblt, hcell⟩ := HHC.out (by omega)
      subst hao
      have HC : Hid (∀ i, i < R → w.cell? ⟨b0, off + i, none⟩ = some (e i)) := hcell
      have hb0w : b0 < w.heap.size := by omega
      clear hcell HHC
      go_wp2
      go_loopw [32] (fun i wr => ∃ k : Nat, k ≤ R ∧ i = .int .i64 k ∧ (∀ i, i < k → ∀ j, j < 4 → f i j = encN D (joinN f) i j) ∧ ∃ m, wr = w5.drewN m) (fun i _ => R - (intOf i).toNat)
      case atStart => exact ⟨0, Nat.zero_le _, rfl, fun i hi => by omega, 0, rfl⟩
      case round =>
        obtain ⟨k, hk, rfl, hall, q, rfl⟩ := hrel
        have HALL : Hid (∀ i, i < k → ∀ j, j < 4 → f i j = encN D (joinN f) i j) := hall
        clear hall
        by_cases hlt : k < R
        · have hkR := HRD.out
          have c1 : w5.cell? ⟨b0, off + k, none⟩ = some (e k) := (HB5.out.cell (p := ⟨b0, off + k, none⟩) hb0w).trans (HC.out k hlt)
          have rk := (HHE.out k hlt).below HB5.out hh
          rw [HTH.out.1 k hlt] at rk
          obtain ⟨x, hx⟩ : ∃ x, x = e k := ⟨_, rfl⟩
          rw [← hx] at c1 rk
          obtain ⟨aox, capx, hxs, hmx, hcx⟩ := rk
          obtain ⟨bx, ox, hax, hbx, hcellx⟩ := hcx (by omega)
          subst hax
          subst hxs
          obtain ⟨A, hA⟩ : ∃ A, A = 4 * k := ⟨_, rfl⟩
          have c2 : w5.cell? ⟨g5, k, none⟩ = some (.slice (some ⟨h5, A, none⟩) 4 4) := by rw [hA]; exact HF.out.cell k (by omega)
          have d0 : w5.cell? ⟨bx, ox, none⟩ = some (.int .u8 (f k 0)) := hcellx 0 (by omega)
          have d1 : w5.cell? ⟨bx, ox + 1, none⟩ = some (.int .u8 (f k 1)) := hcellx 1 (by omega)
          have d2 : w5.cell? ⟨bx, ox + 2, none⟩ = some (.int .u8 (f k 2)) := hcellx 2 (by omega)
          have d3 : w5.cell? ⟨bx, ox + 3, none⟩ = some (.int .u8 (f k 3)) := hcellx 3 (by omega)
          have f0 : w5.cell? ⟨h5, A, none⟩ = some (.int .u8 (encN D (joinN f) k 0)) := by rw [hA]; exact HF.out.at k 0 (by omega) (by omega)
          have f1 : w5.cell? ⟨h5, A + 1, none⟩ = some (.int .u8 (encN D (joinN f) k 1)) := by rw [hA]; exact HF.out.at k 1 (by omega) (by omega)
          have f2 : w5.cell? ⟨h5, A + 2, none⟩ = some (.int .u8 (encN D (joinN f) k 2)) := by rw [hA]; exact HF.out.at k 2 (by omega) (by omega)
          have f3 : w5.cell? ⟨h5, A + 3, none⟩ = some (.int .u8 (encN D (joinN f) k 3)) := by rw [hA]; exact HF.out.at k 3 (by omega) (by omega)
          have hat1 : ∀ w, (Instr.arrayAt 86 (.slice (some ⟨bx, ox, none⟩) 4 capx)).run Try.prog w = .ok (.pointer (some ⟨bx, ox, none⟩)) w := fun w => run_arrayAt w 86 _ 4 _ 4 capx Try.underlying86 (Nat.le_refl _)
          have hat2 : ∀ w, (Instr.arrayAt 86 (.slice (some ⟨h5, A, none⟩) 4 4)).run Try.prog w = .ok (.pointer (some ⟨h5, A, none⟩)) w := fun w => run_arrayAt w 86 _ 4 _ 4 4 Try.underlying86 (Nat.le_refl _)
          obtain ⟨bb, hbb⟩ : ∃ bb : Bool, bb = true ↔ ∀ j, j < 4 → f k j = encN D (joinN f) k j := by
            by_cases c : ∀ j, j < 4 → f k j = encN D (joinN f) k j
            · exact ⟨true, ⟨fun _ => c, fun _ => rfl⟩⟩
            · exact ⟨false, ⟨fun h => (by cases h), fun h => absurd h c⟩⟩
          have heq := eq4_run (f k) (encN D (joinN f) k) (kf k) (encN_byt (fun i => kf _ _) k) bb hbb
          unfold arr4 at heq
          have HBB : Hid (bb = true ↔ ∀ j, j < 4 → f k j = encN D (joinN f) k j) := hbb
          obtain ⟨p0, hp0⟩ : ∃ p, p = f k 0 := ⟨_, rfl⟩
          obtain ⟨p1, hp1⟩ : ∃ p, p = f k 1 := ⟨_, rfl⟩
          obtain ⟨p2, hp2⟩ : ∃ p, p = f k 2 := ⟨_, rfl⟩
          obtain ⟨p3, hp3⟩ : ∃ p, p = f k 3 := ⟨_, rfl⟩
          obtain ⟨r0, hr0⟩ : ∃ p, p = encN D (joinN f) k 0 := ⟨_, rfl⟩
          obtain ⟨r1, hr1⟩ : ∃ p, p = encN D (joinN f) k 1 := ⟨_, rfl⟩
          obtain ⟨r2, hr2⟩ : ∃ p, p = encN D (joinN f) k 2 := ⟨_, rfl⟩
          obtain ⟨r3, hr3⟩ : ∃ p, p = encN D (joinN f) k 3 := ⟨_, rfl⟩
          rw [← hp0, ← hp1, ← hp2, ← hp3, ← hr0, ← hr1, ← hr2, ← hr3] at heq
          rw [← hp0] at d0
          rw [← hp1] at d1
          rw [← hp2] at d2
          rw [← hp3] at d3
          rw [← hr0] at f0
          rw [← hr1] at f1
          rw [← hr2] at f2
          rw [← hr3] at f3
          have hkDS : k < D + S := by omega
          have hkDSi : (k : Int) < (D : Int) + (S : Int) := by omega
          clear hx hA hcx hcellx hkR hbb hp0 hp1 hp2 hp3 hr0 hr1 hr2 hr3
          go_wp2
          go_quiet (fail)
          cases bb with
          | true =>
            go_wp2
            go_roundw
            case rel => exact ⟨k + 1, by omega, by go_num, fun i hi j hj => by
                          by_cases c : i = k
                          · rw [c]; exact HBB.out.mp rfl j hj
                          · exact HALL.out i (by omega) j hj, _, rfl⟩
            case measure => simp [intOf]; omega
          | false =>
            have HNO : Hid (¬ FitsP (D : Int) (S : Int) R n f) := fun h => by
              have h2 := h.2.2 k hlt
              rw [Int.toNat_natCast] at h2
              have := HBB.out.mpr h2
              cases this
            go_wp2
            go_ret
            exact boolNo rfl HNO.out (below_drewN (below_drewN HB5.out _) _)
        · obtain rfl : k = R := by omega
          go_wp2
          go_ret
          exact boolYes rfl ⟨HSH.out, HTH.out, fun i hi j hj => by rw [Int.toNat_natCast]; exact HALL.out i hi j hj⟩ (below_drewN HB5.out _)
theorem implFits_any (d s : Int) (v : Value) (R : Nat) (n : Nat → Nat) (f : Mat) (l1 h1 : Nat) (w : World) (o1 : OwnM w l1 h1 v R n f) (hh : h1 ≤ w.heap.size) (kf : Byt f) :
    Calls Try.prog 22 #[.int .i64 d, .int .i64 s, v] w (BoolP (FitsP d s R n f) w) := implFits_rd d s v R n f h1 w o1.rd hh kf
end Go.Proofs.Ytoadjpacchhleaa

namespace Go.Proofs.Ytoadjpacchhleaa
open F256

theorem mixN_dot (f : Mat) (c : Nat → Nat) (j : Nat) : ∀ k, mixN f c k j = dotN c (fun t => f t j) k
  | 0 => rfl
  | k + 1 => by rw [mixN, dotN, mixN_dot f c j k]
theorem encN_dot {D : Nat} {b : Nat → Nat} (kb : ∀ i, b i < 256) (p j : Nat) : encN D b p j = dotN (genN D p 0) (fun i => cutN b i j) D := by
  unfold encN
  by_cases c : p < D
  · rw [if_pos c, dotN_gen (x := fun i => cutN b i j) (fun i => kb _) c]
  · rw [if_neg c, mixN_dot]
theorem block_back {D R : Nat} {n : Nat → Nat} {b : Nat → Nat} (hD1 : 1 ≤ D) (hD : D ≤ 3) (hR : R ≤ D + 2) (hc : D ≤ cntN n R) (h4 : ∀ i, i < R → n i = 0 ∨ n i = 4) (kb : ∀ i, b i < 256) (want j : Nat) : blockN D n R (encN D b) want j = encN D b want j := by
  obtain ⟨p1, p2⟩ := picked hc h4
  have hfull := row_full D hD1 hD (nthN n R) (genN D want 0) (fun t ht => by have := (p1 t ht).1; omega) p2
  have hs := weights_sum (x := fun i => cutN b i j) (fun i => kb _) hfull
  unfold blockN
  rw [mixN_dot, encN_dot kb, ← hs]
  exact dotN_congr2 fun k _ => encN_dot kb _ _
theorem dec_back {D R : Nat} {n : Nat → Nat} {b : Nat → Nat} (hD1 : 1 ≤ D) (hD : D ≤ 3) (hR : R ≤ D + 2) (hc : D ≤ cntN n R) (h4 : ∀ i, i < R → n i = 0 ∨ n i = 4) (kb : ∀ i, b i < 256) (t : Nat) (ht : t < 4 * D) : decN D n R (encN D b) t = b t := by
  unfold decN
  rw [block_back hD1 hD hR hc h4 kb]
  have h1 : t / 4 < D := by omega
  simp only [encN, if_pos h1, cutN]
  rw [show 4 * (t / 4) + t % 4 = t by omega]
theorem encN_same {D : Nat} {b b' : Nat → Nat} (h : ∀ t, t < 4 * D → b t = b' t) (i j : Nat) (hj : j < 4) : encN D b i j = encN D b' i j := by
  have hcut : ∀ k, k < D → cutN b k j = cutN b' k j := fun k hk => h _ (by omega)
  unfold encN
  by_cases c : i < D
  · rw [if_pos c, if_pos c]; exact hcut i c
  · rw [if_neg c, if_neg c]; exact mixN_congr hcut
theorem join_enc {D : Nat} {b : Nat → Nat} (t : Nat) (ht : t < 4 * D) : joinN (encN D b) t = b t := by
  unfold joinN encN
  rw [if_pos (by omega)]
  unfold cutN
  rw [show 4 * (t / 4) + t % 4 = t by omega]
theorem fits_enc {D S : Nat} {b : Nat → Nat} (hs : Shp (D : Int) (S : Int)) : FitsP (D : Int) (S : Int) (D + S) (fun _ => 4) (encN D b) :=
  ⟨hs, ⟨fun _ _ => rfl, by omega⟩, fun i hi j hj => by
    rw [Int.toNat_natCast]
    exact encN_same (fun t ht => (join_enc t ht).symm) i j hj⟩
/-- one block less -/
def lessN (n : Nat → Nat) (r : Nat) : Nat → Nat := fun i => if i = r then 0 else n i
theorem cnt_less (n : Nat → Nat) (r : Nat) : ∀ R, cntN n R ≤ cntN (lessN n r) R + (if r < R then 1 else 0)
  | 0 => Nat.zero_le _
  | R + 1 => by
    have ih := cnt_less n r R
    by_cases e : R = r
    · subst e
      rw [if_neg (Nat.lt_irrefl R)] at ih
      rw [if_pos (Nat.lt_succ_self R)]
      have h1 : cntN n (R + 1) ≤ cntN n R + 1 := by rw [cntN]; split <;> omega
      have h2 := cntN_mono (lessN n R) (show R ≤ R + 1 by omega)
      omega
    · have h1 : lessN n r R = n R := by unfold lessN; rw [if_neg e]
      have h3 : (if r < R + 1 then 1 else 0) = (if r < R then 1 else 0 : Nat) := by
        by_cases c : r < R
        · rw [if_pos c, if_pos (by omega)]
        · rw [if_neg c, if_neg (by omega)]
      rw [h3]
      by_cases c0 : n R = 0
      · have e1 : cntN n (R + 1) = cntN n R := by rw [cntN, if_pos c0]
        have e2 : cntN (lessN n r) (R + 1) = cntN (lessN n r) R := by rw [cntN, if_pos (by rw [h1]; exact c0)]
        omega
      · have e1 : cntN n (R + 1) = cntN n R + 1 := by rw [cntN, if_neg c0]
        have e2 : cntN (lessN n r) (R + 1) = cntN (lessN n r) R + 1 := by rw [cntN, if_neg (by rw [h1]; exact c0)]
        omega
/-- sums of rows -/
theorem encN_sum {D : Nat} {a b : Nat → Nat} (ka : ∀ i, a i < 256) (kb : ∀ i, b i < 256) (i j : Nat) : encN D (fun t => a t ^^^ b t) i j = encN D a i j ^^^ encN D b i j := by
  have kab : ∀ t, (fun t => a t ^^^ b t) t < 256 := fun t => xor_lt (ka t) (kb t)
  rw [encN_dot kab, encN_dot ka, encN_dot kb]
  have e : (fun i => cutN (fun t => a t ^^^ b t) i j) = fun i => (fun i => cutN a i j) i ^^^ (fun i => cutN b i j) i := rfl
  rw [e]
  have hx := fun x (hx : ∀ i, x i < 256) => dotN_swap (r := genN D i 0) (x := x) (genN_lt D i 0) hx D
  rw [hx (fun i => (fun i => cutN a i j) i ^^^ (fun i => cutN b i j) i) (fun i => xor_lt (ka _) (kb _)), hx (fun i => cutN a i j) (fun i => ka _), hx (fun i => cutN b i j) (fun i => kb _)]
  exact dotN_add (fun i => ka _) (fun i => kb _) D
end Go.Proofs.Ytoadjpacchhleaa

namespace Go.Proofs.Ytoadjpacchhleaa
open Go.RowKit F256
set_option linter.unusedVariables false
set_option linter.unusedSimpArgs false

/-- slices of the call's own, or nil: each in its own block, or rows of four behind one another -/
def OwnG (w : World) (lo hi : Nat) (v : Value) (R : Nat) (n : Nat → Nat) (f : Mat) : Prop := OwnB w lo hi v R n f ∨ (n = fun _ => 4) ∧ ∃ g cap h C, FlatE w lo hi v R f g cap h C
theorem OwnG.none (w : World) (lo hi : Nat) (n : Nat → Nat) (f : Mat) : OwnG w lo hi nilS 0 n f := .inl (OwnB.none _ _ _ _ _)
theorem OwnG.rd {w : World} {lo hi : Nat} {v : Value} {R : Nat} {n : Nat → Nat} {f : Mat} (h : OwnG w lo hi v R n f) : RdM w hi v R n f := by
  rcases h with h | ⟨rfl, g, cap, h, C, H⟩
  · exact h.rd
  · exact H.rd
theorem OwnG.below {w w' : World} {lo hi B : Nat} {v : Value} {R : Nat} {n : Nat → Nat} {f : Mat} (h : OwnG w lo hi v R n f) (hb : Below B w w') (hB : hi ≤ B) : OwnG w' lo hi v R n f := by
  rcases h with h | ⟨hn, g, cap, h, C, H⟩
  · exact .inl (h.below hb hB)
  · exact .inr ⟨hn, g, cap, h, C, H.below hb hB⟩
theorem OwnG.chg {w w' : World} {lo hi lo' hi' : Nat} {v : Value} {R : Nat} {n : Nat → Nat} {f : Mat} (h : OwnG w lo hi v R n f) (hb : Chg lo' hi' w w') (hB : hi ≤ lo' ∨ hi' ≤ lo) : OwnG w' lo hi v R n f := by
  rcases h with h | ⟨hn, g, cap, h, C, H⟩
  · exact .inl (h.chg hb hB)
  · exact .inr ⟨hn, g, cap, h, C, H.chg hb hB⟩
theorem OwnG.weaken {w : World} {lo hi lo' hi' : Nat} {v : Value} {R : Nat} {n : Nat → Nat} {f : Mat} (h : OwnG w lo hi v R n f) (h1 : lo' ≤ lo) (h2 : hi ≤ hi') : OwnG w lo' hi' v R n f := by
  rcases h with h | ⟨hn, g, cap, h, C, H⟩
  · exact .inl (h.weaken h1 h2)
  · exact .inr ⟨hn, g, cap, h, C, H.weaken h1 h2⟩
theorem OwnG.alloc {w : World} {lo hi : Nat} {v : Value} {R : Nat} {n : Nat → Nat} {f : Mat} (h : OwnG w lo hi v R n f) (o : Obj) : OwnG (w.alloc o) lo hi v R n f := by
  rcases h with h | ⟨hn, g, cap, h, C, H⟩
  · exact .inl (h.alloc o)
  · exact .inr ⟨hn, g, cap, h, C, H.alloc o⟩
theorem OwnG.slice {w : World} {lo hi : Nat} {v : Value} {R : Nat} {n : Nat → Nat} {f : Mat} (h : OwnG w lo hi v R n f) : ∃ ao cap, v = .slice ao R cap := by
  rcases h with h | ⟨hn, g, cap, h, C, H⟩
  · exact h.slice
  · exact ⟨_, _, H.val⟩

/-- rows on the way to their marks: the first k have them -/
def mkN (j k : Nat) (f : Mat) : Mat := fun i c => if i < k then marksM j (fun _ => 4) i c else f i c
theorem sum4 (k : Nat) : sumN (fun _ => 4) k = 4 * k := by
  induction k with
  | zero => rfl
  | succ k ih => rw [sumN, ih]; omega
theorem mkN_step {j k : Nat} {f : Mat} (t : Nat) : joinN (mkN j (k + 1) f) t = if 4 * k ≤ t ∧ t < 4 * k + 4 then marks (j + 4 * k) (t - 4 * k) else joinN (mkN j k f) t := by
  unfold joinN mkN
  by_cases c : 4 * k ≤ t ∧ t < 4 * k + 4
  · rw [if_pos c, if_pos (by omega)]
    unfold marksM
    rw [sum4, show t / 4 = k by omega, show t % 4 = t - 4 * k by omega]
  · rw [if_neg c]
    by_cases c2 : t / 4 < k
    · rw [if_pos (by omega), if_pos c2]
    · rw [if_neg (by omega), if_neg c2]

end Go.Proofs.Ytoadjpacchhleaa

namespace Go.Proofs.Ytoadjpacchhleaa
open Go.RowKit F256
set_option linter.unusedVariables false
set_option linter.unusedSimpArgs false

set_option maxHeartbeats 4000000 in
theorem implEncode_any (d s : Int) (vb : Value) (n : Nat) (b : Nat → Nat) (l1 h1 : Nat) (w : World) (rb : Own w l1 h1 vb n b) (hh : h1 ≤ w.heap.size) (kb : ∀ i, b i < 256) :
    Calls Try.prog 20 #[.int .i64 d, .int .i64 s, vb] w fun ee w' => ∃ x v', ee = .returned (bytesR x v') ∧ EncAns d s n x ∧ OwnG w' w.heap.size w'.heap.size v' (if x = 0 then (d + s).toNat else 0) (fun _ => 4) (encN d.toNat b) ∧ Below w.heap.size w w' := by
  have hn := rb.le
  unfold maxLen at hn
  obtain ⟨aob, capb, rfl⟩ := rb.slice
  have HB : Hid (Own w l1 h1 (.slice aob n capb) n b) := rb
  clear rb
  go_enter Try.func20, Try.ntmps20
  go_wp2_with fail
  refine (rowInBounds_any d s _).mono ?_
  rintro e w1 ⟨b1, rfl, hb1, b1'⟩
  have HS : Hid (b1 = true ↔ Shp d s) := hb1
  have B1 : Below w.heap.size w w1 := bnew b1'
  have X1 : Box w1 w.heap.size #[.int .i64 0, .slice none 0 0] 42 := (box_new w _ _).below b1' (by simp)
  have z1 : w.heap.size < w1.heap.size := X1.lt
  obtain ⟨x0, x1, y0, y1⟩ := res_cells X1
  clear hb1 b1'
  cases b1 with
  | false =>
    have hno : ¬ Shp d s := fun h => by have := HS.out.mpr h; cases this
    have HNO : Hid (¬ Shp d s) := hno
    clear hno HS
    go_wp2
    exact bodyPost_ret (v := bytesR 3 (.slice none 0 0)) (by simp [results, Try.results20, go_sem, bytesR, x0, x1]) rfl ⟨3, _, rfl, .inl ⟨rfl, HNO.out⟩, OwnG.none _ _ _ _ _, (B1.setCell (Nat.le_refl _) _).setCell (Nat.le_refl _) _⟩
  | true =>
    have hsh := HS.out.mp rfl
    have HSH : Hid (Shp d s) := hsh
    obtain ⟨q1, q2, q3, q4⟩ := hsh
    obtain ⟨D, rfl⟩ : ∃ D : Nat, d = D := ⟨d.toNat, by omega⟩
    obtain ⟨S, rfl⟩ : ∃ S : Nat, s = S := ⟨s.toNat, by omega⟩
    clear HS
    by_cases hlen : n = 4 * D
    · have hlen2 : (n : Int) = (D : Int) * 4 := by omega
      have tl : ((n : Int) != (D : Int) * 4) = false := by simp; omega
      have rb1 := (HB.out.below B1 hh).rd
      rw [hlen] at rb1
      have C := blocksOf_any D S (by omega) (by omega) (by omega) (.slice aob (4 * D) capb) b h1 w1 rb1 (Nat.le_trans hh B1.size) kb
      rw [← hlen] at C
      have HL : Hid (n = 4 * D) := hlen
      clear rb1 hlen hlen2
      go_wp2_with fail
      refine C.mono ?_
      rintro e w4 ⟨v4, rfl, ⟨g4, cap4, h4, C4, om⟩, b4⟩
      have hv4 := om.val
      subst hv4
      have HOM : Hid (FlatE w4 w1.heap.size w4.heap.size (.slice (some ⟨g4, 0, none⟩) (D + S) cap4) (D + S) (encN D b) g4 cap4 h4 C4) := om
      have B4 : Below w.heap.size w w4 := B1.trans (b4.mono (by omega))
      have X4 : Box w4 w.heap.size #[.int .i64 0, .slice none 0 0] 42 := X1.below b4 z1
      have z4 := X4.lt
      clear x0 x1 y0 y1
      obtain ⟨x0, x1, y0, y1⟩ := res_cells X4
      clear om b4 C X4 X1
      go_wp2
      refine bodyPost_ret (v := bytesR 0 (.slice (some ⟨g4, 0, none⟩) (D + S) cap4)) (by simp [results, Try.results20, go_sem, bytesR, x0, x1]) rfl ⟨0, _, rfl, .inr (.inr ⟨rfl, HSH.out, by have := HL.out; omega⟩), ?_, (B4.setCell (Nat.le_refl _) _).setCell (Nat.le_refl _) _⟩
      have o1 := out_store w4 w.heap.size (w.heap.size + 1) w.heap.size 0 (.int .i64 0) (Nat.le_refl _) (by omega)
      have o2 := out_store (w4.setCell ⟨w.heap.size, 0, none⟩ (.int .i64 0)) w.heap.size (w.heap.size + 1) w.heap.size 1 (.slice (some ⟨g4, 0, none⟩) (D + S) cap4) (Nat.le_refl _) (by omega)
      simp only [if_pos]
      have e1 : ((D : Int) + (S : Int)).toNat = D + S := by omega
      rw [e1, Int.toNat_natCast]
      exact .inr ⟨rfl, _, _, _, _, (HOM.out.chg (o1.trans o2).chg (.inr (by omega))).weaken (by omega) (by rw [(o1.trans o2).size]; exact Nat.le_refl _)⟩
    · have tl : ((n : Int) != (D : Int) * 4) = true := by simp; omega
      have hne : (n : Int) ≠ (D : Int) * 4 := by omega
      have HNE : Hid ((n : Int) ≠ (D : Int) * 4) := hne
      clear hne hlen
      go_wp2
      exact bodyPost_ret (v := bytesR 1 (.slice none 0 0)) (by simp [results, Try.results20, go_sem, bytesR, x0, x1]) rfl ⟨1, _, rfl, .inr (.inl ⟨rfl, HSH.out, HNE.out⟩), OwnG.none _ _ _ _ _, (B1.setCell (Nat.le_refl _) _).setCell (Nat.le_refl _) _⟩
end Go.Proofs.Ytoadjpacchhleaa

namespace Go.Proofs.Ytoadjpacchhleaa
open Go.RowKit F256
set_option linter.unusedVariables false
set_option linter.unusedSimpArgs false

/-- the shifted blocks on the way: the first k are done -/
def wayS (D : Nat) (f : Mat) (b : Nat → Nat) (k : Nat) : Mat := fun i j => if i < k then shiftN D f b i j else encN D b i j
theorem wayS_byt {D : Nat} {f : Mat} {b : Nat → Nat} (kf : Byt f) (kb : ∀ i, b i < 256) (k : Nat) : Byt (wayS D f b k) := fun i j => by
  unfold wayS shiftN
  split
  · exact xor_lt (kf i j) (encN_byt kb i j)
  · exact encN_byt kb i j
theorem wayS_step {D : Nat} {f : Mat} {b : Nat → Nat} (kf : Byt f) {k : Nat} (t : Nat) :
    joinN (wayS D f b (k + 1)) t = if 4 * k ≤ t ∧ t < 4 * k + 4 then joinN (wayS D f b k) t ^^^ mulN 1 (f k (t - 4 * k)) else joinN (wayS D f b k) t := by
  unfold joinN
  by_cases c : 4 * k ≤ t ∧ t < 4 * k + 4
  · rw [if_pos c, one_mulN (kf _ _)]
    have e1 : t / 4 = k := by omega
    have e2 : t % 4 = t - 4 * k := by omega
    rw [e1, e2]
    simp [wayS, shiftN, Nat.xor_comm]
  · rw [if_neg c]
    have e1 : t / 4 ≠ k := by omega
    unfold wayS
    by_cases c2 : t / 4 < k
    · rw [if_pos (by omega), if_pos c2]
    · rw [if_neg (by omega), if_neg c2]

set_option maxHeartbeats 8000000 in
theorem implShift_rd (d s : Int) (v vb : Value) (R : Nat) (n : Nat → Nat) (f : Mat) (m : Nat) (b : Nat → Nat) (h1 l2 h2 : Nat) (w : World) (r1 : RdM w h1 v R n f) (rb : Own w l2 h2 vb m b) (hh : h1 ≤ w.heap.size) (hh2 : h2 ≤ w.heap.size) (kf : Byt f) (kb : ∀ i, b i < 256) :
    Calls Try.prog 26 #[.int .i64 d, .int .i64 s, v, vb] w fun ee w' => ∃ x v', ee = .returned (bytesR x v') ∧ ShiftAns d s R n m x ∧ OwnG w' w.heap.size w'.heap.size v' (if x = 0 then (d + s).toNat else 0) (fun _ => 4) (shiftN d.toNat f b) ∧ Below w.heap.size w w' := by
  have hmm := rb.le
  obtain ⟨aob, capb, rfl⟩ := rb.slice
  have HB : Hid (Own w l2 h2 (.slice aob m capb) m b) := rb
  have HR : Hid (RdM w h1 v R n f) := r1
  obtain ⟨ao, cap, e, rfl, hmR, hc, he⟩ := r1
  unfold maxLen at hmR hmm
  have HHE : Hid (∀ i, i < R → Rd w h1 (e i) (n i) (f i)) := he
  have HHC : Hid (R ≠ 0 → ∃ b off, ao = some ⟨b, off, none⟩ ∧ b < h1 ∧ ∀ i, i < R → w.cell? ⟨b, off + i, none⟩ = some (e i)) := hc
  clear rb hc he
  go_enter Try.func26, Try.ntmps26
  go_wp2_with fail
  refine (rowInBounds_any d s _).mono ?_
  rintro e0 w1 ⟨b1, rfl, hb1, b1'⟩
  have HS : Hid (b1 = true ↔ Shp d s) := hb1
  have B1 : Below w.heap.size w w1 := bnew b1'
  have X1 : Box w1 w.heap.size #[.int .i64 0, .slice none 0 0] 42 := (box_new w _ _).below b1' (by simp)
  have z1 : w.heap.size < w1.heap.size := X1.lt
  obtain ⟨x0, x1, y0, y1⟩ := res_cells X1
  clear hb1 b1'
  cases b1 with
  | false =>
    have HNO : Hid (¬ Shp d s) := fun h => by have := HS.out.mpr h; cases this
    clear HS
    go_wp2
    exact bodyPost_ret (v := bytesR 3 (.slice none 0 0)) (by simp [results, Try.results26, go_sem, bytesR, x0, x1]) rfl ⟨3, _, rfl, .inl ⟨rfl, HNO.out⟩, OwnG.none _ _ _ _ _, (B1.setCell (Nat.le_refl _) _).setCell (Nat.le_refl _) _⟩
  | true =>
    have hsh := HS.out.mp rfl
    have HSH : Hid (Shp d s) := hsh
    obtain ⟨q1, q2, q3, q4⟩ := hsh
    obtain ⟨D, rfl⟩ : ∃ D : Nat, d = D := ⟨d.toNat, by omega⟩
    obtain ⟨S, rfl⟩ : ∃ S : Nat, s = S := ⟨s.toNat, by omega⟩
    have CT := allThere_any (.slice ao R cap) R n f h1 ((D : Int) + (S : Int)) w1 (HR.out.below B1 hh)
    clear HS
    go_wp2_with fail
    refine CT.mono ?_
    rintro e0 w2 ⟨b2, rfl, hb2, b2'⟩
    have HT : Hid (b2 = true ↔ WholeP R n ((D : Int) + (S : Int))) := hb2
    have B2 : Below w.heap.size w w2 := B1.trans (b2'.mono B1.size)
    have X2 : Box w2 w.heap.size #[.int .i64 0, .slice none 0 0] 42 := X1.below b2' z1
    have z2 : w.heap.size < w2.heap.size := X2.lt
    clear x0 x1 y0 y1
    obtain ⟨x0, x1, y0, y1⟩ := res_cells X2
    clear hb2 b2' X1 B1 z1 CT
    cases b2 with
    | false =>
      have HNO : Hid (¬ WholeP R n ((D : Int) + (S : Int))) := fun h => by have := HT.out.mpr h; cases this
      clear HT
      go_wp2
      exact bodyPost_ret (v := bytesR 1 (.slice none 0 0)) (by simp [results, Try.results26, go_sem, bytesR, x0, x1]) rfl ⟨1, _, rfl, .inr (.inl ⟨rfl, HSH.out, .inl HNO.out⟩), OwnG.none _ _ _ _ _, (B2.setCell (Nat.le_refl _) _).setCell (Nat.le_refl _) _⟩
    | true =>
      have HTH : Hid (WholeP R n ((D : Int) + (S : Int))) := HT.out.mp rfl
      clear HT
      by_cases hlen : m = 4 * D
      · have hlen2 : (m : Int) = (D : Int) * 4 := by omega
        have tl : ((m : Int) != (D : Int) * 4) = false := by simp; omega
        have rb1 := (HB.out.below B2 hh2).rd
        rw [hlen] at rb1
        have C := blocksOf_any D S (by omega) (by omega) (by omega) (.slice aob (4 * D) capb) b h2 w2 rb1 (Nat.le_trans hh2 B2.size) kb
        rw [← hlen] at C
        have HL : Hid (m = 4 * D) := hlen
        have hRD0 : R = D + S := by have := HTH.out.2; omega
        have HRD : Hid (R = D + S) := hRD0
        have hR0 : 0 < R := by omega
        clear rb1 hlen hlen2 hRD0 x0 x1 y0 y1
        go_wp2_with fail
        refine C.mono ?_
        rintro e0 w4 ⟨v4, rfl, ⟨g4, cap4, h4, C4, om⟩, b4⟩
        have hv4 := om.val
        subst hv4
        have om0 := om.congr (f' := wayS D f b 0) (fun i j _ _ => by simp [wayS])
        have B4 : Below w.heap.size w w4 := B2.trans (b4.mono B2.size)
        have X4 : Box w4 w.heap.size #[.int .i64 0, .slice none 0 0] 42 := X2.below b4 z2
        have hlow4 : w2.heap.size ≤ h4 := om.hlow
        have hhigh4 : h4 < w4.heap.size := om.hhigh
        have hg4 : g4 < w4.heap.size := om.high
        have s2 := B2.size
        clear om b4 C X2
        obtain ⟨b0, off, hao, hblt, hcell⟩ := HHC.out (by omega)
        subst hao
        have HC : Hid (∀ i, i < R → w.cell? ⟨b0, off + i, none⟩ = some (e i)) := hcell
        have hb0w : b0 < w.heap.size := by omega
        clear hcell HHC
        go_wp2
        go_loopw [36] (fun i wr => ∃ k : Nat, k ≤ R ∧ i = .int .i64 k ∧ FlatE wr w2.heap.size w4.heap.size (.slice (some ⟨g4, 0, none⟩) (D + S) cap4) (D + S) (wayS D f b k) g4 cap4 h4 C4 ∧ Box wr w.heap.size #[.int .i64 0, .slice none 0 0] 42 ∧ Below w.heap.size w wr ∧ w4.heap.size ≤ wr.heap.size) (fun i _ => R - (intOf i).toNat)
        case atStart => exact ⟨0, Nat.zero_le _, rfl, om0, X4, B4, Nat.le_refl _⟩
        case round =>
          clear om0 X4 B4
          obtain ⟨k, hk, rfl, hF, hX, hbel, hsz⟩ := hrel
          by_cases hlt : k < R
          · have hkR := HRD.out
            have c1 : wr.cell? ⟨b0, off + k, none⟩ = some (e k) := (hbel.cell (p := ⟨b0, off + k, none⟩) hb0w).trans (HC.out k hlt)
            have rk := (HHE.out k hlt).below hbel hh
            rw [HTH.out.1 k hlt] at rk
            obtain ⟨x, hx⟩ : ∃ x, x = e k := ⟨_, rfl⟩
            rw [← hx] at c1 rk
            obtain ⟨A, hA⟩ : ∃ A, A = 4 * k := ⟨_, rfl⟩
            have c2 : wr.cell? ⟨g4, k, none⟩ = some (.slice (some ⟨h4, A, none⟩) 4 4) := by rw [hA]; exact hF.cell k (by omega)
            obtain ⟨aox, capx, hxs, hmx, hcx⟩ := rk
            obtain ⟨bx, ox, hax, hbx, hcellx⟩ := hcx (by omega)
            subst hax
            subst hxs
            have CA : ∀ q, Calls Try.prog 61 #[.slice (some ⟨h4, A, none⟩) 4 4, .slice (some ⟨bx, ox, none⟩) 4 capx, .int .u8 (1 : Nat)] (wr.drewN q) fun e w' => e = .returned (.tuple #[]) ∧ Own w' h4 (h4 + 1) (.slice (some ⟨h4, 0, none⟩) (4 * (D + S)) C4) (4 * (D + S)) (joinN (wayS D f b (k + 1))) ∧ Chg h4 (h4 + 1) (wr.drewN q) w' := fun q =>
              addScaled_at h4 C4 (4 * (D + S)) A 4 (joinN (wayS D f b k)) (f k) (joinN (wayS D f b (k + 1))) 1 h4 (h4 + 1) bx ox 4 capx (wr.drewN q) hF.flat (by omega) (by show h4 + 1 ≤ wr.heap.size; omega) (by show bx < wr.heap.size; omega) (fun hh => by omega) (.inl (.inl (by omega))) hcellx (Nat.le_refl _) (Nat.lt_succ_self _)
                (fun i => wayS_byt kf kb k _ _) (fun i => kf k i) (by omega) (fun t _ => by rw [hA]; exact wayS_step kf t) (by omega)
            have CA1 := CA 1
            have e1 : ((1 : Nat) : Int) = 1 := rfl
            rw [e1] at CA1
            have HF : Hid (FlatE wr w2.heap.size w4.heap.size (.slice (some ⟨g4, 0, none⟩) (D + S) cap4) (D + S) (wayS D f b k) g4 cap4 h4 C4) := hF
            have HX : Hid (Box wr w.heap.size #[.int .i64 0, .slice none 0 0] 42) := hX
            have HBL : Hid (Below w.heap.size w wr) := hbel
            have hkDS : k < D + S := by omega
            have hkDSi : (k : Int) < (D : Int) + (S : Int) := by omega
            clear hF hX hbel hx hA CA hcx hcellx e1 hkR
            go_wp2
            go_region_with (go_at_call 61; refine CA1.mono ?_; rintro e0 w7 ⟨rfl, o7, ch7⟩)
            all_goals
              have F7 := (HF.out.kept (w' := wr.drewN 1) rfl rfl).set o7 ch7
              have X7 : Box w7 w.heap.size #[.int .i64 0, .slice none 0 0] 42 := Box.chg (w := wr.drewN 1) HX.out ch7 (.inl (by omega))
              have B7 : Below w.heap.size w w7 := (below_drewN HBL.out 1).trans (ch7.below (by omega) HBL.out.size)
              have S7 : w4.heap.size ≤ w7.heap.size := Nat.le_trans hsz ch7.size
              clear o7 ch7 HF HX HBL CA1 c1 c2
              go_wp2
              go_roundw
              case rel => exact ⟨k + 1, by omega, by go_num, F7, X7, B7, S7⟩
              case measure => simp [intOf]; omega
          · obtain rfl : k = R := by omega
            have F9 := hF.congr (f' := shiftN D f b) (fun i j hi _ => by have := HRD.out; unfold wayS; rw [if_pos (by omega)])
            have HF9 : Hid (FlatE wr w2.heap.size w4.heap.size (.slice (some ⟨g4, 0, none⟩) (D + S) cap4) (D + S) (shiftN D f b) g4 cap4 h4 C4) := F9
            obtain ⟨x0, x1, y0, y1⟩ := res_cells hX
            have z4 := hX.lt
            clear hF F9 hX
            go_wp2
            refine bodyPost_ret (v := bytesR 0 (.slice (some ⟨g4, 0, none⟩) (D + S) cap4)) (by simp [results, Try.results26, go_sem, bytesR, x0, x1]) rfl ⟨0, _, rfl, .inr (.inr ⟨rfl, HSH.out, HTH.out, by have := HL.out; omega⟩), ?_, (hbel.setCell (Nat.le_refl _) _).setCell (Nat.le_refl _) _⟩
            have o1 := out_store wr w.heap.size (w.heap.size + 1) w.heap.size 0 (.int .i64 0) (Nat.le_refl _) (by omega)
            have o2 := out_store (wr.setCell ⟨w.heap.size, 0, none⟩ (.int .i64 0)) w.heap.size (w.heap.size + 1) w.heap.size 1 (.slice (some ⟨g4, 0, none⟩) (D + S) cap4) (Nat.le_refl _) (by omega)
            simp only [if_pos]
            have e1 : ((D : Int) + (S : Int)).toNat = D + S := by omega
            rw [e1, Int.toNat_natCast]
            exact .inr ⟨rfl, _, _, _, _, (HF9.out.chg (o1.trans o2).chg (.inr (by omega))).weaken (by omega) (by rw [(o1.trans o2).size]; exact hsz)⟩
      · have tl : ((m : Int) != (D : Int) * 4) = true := by simp; omega
        have HNE : Hid ((m : Int) ≠ (D : Int) * 4) := by show (m : Int) ≠ (D : Int) * 4; omega
        clear hlen
        go_wp2
        exact bodyPost_ret (v := bytesR 1 (.slice none 0 0)) (by simp [results, Try.results26, go_sem, bytesR, x0, x1]) rfl ⟨1, _, rfl, .inr (.inl ⟨rfl, HSH.out, .inr HNE.out⟩), OwnG.none _ _ _ _ _, (B2.setCell (Nat.le_refl _) _).setCell (Nat.le_refl _) _⟩
theorem implShift_any (d s : Int) (v vb : Value) (R : Nat) (n : Nat → Nat) (f : Mat) (m : Nat) (b : Nat → Nat) (l1 h1 l2 h2 : Nat) (w : World) (o1 : OwnM w l1 h1 v R n f) (rb : Own w l2 h2 vb m b) (hh : h1 ≤ w.heap.size) (hh2 : h2 ≤ w.heap.size) (kf : Byt f) (kb : ∀ i, b i < 256) :
    Calls Try.prog 26 #[.int .i64 d, .int .i64 s, v, vb] w fun ee w' => ∃ x v', ee = .returned (bytesR x v') ∧ ShiftAns d s R n m x ∧ OwnG w' w.heap.size w'.heap.size v' (if x = 0 then (d + s).toNat else 0) (fun _ => 4) (shiftN d.toNat f b) ∧ Below w.heap.size w w' := implShift_rd d s v vb R n f m b h1 l2 h2 w o1.rd rb hh hh2 kf kb
end Go.Proofs.Ytoadjpacchhleaa

namespace Go.Proofs.Ytoadjpacchhleaa
open Go.RowKit F256

theorem implAdd_form (v1 v2 : Value) (n m : Nat) (f1 f2 : Nat → Nat) (h1 h2 : Nat) (w : World) (r1 : Rd w h1 v1 n f1) (r2 : Rd w h2 v2 m f2) (hne : n ≠ m) :
    Calls Try.prog 27 #[v1, v2] w fun e w' => ∃ v', e = .returned (bytesR 1 v') ∧ Own w' w.heap.size w'.heap.size v' 0 (fun _ => 0) ∧ Below w.heap.size w w' := by
  obtain ⟨ao, cap, rfl, hm, hc⟩ := r1
  obtain ⟨ao2, cap2, rfl, hm2, hc2⟩ := r2
  clear hc hc2
  unfold maxLen at hm hm2
  have ht : ((n : Int) != (m : Int)) = true := by simp; omega
  go_enter Try.func27, Try.ntmps27
  go_wp2
  exact bodyPost_ret (v := bytesR 1 (.slice none 0 0)) (by simp [results, Try.results27, go_sem, bytesR]) rfl ⟨_, rfl, own_nil _ _ _ _, (Below.refl _ _).alloc (Nat.le_refl _) _⟩
theorem implAdd_many (v1 v2 : Value) (n : Nat) (f1 f2 : Nat → Nat) (h1 h2 : Nat) (w : World) (r1 : Rd w h1 v1 n f1) (r2 : Rd w h2 v2 n f2) (hn : 4000 < n) :
    Calls Try.prog 27 #[v1, v2] w fun e w' => ∃ v', e = .returned (bytesR 2 v') ∧ Own w' w.heap.size w'.heap.size v' 0 (fun _ => 0) ∧ Below w.heap.size w w' := by
  obtain ⟨ao, cap, rfl, hm, hc⟩ := r1
  obtain ⟨ao2, cap2, rfl, hm2, hc2⟩ := r2
  clear hc hc2
  unfold maxLen at hm hm2
  go_enter Try.func27, Try.ntmps27
  go_wp2
  exact bodyPost_ret (v := bytesR 2 (.slice none 0 0)) (by simp [results, Try.results27, go_sem, bytesR]) rfl ⟨_, rfl, own_nil _ _ _ _, (Below.refl _ _).alloc (Nat.le_refl _) _⟩

set_option maxHeartbeats 1000000 in
theorem implAdd_ok (v1 v2 : Value) (n : Nat) (f1 f2 g : Nat → Nat) (h1 h2 : Nat) (w : World) (r1 : Rd w h1 v1 n f1) (r2 : Rd w h2 v2 n f2) (b1 : h1 ≤ w.heap.size) (b2 : h2 ≤ w.heap.size)
    (k1 : ∀ i, f1 i < 256) (k2 : ∀ i, f2 i < 256) (hg : ∀ i, i < n → g i = f1 i ^^^ f2 i) (hn : n ≤ 4000) :
    Calls Try.prog 27 #[v1, v2] w fun e w' => ∃ v', e = .returned (bytesR 0 v') ∧ Own w' w.heap.size w'.heap.size v' n g ∧ Below w.heap.size w w' := by
  obtain ⟨ao, cap, rfl, hm, hc⟩ := r1
  obtain ⟨ao2, cap2, rfl, hm2, hc2⟩ := r2
  unfold maxLen at hm hm2
  have HG : Hid (∀ i, i < n → g i = f1 i ^^^ f2 i) := hg
  have HC : Hid (n ≠ 0 → ∃ b off, ao = some ⟨b, off, none⟩ ∧ b < h1 ∧ ∀ i, i < n → w.cell? ⟨b, off + i, none⟩ = some (.int .u8 (f1 i))) := hc
  have HC2 : Hid (n ≠ 0 → ∃ b off, ao2 = some ⟨b, off, none⟩ ∧ b < h2 ∧ ∀ i, i < n → w.cell? ⟨b, off + i, none⟩ = some (.int .u8 (f2 i))) := hc2
  clear hg hc hc2
  go_enter Try.func27, Try.ntmps27
  go_wp2_with (at_make; refine wp_makeB _ rfl _ _ rfl _ _ n rfl rfl rfl rfl (by omega) ?_; intro w1 hown1 hb1 hz1)
  have hown2 : Own w1 (w.heap.size + 1) w1.heap.size (.slice (some ⟨w.heap.size + 1, 0, none⟩) n n) n (fun _ => 0) := by simpa using hown1
  have hz2 : w.heap.size + 1 < w1.heap.size := by simpa using hz1
  have HB1 : Hid (Below _ _ _) := hb1
  clear hown1 hz1 hb1
  go_loopw [6, 22] (fun _ i wr => ∃ k : Nat, k ≤ n ∧ i = .int .i64 k ∧ Own wr (w.heap.size + 1) w1.heap.size (.slice (some ⟨w.heap.size + 1, 0, none⟩) n n) n (fun i => if i < k then g i else 0) ∧ Out (w.heap.size + 1) w1.heap.size w1 wr) (fun _ i _ => n - (intOf i).toNat)
  case atStart => exact ⟨0, Nat.zero_le _, rfl, hown2, Out.refl _ _ _⟩
  case round =>
    obtain ⟨k, hk, rfl, hown, hout⟩ := hrel
    have hbw : Below w.heap.size w wr := (bnew HB1.out).trans (hout.below.mono (by omega))
    by_cases hlt : k < n
    · obtain ⟨b, off, rfl, hblt, hcell⟩ := HC.out (by omega)
      obtain ⟨b', off2, rfl, hblt2, hcell2⟩ := HC2.out (by omega)
      have hck : wr.cell? ⟨b, off + k, none⟩ = some (.int .u8 (f1 k)) := (hbw.cell (p := ⟨b, off + k, none⟩) (by show b < w.heap.size; omega)).trans (hcell k hlt)
      have hck2 : wr.cell? ⟨b', off2 + k, none⟩ = some (.int .u8 (f2 k)) := (hbw.cell (p := ⟨b', off2 + k, none⟩) (by show b' < w.heap.size; omega)).trans (hcell2 k hlt)
      have hx : bits .xor .u8 (f1 k : Int) (f2 k : Int) = ((g k : Nat) : Int) := by rw [u8_xor_cast (k1 k) (k2 k), HG.out k hlt]
      have hco : wr.cell? ⟨w.heap.size + 1, k, none⟩ = some (.int .u8 (0 : Nat)) := by
        have := hown.1.cellAt k (by omega)
        rw [this, cellsOf_get _ _ _ hlt, if_neg (Nat.lt_irrefl k)]
      have hfo : wr.frozen? ⟨w.heap.size + 1, k, none⟩ = false := hown.1.frozenAt k
      have R : Own (wr.setCell ⟨w.heap.size + 1, k, none⟩ (.int .u8 (g k))) (w.heap.size + 1) w1.heap.size (.slice (some ⟨w.heap.size + 1, 0, none⟩) n n) n (fun i => if i < k + 1 then g i else 0) :=
        hown.store k (g k) hlt (fun i _ => by by_cases e : i = k <;> simp [e] <;> by_cases e' : i < k <;> simp [e'] <;> omega)
      have R2 : Out (w.heap.size + 1) w1.heap.size w1 (wr.setCell ⟨w.heap.size + 1, k, none⟩ (.int .u8 (g k))) := hout.trans (out_store wr _ _ _ k _ (Nat.le_refl _) hz2)
      clear hown hout hbw hcell hcell2
      go_wp2
      go_region
      all_goals
        go_wp2
        go_roundw
        case rel => exact ⟨k + 1, by omega, by go_num, R.drew, R2.drew⟩
        case measure => simp [intOf]; omega
    · have hkn : k = n := by omega
      subst hkn
      obtain ⟨c0, c1, z0, z1⟩ := res_cells (res_row HB1.out hout)
      go_wp2
      exact bodyPost_ret (v := bytesR 0 (.slice (some ⟨w.heap.size + 1, 0, none⟩) k k)) (by simp [results, Try.results27, go_sem, bytesR, c0, c1]) rfl
        ⟨_, rfl, own_set2 (o := .cells #[.int .i64 0, .slice none 0 0] 36) (by simpa using (hown.congr (g := g) (fun i hi => by simp [hi])).mono (Nat.le_of_eq hout.size.symm)), (hbw.setCell (Nat.le_refl _) _).setCell (Nat.le_refl _) _⟩
end Go.Proofs.Ytoadjpacchhleaa

namespace Go.Proofs.Ytoadjpacchhleaa
open Go.RowKit F256
set_option linter.unusedVariables false
set_option linter.unusedSimpArgs false

theorem fieldK0 (a : Int) (v : Value) (w : World) : (Instr.field 42 (.agg #[.int .i64 a, v]) 0).run Try.prog w = .ok (.int .i64 a) w := by kernel_rfl
theorem fieldK1 (a : Int) (v : Value) (w : World) : (Instr.field 42 (.agg #[.int .i64 a, v]) 1).run Try.prog w = .ok v w := by kernel_rfl
theorem undrew1 {B : Nat} {w w2 : World} {m : Nat} (h : Below B (w.drewN m) w2) : Below B w w2 := ⟨h.os, h.tape, h.output, h.size, h.block⟩

set_option maxHeartbeats 8000000 in
theorem fnRowSums_core (v : Value) (n0 : Nat) (f0 : Nat → Nat) (k0 : ∀ i, f0 i < 256) (w : World) (r0 : Rd w w.heap.size v n0 f0) :
    Calls Try.prog 6 #[v] w fun e w' => e = .returned (.bool true) ∧ Below w.heap.size w w' := by
  by_cases hbig : 1048576 < n0
  · go_enter Try.func6, Try.ntmps6
    go_wp2_with fail
    refine (lwBig_yes _ n0 f0 _ _ r0 hbig).mono ?_
    rintro e w1 ⟨rfl, hw1⟩
    obtain rfl := hw1.symm
    go_wp2
    go_ret
    exact ⟨rfl, Below.refl _ _⟩
  have HR0 : Hid (Rd w w.heap.size v n0 f0) := r0
  have HK0 : Hid (∀ i, f0 i < 256) := k0
  go_enter Try.func6, Try.ntmps6
  go_wp2_with fail
  refine (lwBig_no _ n0 f0 _ _ r0 (by omega)).mono ?_
  rintro e w1 ⟨rfl, hw1⟩
  obtain rfl := hw1.symm
  go_wp2_with fail
  refine (drawRow_any _ n0 f0 _ r0 k0 (by omega)).mono ?_
  rintro e w1 ⟨a, b, vb, N, g, ha1, ha2, hb1, hb2, rfl, ob, kg, hN, b1⟩
  obtain ⟨aob, capb, rfl⟩ := ob.slice
  have HOB : Hid (Own w1 w.heap.size w1.heap.size (.slice aob N capb) N g) := ob
  have HKG : Hid (∀ i, g i < 256) := kg
  have CE := implEncode_any a b _ N g _ _ w1 ob (Nat.le_refl _) kg
  clear r0 k0 ob kg
  go_wp2_with fail
  refine CE.mono ?_
  rintro e w2 ⟨x, vr, rfl, hans, og, b2⟩
  have HA : Hid (EncAns a b N x) := hans
  obtain ⟨nb, hnb⟩ : ∃ nb, nb = (if x = 0 then (a + b).toNat else 0) := ⟨_, rfl⟩
  rw [← hnb] at og
  obtain ⟨aor, capr, rfl⟩ := og.slice
  have HG : Hid (OwnG w2 w1.heap.size w2.heap.size (.slice aor nb capr) nb (fun _ => 4) (encN a.toNat g)) := og
  have HNB : Hid (nb = (if x = 0 then (a + b).toNat else 0)) := hnb
  have HB1 : Hid (Below w.heap.size w w1) := b1
  have HB2 : Hid (Below w1.heap.size w1 w2) := b2
  have s1 := b1.size
  have s2 := b2.size
  unfold bytesR
  clear CE hans og hnb b1 b2
  by_cases hx : x = 0
  · subst hx
    have hfacts : Shp a b ∧ (N : Int) = a * 4 := by
      rcases HA.out with ⟨h, _⟩ | ⟨h, _⟩ | ⟨_, h1, h2⟩
      · omega
      · omega
      · exact ⟨h1, h2⟩
    obtain ⟨hsh, hN4⟩ := hfacts
    have HSH : Hid (Shp a b) := hsh
    obtain ⟨q1, q2, q3, q4⟩ := hsh
    obtain ⟨D, rfl⟩ : ∃ D : Nat, a = D := ⟨a.toNat, by omega⟩
    obtain ⟨S, rfl⟩ : ∃ S : Nat, b = S := ⟨b.toNat, by omega⟩
    obtain rfl : N = 4 * D := by omega
    obtain rfl : nb = D + S := by rw [HNB.out]; simp; omega
    have hrm := HG.out.rd
    rw [Int.toNat_natCast] at hrm
    have HRM : Hid (RdM w2 w2.heap.size (.slice aor (D + S) capr) (D + S) (fun _ => 4) (encN D g)) := hrm
    obtain ⟨ao', cap', er, hv', _, hcr, her⟩ := hrm
    cases hv'
    obtain ⟨br, offr, hao, hbr, hcellr⟩ := hcr (by omega)
    subst hao
    have HER : Hid (∀ i, i < D + S → Rd w2 w2.heap.size (er i) 4 (encN D g i)) := her
    have HCR : Hid (∀ i, i < D + S → w2.cell? ⟨br, offr + i, none⟩ = some (er i)) := hcellr
    clear hcr her hcellr hN4 HNB HA HG
    have bx : Below w2.heap.size w2 (w2.alloc (.cells #[.int .i64 0, .slice (some ⟨br, offr, none⟩) (D + S) capr] 42)) := (Below.refl _ _).alloc (Nat.le_refl _) _
    have X3 : Box (w2.alloc (.cells #[.int .i64 0, .slice (some ⟨br, offr, none⟩) (D + S) capr] 42)) w2.heap.size #[.int .i64 0, .slice (some ⟨br, offr, none⟩) (D + S) capr] 42 := box_new _ _ _
    obtain ⟨w3, hw3⟩ : ∃ w3, w3 = w2.alloc (.cells #[.int .i64 0, .slice (some ⟨br, offr, none⟩) (D + S) capr] 42) := ⟨_, rfl⟩
    have HZ3 : Hid (w2.heap.size + 1 = w3.heap.size) := by show w2.heap.size + 1 = w3.heap.size; rw [hw3]; simp
    rw [← hw3] at bx X3
    have z3 : w2.heap.size < w3.heap.size := X3.lt
    have HX3 : Hid (Box w3 w2.heap.size #[.int .i64 0, .slice (some ⟨br, offr, none⟩) (D + S) capr] 42) := X3
    have HB3 : Hid (Below w2.heap.size w2 w3) := bx
    have s3 := bx.size
    clear bx X3
    go_wp2
    rw [← hw3]
    clear hw3
    go_loopw [7, 8] (fun u i wr => ∃ k : Nat, k ≤ 4 * D ∧ i = .int .i64 k ∧ ∃ h : Nat → Nat, (∀ t, h t < 256) ∧ Own wr w3.heap.size wr.heap.size u k h ∧ Below w3.heap.size w3 wr) (fun _ i _ => 4 * D - (intOf i).toNat)
    case atStart => exact ⟨0, Nat.zero_le _, rfl, fun _ => 0, fun _ => by show (0 : Nat) < 256; omega, by rw [HZ3.out]; exact own_lit0 w3 _, (Below.refl _ _).alloc (Nat.le_refl _) _⟩
    case round =>
      obtain ⟨k, hk, rfl, h, kh, hown, hbel⟩ := hrel
      have szr := hbel.size
      by_cases hlt : k < 4 * D
      · have bw : Below w.heap.size w wr := HB1.out.trans ((HB2.out.mono s1).trans ((HB3.out.mono (by omega)).trans (hbel.mono (by omega))))
        have CL := lwAt_any _ n0 f0 (k + 9) 256 (by omega) (by omega) (by omega) w.heap.size wr (HR0.out.below bw (Nat.le_refl _)) HK0.out (by omega)
        have e1 : ((k + 9 : Nat) : Int) = (k : Int) + 9 := by simp
        have e2 : ((256 : Nat) : Int) = 256 := rfl
        rw [e1, e2] at CL
        have HO : Hid (Own wr w3.heap.size wr.heap.size u7 k h) := hown
        have HKH : Hid (∀ t, h t < 256) := kh
        have HBL : Hid (Below w3.heap.size w3 wr) := hbel
        have hlti : (k : Int) < 4 * (D : Int) := by omega
        clear hown kh hbel bw e1 e2
        go_wp2_with fail
        refine CL.mono ?_
        rintro e w6 ⟨r, hr, rfl, b6⟩
        have HOX : Hid (Own w6 w3.heap.size wr.heap.size u7 k (fun i => if i = k then r else h i)) := (HO.out.below b6 (Nat.le_refl _)).congr (fun i hi => by simp [show ¬ i = k by omega])
        have s6 := b6.size
        have HB6 : Hid (Below wr.heap.size wr w6) := b6
        have hrm : (r : Int) % 256 = (r : Int) := by omega
        have hrn : r % 256 = r := by omega
        clear CL b6 HO
        go_wp2_with (at_builtin; refine wp_appendB rfl (.tmp 43) (.tmp 49) rfl w3.heap.size wr.heap.size u7 k (fun i => if i = k then r else h i) ?_ ?_ w6.heap.size 1 ?_ ?_ (by omega) ?_ ?_; (simp [Act.eval]); exact HOX.out.alloc _; (simp [Act.eval]); (simp [hrm, hrn]); (simp; omega); intro v7 w7 o7 b7)
        have R7 : Below w3.heap.size w3 w7 := (HBL.out.trans (HB6.out.mono szr)).trans (((Below.refl w3.heap.size w6).alloc (by omega) _).trans b7)
        have K7 : ∀ t, (fun i => if i = k then r else h i) t < 256 := fun t => by
          show (if t = k then r else h t) < 256
          by_cases c : t = k
          · rw [if_pos c]; omega
          · rw [if_neg c]; exact HKH.out t
        clear b7 HOX HB6 HBL HKH
        go_wp2
        go_roundw
        case rel => exact ⟨k + 1, by omega, by go_num, _, K7, o7, R7⟩
        case measure => simp [intOf]; omega
      · obtain rfl : k = 4 * D := by omega
        have HKH : Hid (∀ t, h t < 256) := kh
        obtain ⟨ao7, cap7, hs7⟩ := hown.slice
        subst hs7
        have HO : Hid (Own wr w3.heap.size wr.heap.size (.slice ao7 (4 * D) cap7) (4 * D) h) := hown
        have HBL : Hid (Below w3.heap.size w3 wr) := hbel
        have b2r : Below w2.heap.size w2 wr := HB3.out.trans (hbel.mono s3)
        have HB2r : Hid (Below w2.heap.size w2 wr) := b2r
        have hnk : ¬ (((4 * D : Nat) : Int) < 4 * (D : Int)) := by omega
        obtain ⟨x0, x1, -, -⟩ := res_cells (HX3.out.below hbel z3)
        have CS := implShift_rd D S _ _ (D + S) (fun _ => 4) (encN D g) (4 * D) h w2.heap.size w3.heap.size wr.heap.size wr (HRM.out.below b2r (Nat.le_refl _)) hown b2r.size (Nat.le_refl _) (encN_byt HKG.out) kh
        have HSA : Hid (ShiftAns (D : Int) (S : Int) (D + S) (fun _ => 4) (4 * D) 0) := .inr (.inr ⟨rfl, HSH.out, ⟨fun _ _ => rfl, by omega⟩, by omega⟩)
        obtain ⟨wA, hwA⟩ : ∃ wA, wA = wr := ⟨_, rfl⟩
        rw [← hwA] at HO HBL HB2r CS x0 x1 szr ⊢
        clear kh hown hbel b2r hwA
        go_wp2_with fail
        refine CS.mono ?_
        rintro e w8 ⟨x8, v8, rfl, ha8, o8, b8⟩
        obtain rfl : x8 = 0 := ha8.one HSA.out
        simp only [if_pos] at o8
        have eDS : ((D : Int) + (S : Int)).toNat = D + S := by omega
        rw [eDS, Int.toNat_natCast] at o8
        obtain ⟨ao8, cap8, rfl⟩ := o8.slice
        have HO8 : Hid (OwnG w8 wA.heap.size w8.heap.size (.slice ao8 (D + S) cap8) (D + S) (fun _ => 4) (shiftN D (encN D g) h)) := o8
        have HB8 : Hid (Below wA.heap.size wA w8) := b8
        have s8 := b8.size
        unfold bytesR
        clear CS ha8 o8 b8 x0 x1 HSA
        have bx : Below w8.heap.size w8 (w8.alloc (.cells #[.int .i64 0, .slice ao8 (D + S) cap8] 42)) := (Below.refl _ _).alloc (Nat.le_refl _) _
        have X9 : Box (w8.alloc (.cells #[.int .i64 0, .slice ao8 (D + S) cap8] 42)) w8.heap.size #[.int .i64 0, .slice ao8 (D + S) cap8] 42 := box_new _ _ _
        obtain ⟨w9, hw9⟩ : ∃ w9, w9 = w8.alloc (.cells #[.int .i64 0, .slice ao8 (D + S) cap8] 42) := ⟨_, rfl⟩
        rw [← hw9] at bx X9
        have z9 : w8.heap.size < w9.heap.size := X9.lt
        have HX9 : Hid (Box w9 w8.heap.size #[.int .i64 0, .slice ao8 (D + S) cap8] 42) := X9
        have HB9 : Hid (Below w8.heap.size w8 w9) := bx
        have HA9 : Hid (Below wA.heap.size wA w9) := HB8.out.trans (bx.mono s8)
        have sA9 := HA9.out.size
        have b19 : Below w1.heap.size w1 w9 := HB2.out.trans ((HB2r.out.mono s2).trans (HA9.out.mono (by omega)))
        have CA := implAdd_ok _ _ (4 * D) g h (fun t => g t ^^^ h t) w1.heap.size wA.heap.size w9 (HOB.out.rd.below b19 (Nat.le_refl _)) (HO.out.rd.below HA9.out (Nat.le_refl _)) b19.size sA9 HKG.out HKH.out (fun _ _ => rfl) (by omega)
        clear bx X9 b19
        go_wp2_with fail
        rw [← hw9]
        clear hw9
        refine CA.mono ?_
        rintro e w10 ⟨v10, rfl, o10, b10⟩
        obtain ⟨ao10, cap10, rfl⟩ := o10.slice
        have HB10 : Hid (Below w9.heap.size w9 w10) := b10
        have s10 := b10.size
        unfold bytesR
        have bx : Below w10.heap.size w10 (w10.alloc (.cells #[.int .i64 0, .slice ao10 (4 * D) cap10] 36)) := (Below.refl _ _).alloc (Nat.le_refl _) _
        have CE := implEncode_any D S _ (4 * D) (fun t => g t ^^^ h t) w9.heap.size w10.heap.size _ (o10.alloc (.cells #[.int .i64 0, .slice ao10 (4 * D) cap10] 36)) bx.size (fun t => xor_lt (HKG.out t) (HKH.out t))
        have HEA : Hid (EncAns (D : Int) (S : Int) (4 * D) 0) := .inr (.inr ⟨rfl, HSH.out, by omega⟩)
        clear CA o10 b10 bx
        go_wp2_with fail
        refine CE.mono ?_
        rintro e w12 ⟨x12, v12, rfl, ha12, o12, b12⟩
        obtain rfl : x12 = 0 := ha12.one HEA.out
        simp only [if_pos] at o12
        rw [eDS, Int.toNat_natCast] at o12
        have hrw := o12.rd
        have hrs := HO8.out.rd
        obtain ⟨ao12, cap12, rfl⟩ := o12.slice
        have B12 : Below w10.heap.size w10 w12 := bnew b12
        have b912 : Below w9.heap.size w9 w12 := HB10.out.trans (B12.mono s10)
        have H912 : Hid (Below w9.heap.size w9 w12) := b912
        have s912 := b912.size
        obtain ⟨aoS, capS, es, hvS, _, hcS, heS⟩ := hrs
        cases hvS
        obtain ⟨bS, offS, haoS, hbS, hcellS⟩ := hcS (by omega)
        subst haoS
        obtain ⟨aoW, capW, ew, hvW, _, hcW, heW⟩ := hrw
        cases hvW
        obtain ⟨bW, offW, haoW, hbW, hcellW⟩ := hcW (by omega)
        subst haoW
        have HES : Hid (∀ i, i < D + S → Rd w8 w8.heap.size (es i) 4 (shiftN D (encN D g) h i)) := heS
        have HCS : Hid (∀ i, i < D + S → w8.cell? ⟨bS, offS + i, none⟩ = some (es i)) := hcellS
        have HEW : Hid (∀ i, i < D + S → Rd w12 w12.heap.size (ew i) 4 (encN D (fun t => g t ^^^ h t) i)) := heW
        have HCW : Hid (∀ i, i < D + S → w12.cell? ⟨bW, offW + i, none⟩ = some (ew i)) := hcellW
        unfold bytesR
        have hfd := fieldK1 0 (.slice (some ⟨bW, offW, none⟩) (D + S) cap12)
        clear CE ha12 o12 b12 B12 b912 hcS heS hcellS hcW heW hcellW HEA
        go_wp2
        go_loopw [12] (fun j wr => ∃ i : Nat, i ≤ D + S ∧ j = .int .i64 i ∧ Below w12.heap.size w12 wr) (fun j _ => D + S - (intOf j).toNat)
        case atStart => exact ⟨0, Nat.zero_le _, rfl, Below.refl _ _⟩
        case round =>
          obtain ⟨i, hi, rfl, hb⟩ := hrel
          have HB : Hid (Below w12.heap.size w12 wr) := hb
          have b9r : Below w9.heap.size w9 wr := H912.out.trans (hb.mono s912)
          have b8r : Below w8.heap.size w8 wr := HB9.out.trans (b9r.mono (by omega))
          obtain ⟨x0, x1, -, -⟩ := res_cells (HX9.out.below b9r z9)
          by_cases hli : i < D + S
          · have hlii : (i : Int) < (D : Int) + (S : Int) := by omega
            have c1 : wr.cell? ⟨bS, offS + i, none⟩ = some (es i) := (b8r.cell (p := ⟨bS, offS + i, none⟩) hbS).trans (HCS.out i hli)
            have c2 : wr.cell? ⟨bW, offW + i, none⟩ = some (ew i) := (hb.cell (p := ⟨bW, offW + i, none⟩) hbW).trans (HCW.out i hli)
            have rS : Rd wr w8.heap.size (es i) 4 (encN D (fun t => g t ^^^ h t) i) := by
              obtain ⟨a1, a2, a3, a4, a5⟩ := (HES.out i hli).below b8r (Nat.le_refl _)
              refine ⟨a1, a2, a3, a4, fun h0 => ?_⟩
              obtain ⟨p1, p2, p3, p4, p5⟩ := a5 h0
              exact ⟨p1, p2, p3, p4, fun j hj => by rw [p5 j hj, encN_sum HKG.out HKH.out]; rfl⟩
            have rW := (HEW.out i hli).below hb (Nat.le_refl _)
            obtain ⟨ys, hys⟩ : ∃ y, y = es i := ⟨_, rfl⟩
            obtain ⟨yw, hyw⟩ : ∃ y, y = ew i := ⟨_, rfl⟩
            rw [← hys] at c1 rS
            rw [← hyw] at c2 rW
            have CWq : ∀ q, Calls Try.prog 24 #[ys, yw] (wr.drewN q) fun e w' => e = .returned (.bool true) ∧ Below (wr.drewN q).heap.size (wr.drewN q) w' := fun q => lwBytes_same ys yw 4 (encN D (fun t => g t ^^^ h t) i) w8.heap.size w12.heap.size (wr.drewN q) rS rW
            have CW1 := CWq 1
            obtain ⟨aos, caps, hss, _, _⟩ := rS
            obtain ⟨aow, capw, hsw, _, _⟩ := rW
            subst hss
            subst hsw
            have tl : ((D : Int) + (S : Int) != (D : Int) + (S : Int)) = false := by simp
            clear hys hyw b9r b8r hb CWq
            go_wp2
            first | go_region_with (go_at_call 24; refine CW1.mono ?_; rintro ee w13 ⟨rfl, b13⟩) | fail
            all_goals
              have R13 : Below w12.heap.size w12 w13 := HB.out.trans ((undrew1 b13).mono HB.out.size)
              clear b13 c1 c2 x0 x1 CW1
              go_wp2
              go_roundw
              case rel => exact ⟨i + 1, by omega, by go_num, R13⟩
              case measure => simp [intOf]; omega
          · obtain rfl : i = D + S := by omega
            have BF : Below w.heap.size w wr := HB1.out.trans ((HB2.out.mono s1).trans ((HB2r.out.mono (by omega)).trans ((HA9.out.mono (by omega)).trans (b9r.mono (by omega)))))
            have hni : ¬ (((D + S : Nat) : Int) < (D : Int) + (S : Int)) := by omega
            have hps : (0 : Int) < (D : Int) + (S : Int) := by omega
            clear hb b9r b8r
            go_wp2
            go_ret
            exact ⟨rfl, BF⟩
  · have HX : Hid (x ≠ 0) := hx
    have tx : (x != 0) = true := by simp [hx]
    have CSp := fun (w3 : World) (b3 : Below w2.heap.size w2 w3) => specEncode_any a b _ N g _ _ w3 ((HOB.out.below HB2.out (Nat.le_refl _)).below b3 s2) (Nat.le_trans s2 b3.size) HKG.out
    have HCS : Hid (∀ (w3 : World), Below w2.heap.size w2 w3 → Calls Try.prog 21 #[.int .i64 a, .int .i64 b, .slice aob N capb] w3 fun ee w' => ∃ x v', ee = .returned (bytesR x v') ∧ EncAns a b N x ∧ OwnB w' w3.heap.size w'.heap.size v' (if x = 0 then (a + b).toNat else 0) (fun _ => 4) (encN a.toNat g) ∧ Below w3.heap.size w3 w') := CSp
    clear CSp HG HNB hx
    have hfd := fun (vv : Value) => fieldK0 x vv
    have txx : (x == x) = true := by simp
    go_wp2
    first | go_region_with (go_at_call 21; refine (HCS.out _ ?_).mono ?_; exact below_drewN ((Below.refl _ _).alloc (Nat.le_refl _) _) _; rintro e w4 ⟨x', vb', rfl, ha', ob', b4⟩; obtain rfl := ha'.one HA.out; obtain ⟨ao', cap', rfl⟩ := ob'.slice; unfold bytesR; have b4' : Below w2.heap.size w2 w4 := ((Below.refl w2.heap.size w2).alloc (Nat.le_refl _) _).trans ((undrew1 b4).mono (by simp)); obtain ⟨q0, -, -, -⟩ := res_cells ((box_new w2 #[.int .i64 x', .slice aor nb capr] 42).below (undrew1 b4) (by simp))) | fail
    all_goals
      have B4 : Below w.heap.size w w4 := HB1.out.trans ((HB2.out.mono s1).trans (b4'.mono (by omega)))
      clear b4 b4' q0 ob' ha'
      go_wp2
      go_ret
      exact ⟨rfl, B4⟩
end Go.Proofs.Ytoadjpacchhleaa

namespace Go.Proofs.Ytoadjpacchhleaa
open Go.ChangeShapes Go.WideShapes Go.ChangeAt Go.RowKit F256
set_option linter.unusedVariables false

theorem fnRowSums_walk (a0 : Option Addr) (n0 c0 : Nat) (z0 : List Int) (w : World) (q0 : IsRow w a0 n0 c0 z0) :
    Calls Try.prog 6 #[.slice a0 n0 c0] w fun e w' => e = .returned (.bool true) ∧ Below w.heap.size w w' := by
  obtain ⟨f0, k0, r0⟩ := q0.rd
  exact fnRowSums_core _ n0 f0 k0 w r0

set_option maxRecDepth 100000 in
theorem fnRowSums_lifted (os : Os) (started : os.Started) (H : Type) (enc : TypeId × Value → H) :
    ReturnsInHanded {} Try.checked os 6 .any (Rows.fnRowSumsSpec.pre6 enc Try.prog Try.f6 Rows.fnRowSumsRow.domain false) (Rows.fnRowSumsSpec.post enc Try.prog Try.f6 false true false false) := by
  refine returnsInHanded_of_change (C := Try.checked) frame_own started (by kernel_rfl) Try.func6
    (ChangeSpec.witness6 (enc := enc) (C := Try.checked) false ⟨#[], #[.slice none 0 0], []⟩ 8 (by kernel_rfl) (by kernel_rfl) (by kernel_rfl) (by kernel_rfl)) ?_
  intro W base args ds gs before hval0 hW hcnd _
  have hval : ∀ (j : Nat) t v, Try.f6.params[j]? = some t → args[j]? = some v → Value.okWide Try.prog W .any base t v := hval0
  have hW' := hW
  obtain ⟨p, q, hA0, hV, rfl, hfz, hnd⟩ := hW
  have hA : DataW.TrodAll enc Try.prog W 0 (fun _ => true) true Try.f6.params.toList args.toList ds p := hA0
  rw [Try.params6] at hA hval
  obtain ⟨v0, vs0, d0, ds0, p0, q0, hargs, rfl, rfl, h0, r0⟩ := trodAll_cons hA
  obtain ⟨rfl, rfl, rfl⟩ := trodAll_nil r0
  obtain rfl : args = #[v0] := by cases args; simp_all
  obtain ⟨rfl, rfl⟩ := trodVars_none hV
  obtain ⟨a0, len0, cap0, rfl⟩ := okWide_slice Try.underlying22 (hval 0 22 v0 rfl rfl)
  have k0 := h0
  have lt0 : ∀ x ∈ p0, x.block < W.heap.size := by obtain ⟨m, hm⟩ := k0; exact DataW.trod_lt m _ _ _ hm
  obtain ⟨z0, w0⟩ : ∃ zs, IsRow W a0 len0 cap0 zs := row_of_trod Try.underlying22 Try.underlying5 (by kernel_rfl) h0
  clear hA0 hval0
  refine (fnRowSums_walk a0 len0 cap0 z0 W w0).mono fun e W' ⟨he, bel⟩ => ?_
  subst he
  exact ⟨_, rfl, _, _, _, [], _, [], hW', trodAll_mk1 (shut_bool Try.underlying4 _), (trodAll_cons_mk (Below.trod frame_laid (by kernel_rfl) (of_decide_eq_true (by kernel_rfl)) k0 bel lt0) trodAll_mk0), rfl, bel.frame _, fun h => by cases h⟩

theorem fnRowSums_proved : Rows.FnRowSumsSaid :=
  OpenClaim.holds_of_wide 6 Try.f6 rfl rfl rfl rfl rfl rfl rfl ⟨rfl, rfl, rfl, rfl, rfl⟩ rfl rfl rfl rfl rfl (by kernel_rfl) Try.func6 (by kernel_rfl)
    (of_decide_eq_true (by kernel_rfl)) (by unfold Func.isWrapper; first | (rw [if_pos (by decide +kernel)]; kernel_rfl) | (rw [if_neg (by decide +kernel)]; exact ⟨rfl, rfl⟩))
    (fun os started H enc _ => fnRowSums_lifted os started H enc)
#print axioms fnRowSums_proved
end Go.Proofs.Ytoadjpacchhleaa
