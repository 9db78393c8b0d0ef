/- The blocks of every drawn row fit, and any so many of them as it has data blocks tell the row and each of its blocks; a code is the specification's: the law FnRows returns true at every code, and changes nothing that was there. No condition. -/
import Derived.Test.YtoadjpacchhleaaWImplC
import Derived.Test.YtoadjpacchhleaaWImplG
import Derived.Laws.Cover3
import Derived.Stop.BytesEq
import Derived.BigQuiet
import Derived.Deep.QuietTactic
import Derived.Test.YtoadjpacchhleaaWRowE
import Derived.Test.YtoadjpacchhleaaWFlat
import Derived.Test.YtoadjpacchhleaaWRowA
import Derived.Test.YtoadjpacchhleaaNth
import Derived.Test.YtoadjpacchhleaaWDrawR
import Derived.Test.YtoadjpacchhleaaRows
import Derived.Test.YtoadjpacchhleaaFrameB
namespace Go.Proofs.Ytoadjpacchhleaa
open Go.RowKit F256
set_option linter.unusedVariables false
set_option linter.unusedSimpArgs false

/-- four bytes as an array -/
def arr4 (f : Nat → Nat) : Value := .agg #[.int .u8 (f 0), .int .u8 (f 1), .int .u8 (f 2), .int .u8 (f 3)]
theorem arr4_cells (f : Nat → Nat) (h : ∀ j, f j < 256) : arr4 f = .agg (([UInt8.ofNat (f 0), UInt8.ofNat (f 1), UInt8.ofNat (f 2), UInt8.ofNat (f 3)] : List UInt8).map Extern.Stop.cell).toArray := by
  have e : ∀ j, Extern.Stop.cell (UInt8.ofNat (f j)) = Value.int .u8 (f j) := fun j => by
    have : (UInt8.ofNat (f j)).toNat = f j := by simp [UInt8.toNat_ofNat, Nat.mod_eq_of_lt (h j)]
    simp [Extern.Stop.cell, this]
  simp [arr4, e]
theorem ofNat_eq {a b : Nat} (ha : a < 256) (hb : b < 256) : UInt8.ofNat a = UInt8.ofNat b ↔ a = b := by
  have e : ∀ x, x < 256 → (UInt8.ofNat x).toNat = x := fun x hx => by simp [Nat.mod_eq_of_lt hx]
  rw [← UInt8.toNat_inj, e a ha, e b hb]
theorem eq4_run (f g : Nat → Nat) (hf : ∀ j, f j < 256) (hg : ∀ j, g j < 256) (b : Bool) (hb : b = true ↔ ∀ j, j < 4 → f j = g j) (w : World) : (Op.equalIn 10000 86 (arr4 f) (arr4 g)).run Try.prog w = .ok b w := by
  rw [arr4_cells f hf, arr4_cells g hg, run_equalIn_bytes w 9998 86 5 4 Try.underlying86 Try.underlying5 (fun w => by kernel_rfl) _ _ rfl rfl]
  congr 1
  rw [Bool.eq_iff_iff, hb]
  simp only [beq_iff_eq, List.cons.injEq, and_true]
  rw [ofNat_eq (hf 0) (hg 0), ofNat_eq (hf 1) (hg 1), ofNat_eq (hf 2) (hg 2), ofNat_eq (hf 3) (hg 3)]
  constructor
  · rintro ⟨h0, h1, h2, h3⟩ j hj
    match j, hj with
    | 0, _ => exact h0
    | 1, _ => exact h1
    | 2, _ => exact h2
    | 3, _ => exact h3
  · exact fun h => ⟨h 0 (by omega), h 1 (by omega), h 2 (by omega), h 3 (by omega)⟩

theorem cntN_all {n : Nat → Nat} : ∀ {k : Nat}, (∀ i, i < k → n i ≠ 0) → cntN n k = k
  | 0, _ => rfl
  | k + 1, h => by rw [cntN, if_neg (h k (by omega)), cntN_all (fun i hi => h i (by omega))]
theorem nthN_all {n : Nat → Nat} {R t : Nat} (h : ∀ i, i < R → n i ≠ 0) (ht : t < R) : nthN n R t = t := by
  have := nthN_is (n := n) ht (h t ht)
  rw [cntN_all (fun i hi => h i (by omega))] at this
  exact this
/-- where all blocks are there the bytes are the data blocks' -/
theorem decN_all {D R : Nat} {n : Nat → Nat} {f : Mat} (hD1 : 1 ≤ D) (hD : D ≤ 3) (hR : R ≤ D + 2) (hDR : D ≤ R) (h4 : ∀ i, i < R → n i = 4) (kf : Byt f) (t : Nat) (ht : t < 4 * D) : decN D n R f t = joinN f t := by
  have hn : ∀ i, i < R → n i ≠ 0 := fun i hi => by rw [h4 i hi]; omega
  have h1 := blockN_is (t0 := t / 4) hD1 hD hR (by rw [cntN_all hn]; exact hDR) (fun i hi => .inr (h4 i hi)) kf (by omega) (t % 4)
  rw [nthN_all hn (by omega)] at h1
  exact h1

set_option maxHeartbeats 4000000 in
theorem implFits_rd (d s : Int) (v : Value) (R : Nat) (n : Nat → Nat) (f : Mat) (h1 : Nat) (w : World) (r1 : RdM w h1 v R n f) (hh : h1 ≤ w.heap.size) (kf : Byt f) :
    Calls Try.prog 22 #[.int .i64 d, .int .i64 s, v] w (BoolP (FitsP d s R n f) w) := by
  have HR : Hid (RdM w h1 v R n f) := r1
  obtain ⟨ao, cap, e, rfl, hmR, hc, he⟩ := r1
  unfold maxLen at hmR
  have HHE : Hid (∀ i, i < R → Rd w h1 (e i) (n i) (f i)) := he
  have HHC : Hid (R ≠ 0 → ∃ b off, ao = some ⟨b, off, none⟩ ∧ b < h1 ∧ ∀ i, i < R → w.cell? ⟨b, off + i, none⟩ = some (e i)) := hc
  clear hc he
  go_enter Try.func22, Try.ntmps22
  go_wp2_with fail
  refine (rowInBounds_any d s _).mono ?_
  rintro e0 w1 ⟨b1, rfl, hb1, B1⟩
  have HS : Hid (b1 = true ↔ Shp d s) := hb1
  clear hb1
  cases b1 with
  | false =>
    have HNO : Hid (¬ FitsP d s R n f) := fun h => by have := HS.out.mpr h.1; cases this
    clear HS
    go_wp2
    go_ret
    exact boolNo rfl HNO.out B1
  | true =>
    have hsh := HS.out.mp rfl
    have HSH : Hid (Shp d s) := hsh
    obtain ⟨q1, q2, q3, q4⟩ := hsh
    obtain ⟨D, rfl⟩ : ∃ D : Nat, d = D := ⟨d.toNat, by omega⟩
    obtain ⟨S, rfl⟩ : ∃ S : Nat, s = S := ⟨s.toNat, by omega⟩
    have CT := allThere_any (.slice ao R cap) R n f h1 ((D : Int) + (S : Int)) w1 (HR.out.below B1 hh)
    clear HS
    go_wp2_with fail
    refine CT.mono ?_
    rintro e0 w2 ⟨b2, rfl, hb2, b2'⟩
    have HT : Hid (b2 = true ↔ WholeP R n ((D : Int) + (S : Int))) := hb2
    have B2 : Below w.heap.size w w2 := B1.trans (b2'.mono B1.size)
    clear hb2 b2' B1 CT
    cases b2 with
    | false =>
      have HNO : Hid (¬ FitsP (D : Int) (S : Int) R n f) := fun h => by have := HT.out.mpr h.2.1; cases this
      clear HT
      go_wp2
      go_ret
      exact boolNo rfl HNO.out B2
    | true =>
      have hth := HT.out.mp rfl
      have HTH : Hid (WholeP R n ((D : Int) + (S : Int))) := hth
      have hRD0 : R = D + S := by have := hth.2; omega
      have HRD : Hid (R = D + S) := hRD0
      have hR0 : 0 < R := by omega
      have hcnt : D ≤ cntN n R := by rw [cntN_all (fun i hi => by rw [hth.1 i hi]; omega)]; omega
      have CF := firstThere_any D (.slice ao R cap) R n f h1 w2 (HR.out.below B2 hh) (Nat.le_trans hh B2.size) (by omega)
      have CBf := fun (w3 : World) (B3 : Below w.heap.size w w3) (v3 : Value) (o3 : OwnI w3 w2.heap.size w3.heap.size v3 D (fun t => (nthN n R t : Int))) => bytesFrom_any D (.slice ao R cap) v3 R n f h1 w3.heap.size w3 (HR.out.below B3 hh) o3.rd (Nat.le_trans hh B3.size) (Nat.le_refl _) (by omega) (by omega) (by omega) hcnt (fun i hi => .inr (hth.1 i hi)) kf
      have HCB : Hid (∀ (w3 : World), Below w.heap.size w w3 → ∀ (v3 : Value), OwnI w3 w2.heap.size w3.heap.size v3 D (fun t => (nthN n R t : Int)) → Calls Try.prog 57 #[.int .i64 D, .slice ao R cap, v3] w3 fun e w' => ∃ v', e = .returned v' ∧ Own w' w3.heap.size w'.heap.size v' (4 * D) (decN D n R f) ∧ Below w3.heap.size w3 w') := CBf
      have HDA : Hid (∀ t, t < 4 * D → decN D n R f t = joinN f t) := fun t ht => decN_all (by omega) (by omega) (by omega) (by omega) hth.1 kf t ht
      rw [pickN_all hcnt] at CF
      clear HT hth hRD0 hcnt CBf
      go_wp2_with fail
      refine CF.mono ?_
      rintro e0 w3 ⟨v3, rfl, o3, b3⟩
      have B3 : Below w.heap.size w w3 := B2.trans (b3.mono B2.size)
      have CB := HCB.out w3 B3 v3 o3
      obtain ⟨ao3, cap3, rfl⟩ := o3.slice
      clear CF o3 b3 B2 HCB
      go_wp2_with fail
      refine CB.mono ?_
      rintro e0 w4 ⟨v4, rfl, o4, b4⟩
      have B4 : Below w.heap.size w w4 := B3.trans (b4.mono B3.size)
      have CE := blocksOf_any D S (by omega) (by omega) (by omega) v4 (joinN f) w4.heap.size w4 (o4.congr HDA.out).rd (Nat.le_refl _) (fun i => kf _ _)
      obtain ⟨ao4, cap4, rfl⟩ := o4.slice
      clear CB o4 b4 B3
      go_wp2_with fail
      refine CE.mono ?_
      rintro e0 w5 ⟨v5, rfl, ⟨g5, cap5, h5, C5, om⟩, b5⟩
      have hv5 := om.val
      subst hv5
      have HF : Hid (FlatE w5 w4.heap.size w5.heap.size (.slice (some ⟨g5, 0, none⟩) (D + S) cap5) (D + S) (encN D (joinN f)) g5 cap5 h5 C5) := om
      have s4 := B4.size
      have B5 : Below w.heap.size w w5 := B4.trans (b5.mono s4)
      have HB5 : Hid (Below w.heap.size w w5) := B5
      have hg5 : g5 < w5.heap.size := om.high
      have hh5 : h5 < w5.heap.size := om.hhigh
      clear om b5 CE B4 B5
      obtain ⟨b0, off, hao, hblt, hcell⟩ := HHC.out (by omega)
      subst hao
      have HC : Hid (∀ i, i < R → w.cell? ⟨b0, off + i, none⟩ = some (e i)) := hcell
      have hb0w : b0 < w.heap.size := by omega
      clear hcell HHC
      go_wp2
      go_loopw [32] (fun i wr => ∃ k : Nat, k ≤ R ∧ i = .int .i64 k ∧ (∀ i, i < k → ∀ j, j < 4 → f i j = encN D (joinN f) i j) ∧ ∃ m, wr = w5.drewN m) (fun i _ => R - (intOf i).toNat)
      case atStart => exact ⟨0, Nat.zero_le _, rfl, fun i hi => by omega, 0, rfl⟩
      case round =>
        obtain ⟨k, hk, rfl, hall, q, rfl⟩ := hrel
        have HALL : Hid (∀ i, i < k → ∀ j, j < 4 → f i j = encN D (joinN f) i j) := hall
        clear hall
        by_cases hlt : k < R
        · have hkR := HRD.out
          have c1 : w5.cell? ⟨b0, off + k, none⟩ = some (e k) := (HB5.out.cell (p := ⟨b0, off + k, none⟩) hb0w).trans (HC.out k hlt)
          have rk := (HHE.out k hlt).below HB5.out hh
          rw [HTH.out.1 k hlt] at rk
          obtain ⟨x, hx⟩ : ∃ x, x = e k := ⟨_, rfl⟩
          rw [← hx] at c1 rk
          obtain ⟨aox, capx, hxs, hmx, hcx⟩ := rk
          obtain ⟨bx, ox, hax, hbx, hcellx⟩ := hcx (by omega)
          subst hax
          subst hxs
          obtain ⟨A, hA⟩ : ∃ A, A = 4 * k := ⟨_, rfl⟩
          have c2 : w5.cell? ⟨g5, k, none⟩ = some (.slice (some ⟨h5, A, none⟩) 4 4) := by rw [hA]; exact HF.out.cell k (by omega)
          have d0 : w5.cell? ⟨bx, ox, none⟩ = some (.int .u8 (f k 0)) := hcellx 0 (by omega)
          have d1 : w5.cell? ⟨bx, ox + 1, none⟩ = some (.int .u8 (f k 1)) := hcellx 1 (by omega)
          have d2 : w5.cell? ⟨bx, ox + 2, none⟩ = some (.int .u8 (f k 2)) := hcellx 2 (by omega)
          have d3 : w5.cell? ⟨bx, ox + 3, none⟩ = some (.int .u8 (f k 3)) := hcellx 3 (by omega)
          have f0 : w5.cell? ⟨h5, A, none⟩ = some (.int .u8 (encN D (joinN f) k 0)) := by rw [hA]; exact HF.out.at k 0 (by omega) (by omega)
          have f1 : w5.cell? ⟨h5, A + 1, none⟩ = some (.int .u8 (encN D (joinN f) k 1)) := by rw [hA]; exact HF.out.at k 1 (by omega) (by omega)
          have f2 : w5.cell? ⟨h5, A + 2, none⟩ = some (.int .u8 (encN D (joinN f) k 2)) := by rw [hA]; exact HF.out.at k 2 (by omega) (by omega)
          have f3 : w5.cell? ⟨h5, A + 3, none⟩ = some (.int .u8 (encN D (joinN f) k 3)) := by rw [hA]; exact HF.out.at k 3 (by omega) (by omega)
          have hat1 : ∀ w, (Instr.arrayAt 86 (.slice (some ⟨bx, ox, none⟩) 4 capx)).run Try.prog w = .ok (.pointer (some ⟨bx, ox, none⟩)) w := fun w => run_arrayAt w 86 _ 4 _ 4 capx Try.underlying86 (Nat.le_refl _)
          have hat2 : ∀ w, (Instr.arrayAt 86 (.slice (some ⟨h5, A, none⟩) 4 4)).run Try.prog w = .ok (.pointer (some ⟨h5, A, none⟩)) w := fun w => run_arrayAt w 86 _ 4 _ 4 4 Try.underlying86 (Nat.le_refl _)
          obtain ⟨bb, hbb⟩ : ∃ bb : Bool, bb = true ↔ ∀ j, j < 4 → f k j = encN D (joinN f) k j := by
            by_cases c : ∀ j, j < 4 → f k j = encN D (joinN f) k j
            · exact ⟨true, ⟨fun _ => c, fun _ => rfl⟩⟩
            · exact ⟨false, ⟨fun h => (by cases h), fun h => absurd h c⟩⟩
          have heq := eq4_run (f k) (encN D (joinN f) k) (kf k) (encN_byt (fun i => kf _ _) k) bb hbb
          unfold arr4 at heq
          have HBB : Hid (bb = true ↔ ∀ j, j < 4 → f k j = encN D (joinN f) k j) := hbb
          obtain ⟨p0, hp0⟩ : ∃ p, p = f k 0 := ⟨_, rfl⟩
          obtain ⟨p1, hp1⟩ : ∃ p, p = f k 1 := ⟨_, rfl⟩
          obtain ⟨p2, hp2⟩ : ∃ p, p = f k 2 := ⟨_, rfl⟩
          obtain ⟨p3, hp3⟩ : ∃ p, p = f k 3 := ⟨_, rfl⟩
          obtain ⟨r0, hr0⟩ : ∃ p, p = encN D (joinN f) k 0 := ⟨_, rfl⟩
          obtain ⟨r1, hr1⟩ : ∃ p, p = encN D (joinN f) k 1 := ⟨_, rfl⟩
          obtain ⟨r2, hr2⟩ : ∃ p, p = encN D (joinN f) k 2 := ⟨_, rfl⟩
          obtain ⟨r3, hr3⟩ : ∃ p, p = encN D (joinN f) k 3 := ⟨_, rfl⟩
          rw [← hp0, ← hp1, ← hp2, ← hp3, ← hr0, ← hr1, ← hr2, ← hr3] at heq
          rw [← hp0] at d0
          rw [← hp1] at d1
          rw [← hp2] at d2
          rw [← hp3] at d3
          rw [← hr0] at f0
          rw [← hr1] at f1
          rw [← hr2] at f2
          rw [← hr3] at f3
          have hkDS : k < D + S := by omega
          have hkDSi : (k : Int) < (D : Int) + (S : Int) := by omega
          clear hx hA hcx hcellx hkR hbb hp0 hp1 hp2 hp3 hr0 hr1 hr2 hr3
          go_wp2
          go_quiet (fail)
          cases bb with
          | true =>
            go_wp2
            go_roundw
            case rel => exact ⟨k + 1, by omega, by go_num, fun i hi j hj => by
                          by_cases c : i = k
                          · rw [c]; exact HBB.out.mp rfl j hj
                          · exact HALL.out i (by omega) j hj, _, rfl⟩
            case measure => simp [intOf]; omega
          | false =>
            have HNO : Hid (¬ FitsP (D : Int) (S : Int) R n f) := fun h => by
              have h2 := h.2.2 k hlt
              rw [Int.toNat_natCast] at h2
              have := HBB.out.mpr h2
              cases this
            go_wp2
            go_ret
            exact boolNo rfl HNO.out (below_drewN (below_drewN HB5.out _) _)
        · obtain rfl : k = R := by omega
          go_wp2
          go_ret
          exact boolYes rfl ⟨HSH.out, HTH.out, fun i hi j hj => by rw [Int.toNat_natCast]; exact HALL.out i hi j hj⟩ (below_drewN HB5.out _)
theorem implFits_any (d s : Int) (v : Value) (R : Nat) (n : Nat → Nat) (f : Mat) (l1 h1 : Nat) (w : World) (o1 : OwnM w l1 h1 v R n f) (hh : h1 ≤ w.heap.size) (kf : Byt f) :
    Calls Try.prog 22 #[.int .i64 d, .int .i64 s, v] w (BoolP (FitsP d s R n f) w) := implFits_rd d s v R n f h1 w o1.rd hh kf
end Go.Proofs.Ytoadjpacchhleaa

namespace Go.Proofs.Ytoadjpacchhleaa
open F256

theorem mixN_dot (f : Mat) (c : Nat → Nat) (j : Nat) : ∀ k, mixN f c k j = dotN c (fun t => f t j) k
  | 0 => rfl
  | k + 1 => by rw [mixN, dotN, mixN_dot f c j k]
theorem encN_dot {D : Nat} {b : Nat → Nat} (kb : ∀ i, b i < 256) (p j : Nat) : encN D b p j = dotN (genN D p 0) (fun i => cutN b i j) D := by
  unfold encN
  by_cases c : p < D
  · rw [if_pos c, dotN_gen (x := fun i => cutN b i j) (fun i => kb _) c]
  · rw [if_neg c, mixN_dot]
theorem block_back {D R : Nat} {n : Nat → Nat} {b : Nat → Nat} (hD1 : 1 ≤ D) (hD : D ≤ 3) (hR : R ≤ D + 2) (hc : D ≤ cntN n R) (h4 : ∀ i, i < R → n i = 0 ∨ n i = 4) (kb : ∀ i, b i < 256) (want j : Nat) : blockN D n R (encN D b) want j = encN D b want j := by
  obtain ⟨p1, p2⟩ := picked hc h4
  have hfull := row_full D hD1 hD (nthN n R) (genN D want 0) (fun t ht => by have := (p1 t ht).1; omega) p2
  have hs := weights_sum (x := fun i => cutN b i j) (fun i => kb _) hfull
  unfold blockN
  rw [mixN_dot, encN_dot kb, ← hs]
  exact dotN_congr2 fun k _ => encN_dot kb _ _
theorem dec_back {D R : Nat} {n : Nat → Nat} {b : Nat → Nat} (hD1 : 1 ≤ D) (hD : D ≤ 3) (hR : R ≤ D + 2) (hc : D ≤ cntN n R) (h4 : ∀ i, i < R → n i = 0 ∨ n i = 4) (kb : ∀ i, b i < 256) (t : Nat) (ht : t < 4 * D) : decN D n R (encN D b) t = b t := by
  unfold decN
  rw [block_back hD1 hD hR hc h4 kb]
  have h1 : t / 4 < D := by omega
  simp only [encN, if_pos h1, cutN]
  rw [show 4 * (t / 4) + t % 4 = t by omega]
theorem encN_same {D : Nat} {b b' : Nat → Nat} (h : ∀ t, t < 4 * D → b t = b' t) (i j : Nat) (hj : j < 4) : encN D b i j = encN D b' i j := by
  have hcut : ∀ k, k < D → cutN b k j = cutN b' k j := fun k hk => h _ (by omega)
  unfold encN
  by_cases c : i < D
  · rw [if_pos c, if_pos c]; exact hcut i c
  · rw [if_neg c, if_neg c]; exact mixN_congr hcut
theorem join_enc {D : Nat} {b : Nat → Nat} (t : Nat) (ht : t < 4 * D) : joinN (encN D b) t = b t := by
  unfold joinN encN
  rw [if_pos (by omega)]
  unfold cutN
  rw [show 4 * (t / 4) + t % 4 = t by omega]
theorem fits_enc {D S : Nat} {b : Nat → Nat} (hs : Shp (D : Int) (S : Int)) : FitsP (D : Int) (S : Int) (D + S) (fun _ => 4) (encN D b) :=
  ⟨hs, ⟨fun _ _ => rfl, by omega⟩, fun i hi j hj => by
    rw [Int.toNat_natCast]
    exact encN_same (fun t ht => (join_enc t ht).symm) i j hj⟩
/-- one block less -/
def lessN (n : Nat → Nat) (r : Nat) : Nat → Nat := fun i => if i = r then 0 else n i
theorem cnt_less (n : Nat → Nat) (r : Nat) : ∀ R, cntN n R ≤ cntN (lessN n r) R + (if r < R then 1 else 0)
  | 0 => Nat.zero_le _
  | R + 1 => by
    have ih := cnt_less n r R
    by_cases e : R = r
    · subst e
      rw [if_neg (Nat.lt_irrefl R)] at ih
      rw [if_pos (Nat.lt_succ_self R)]
      have h1 : cntN n (R + 1) ≤ cntN n R + 1 := by rw [cntN]; split <;> omega
      have h2 := cntN_mono (lessN n R) (show R ≤ R + 1 by omega)
      omega
    · have h1 : lessN n r R = n R := by unfold lessN; rw [if_neg e]
      have h3 : (if r < R + 1 then 1 else 0) = (if r < R then 1 else 0 : Nat) := by
        by_cases c : r < R
        · rw [if_pos c, if_pos (by omega)]
        · rw [if_neg c, if_neg (by omega)]
      rw [h3]
      by_cases c0 : n R = 0
      · have e1 : cntN n (R + 1) = cntN n R := by rw [cntN, if_pos c0]
        have e2 : cntN (lessN n r) (R + 1) = cntN (lessN n r) R := by rw [cntN, if_pos (by rw [h1]; exact c0)]
        omega
      · have e1 : cntN n (R + 1) = cntN n R + 1 := by rw [cntN, if_neg c0]
        have e2 : cntN (lessN n r) (R + 1) = cntN (lessN n r) R + 1 := by rw [cntN, if_neg (by rw [h1]; exact c0)]
        omega
/-- sums of rows -/
theorem encN_sum {D : Nat} {a b : Nat → Nat} (ka : ∀ i, a i < 256) (kb : ∀ i, b i < 256) (i j : Nat) : encN D (fun t => a t ^^^ b t) i j = encN D a i j ^^^ encN D b i j := by
  have kab : ∀ t, (fun t => a t ^^^ b t) t < 256 := fun t => xor_lt (ka t) (kb t)
  rw [encN_dot kab, encN_dot ka, encN_dot kb]
  have e : (fun i => cutN (fun t => a t ^^^ b t) i j) = fun i => (fun i => cutN a i j) i ^^^ (fun i => cutN b i j) i := rfl
  rw [e]
  have hx := fun x (hx : ∀ i, x i < 256) => dotN_swap (r := genN D i 0) (x := x) (genN_lt D i 0) hx D
  rw [hx (fun i => (fun i => cutN a i j) i ^^^ (fun i => cutN b i j) i) (fun i => xor_lt (ka _) (kb _)), hx (fun i => cutN a i j) (fun i => ka _), hx (fun i => cutN b i j) (fun i => kb _)]
  exact dotN_add (fun i => ka _) (fun i => kb _) D
end Go.Proofs.Ytoadjpacchhleaa

namespace Go.Proofs.Ytoadjpacchhleaa
open Go.RowKit F256
set_option linter.unusedVariables false
set_option linter.unusedSimpArgs false

/-- slices of the call's own, or nil: each in its own block, or rows of four behind one another -/
def OwnG (w : World) (lo hi : Nat) (v : Value) (R : Nat) (n : Nat → Nat) (f : Mat) : Prop := OwnB w lo hi v R n f ∨ (n = fun _ => 4) ∧ ∃ g cap h C, FlatE w lo hi v R f g cap h C
theorem OwnG.none (w : World) (lo hi : Nat) (n : Nat → Nat) (f : Mat) : OwnG w lo hi nilS 0 n f := .inl (OwnB.none _ _ _ _ _)
theorem OwnG.rd {w : World} {lo hi : Nat} {v : Value} {R : Nat} {n : Nat → Nat} {f : Mat} (h : OwnG w lo hi v R n f) : RdM w hi v R n f := by
  rcases h with h | ⟨rfl, g, cap, h, C, H⟩
  · exact h.rd
  · exact H.rd
theorem OwnG.below {w w' : World} {lo hi B : Nat} {v : Value} {R : Nat} {n : Nat → Nat} {f : Mat} (h : OwnG w lo hi v R n f) (hb : Below B w w') (hB : hi ≤ B) : OwnG w' lo hi v R n f := by
  rcases h with h | ⟨hn, g, cap, h, C, H⟩
  · exact .inl (h.below hb hB)
  · exact .inr ⟨hn, g, cap, h, C, H.below hb hB⟩
theorem OwnG.chg {w w' : World} {lo hi lo' hi' : Nat} {v : Value} {R : Nat} {n : Nat → Nat} {f : Mat} (h : OwnG w lo hi v R n f) (hb : Chg lo' hi' w w') (hB : hi ≤ lo' ∨ hi' ≤ lo) : OwnG w' lo hi v R n f := by
  rcases h with h | ⟨hn, g, cap, h, C, H⟩
  · exact .inl (h.chg hb hB)
  · exact .inr ⟨hn, g, cap, h, C, H.chg hb hB⟩
theorem OwnG.weaken {w : World} {lo hi lo' hi' : Nat} {v : Value} {R : Nat} {n : Nat → Nat} {f : Mat} (h : OwnG w lo hi v R n f) (h1 : lo' ≤ lo) (h2 : hi ≤ hi') : OwnG w lo' hi' v R n f := by
  rcases h with h | ⟨hn, g, cap, h, C, H⟩
  · exact .inl (h.weaken h1 h2)
  · exact .inr ⟨hn, g, cap, h, C, H.weaken h1 h2⟩
theorem OwnG.alloc {w : World} {lo hi : Nat} {v : Value} {R : Nat} {n : Nat → Nat} {f : Mat} (h : OwnG w lo hi v R n f) (o : Obj) : OwnG (w.alloc o) lo hi v R n f := by
  rcases h with h | ⟨hn, g, cap, h, C, H⟩
  · exact .inl (h.alloc o)
  · exact .inr ⟨hn, g, cap, h, C, H.alloc o⟩
theorem OwnG.slice {w : World} {lo hi : Nat} {v : Value} {R : Nat} {n : Nat → Nat} {f : Mat} (h : OwnG w lo hi v R n f) : ∃ ao cap, v = .slice ao R cap := by
  rcases h with h | ⟨hn, g, cap, h, C, H⟩
  · exact h.slice
  · exact ⟨_, _, H.val⟩

/-- rows on the way to their marks: the first k have them -/
def mkN (j k : Nat) (f : Mat) : Mat := fun i c => if i < k then marksM j (fun _ => 4) i c else f i c
theorem sum4 (k : Nat) : sumN (fun _ => 4) k = 4 * k := by
  induction k with
  | zero => rfl
  | succ k ih => rw [sumN, ih]; omega
theorem mkN_step {j k : Nat} {f : Mat} (t : Nat) : joinN (mkN j (k + 1) f) t = if 4 * k ≤ t ∧ t < 4 * k + 4 then marks (j + 4 * k) (t - 4 * k) else joinN (mkN j k f) t := by
  unfold joinN mkN
  by_cases c : 4 * k ≤ t ∧ t < 4 * k + 4
  · rw [if_pos c, if_pos (by omega)]
    unfold marksM
    rw [sum4, show t / 4 = k by omega, show t % 4 = t - 4 * k by omega]
  · rw [if_neg c]
    by_cases c2 : t / 4 < k
    · rw [if_pos (by omega), if_pos c2]
    · rw [if_neg (by omega), if_neg c2]

end Go.Proofs.Ytoadjpacchhleaa

namespace Go.Proofs.Ytoadjpacchhleaa
open Go.RowKit F256
set_option linter.unusedVariables false
set_option linter.unusedSimpArgs false

set_option maxHeartbeats 4000000 in
theorem implEncode_any (d s : Int) (vb : Value) (n : Nat) (b : Nat → Nat) (l1 h1 : Nat) (w : World) (rb : Own w l1 h1 vb n b) (hh : h1 ≤ w.heap.size) (kb : ∀ i, b i < 256) :
    Calls Try.prog 20 #[.int .i64 d, .int .i64 s, vb] w fun ee w' => ∃ x v', ee = .returned (bytesR x v') ∧ EncAns d s n x ∧ OwnG w' w.heap.size w'.heap.size v' (if x = 0 then (d + s).toNat else 0) (fun _ => 4) (encN d.toNat b) ∧ Below w.heap.size w w' := by
  have hn := rb.le
  unfold maxLen at hn
  obtain ⟨aob, capb, rfl⟩ := rb.slice
  have HB : Hid (Own w l1 h1 (.slice aob n capb) n b) := rb
  clear rb
  go_enter Try.func20, Try.ntmps20
  go_wp2_with fail
  refine (rowInBounds_any d s _).mono ?_
  rintro e w1 ⟨b1, rfl, hb1, b1'⟩
  have HS : Hid (b1 = true ↔ Shp d s) := hb1
  have B1 : Below w.heap.size w w1 := bnew b1'
  have X1 : Box w1 w.heap.size #[.int .i64 0, .slice none 0 0] 42 := (box_new w _ _).below b1' (by simp)
  have z1 : w.heap.size < w1.heap.size := X1.lt
  obtain ⟨x0, x1, y0, y1⟩ := res_cells X1
  clear hb1 b1'
  cases b1 with
  | false =>
    have hno : ¬ Shp d s := fun h => by have := HS.out.mpr h; cases this
    have HNO : Hid (¬ Shp d s) := hno
    clear hno HS
    go_wp2
    exact bodyPost_ret (v := bytesR 3 (.slice none 0 0)) (by simp [results, Try.results20, go_sem, bytesR, x0, x1]) rfl ⟨3, _, rfl, .inl ⟨rfl, HNO.out⟩, OwnG.none _ _ _ _ _, (B1.setCell (Nat.le_refl _) _).setCell (Nat.le_refl _) _⟩
  | true =>
    have hsh := HS.out.mp rfl
    have HSH : Hid (Shp d s) := hsh
    obtain ⟨q1, q2, q3, q4⟩ := hsh
    obtain ⟨D, rfl⟩ : ∃ D : Nat, d = D := ⟨d.toNat, by omega⟩
    obtain ⟨S, rfl⟩ : ∃ S : Nat, s = S := ⟨s.toNat, by omega⟩
    clear HS
    by_cases hlen : n = 4 * D
    · have hlen2 : (n : Int) = (D : Int) * 4 := by omega
      have tl : ((n : Int) != (D : Int) * 4) = false := by simp; omega
      have rb1 := (HB.out.below B1 hh).rd
      rw [hlen] at rb1
      have C := blocksOf_any D S (by omega) (by omega) (by omega) (.slice aob (4 * D) capb) b h1 w1 rb1 (Nat.le_trans hh B1.size) kb
      rw [← hlen] at C
      have HL : Hid (n = 4 * D) := hlen
      clear rb1 hlen hlen2
      go_wp2_with fail
      refine C.mono ?_
      rintro e w4 ⟨v4, rfl, ⟨g4, cap4, h4, C4, om⟩, b4⟩
      have hv4 := om.val
      subst hv4
      have HOM : Hid (FlatE w4 w1.heap.size w4.heap.size (.slice (some ⟨g4, 0, none⟩) (D + S) cap4) (D + S) (encN D b) g4 cap4 h4 C4) := om
      have B4 : Below w.heap.size w w4 := B1.trans (b4.mono (by omega))
      have X4 : Box w4 w.heap.size #[.int .i64 0, .slice none 0 0] 42 := X1.below b4 z1
      have z4 := X4.lt
      clear x0 x1 y0 y1
      obtain ⟨x0, x1, y0, y1⟩ := res_cells X4
      clear om b4 C X4 X1
      go_wp2
      refine bodyPost_ret (v := bytesR 0 (.slice (some ⟨g4, 0, none⟩) (D + S) cap4)) (by simp [results, Try.results20, go_sem, bytesR, x0, x1]) rfl ⟨0, _, rfl, .inr (.inr ⟨rfl, HSH.out, by have := HL.out; omega⟩), ?_, (B4.setCell (Nat.le_refl _) _).setCell (Nat.le_refl _) _⟩
      have o1 := out_store w4 w.heap.size (w.heap.size + 1) w.heap.size 0 (.int .i64 0) (Nat.le_refl _) (by omega)
      have o2 := out_store (w4.setCell ⟨w.heap.size, 0, none⟩ (.int .i64 0)) w.heap.size (w.heap.size + 1) w.heap.size 1 (.slice (some ⟨g4, 0, none⟩) (D + S) cap4) (Nat.le_refl _) (by omega)
      simp only [if_pos]
      have e1 : ((D : Int) + (S : Int)).toNat = D + S := by omega
      rw [e1, Int.toNat_natCast]
      exact .inr ⟨rfl, _, _, _, _, (HOM.out.chg (o1.trans o2).chg (.inr (by omega))).weaken (by omega) (by rw [(o1.trans o2).size]; exact Nat.le_refl _)⟩
    · have tl : ((n : Int) != (D : Int) * 4) = true := by simp; omega
      have hne : (n : Int) ≠ (D : Int) * 4 := by omega
      have HNE : Hid ((n : Int) ≠ (D : Int) * 4) := hne
      clear hne hlen
      go_wp2
      exact bodyPost_ret (v := bytesR 1 (.slice none 0 0)) (by simp [results, Try.results20, go_sem, bytesR, x0, x1]) rfl ⟨1, _, rfl, .inr (.inl ⟨rfl, HSH.out, HNE.out⟩), OwnG.none _ _ _ _ _, (B1.setCell (Nat.le_refl _) _).setCell (Nat.le_refl _) _⟩
end Go.Proofs.Ytoadjpacchhleaa

namespace Go.Proofs.Ytoadjpacchhleaa
set_option linter.unusedVariables false

/-- the code of blocks, some of which are there -/
def AskP (d s : Int) (R : Nat) (n : Nat → Nat) (x : Int) : Prop := (x = 3 ∧ ¬ Shp d s) ∨ (x = 1 ∧ Shp d s ∧ ((R : Int) ≠ d + s ∨ ∃ i, i < R ∧ n i ≠ 0 ∧ n i ≠ 4)) ∨ (x = 0 ∧ Shp d s ∧ (R : Int) = d + s ∧ ∀ i, i < R → n i = 0 ∨ n i = 4)
theorem AskP.one {d s : Int} {R : Nat} {n : Nat → Nat} {x y : Int} (h : AskP d s R n x) (k : AskP d s R n y) : x = y := by
  rcases h with ⟨rfl, h⟩ | ⟨rfl, h, h2⟩ | ⟨rfl, h, h2, h3⟩ <;> rcases k with ⟨rfl, k⟩ | ⟨rfl, k, k2⟩ | ⟨rfl, k, k2, k3⟩
  · rfl
  · exact absurd k h
  · exact absurd k h
  · exact absurd h k
  · rfl
  · rcases h2 with h2 | ⟨i, hi, h4, h5⟩
    · exact absurd k2 h2
    · rcases k3 i hi with e | e
      · exact absurd e h4
      · exact absurd e h5
  · exact absurd h k
  · rcases k2 with k2 | ⟨i, hi, h4, h5⟩
    · exact absurd h2 k2
    · rcases h3 i hi with e | e
      · exact absurd e h4
      · exact absurd e h5
  · rfl
theorem ask_ans (d s : Int) (R : Nat) (n : Nat → Nat) : ∃ x, AskP d s R n x := by
  by_cases h : Shp d s
  · by_cases h2 : (R : Int) = d + s
    · by_cases h3 : ∃ i, i < R ∧ n i ≠ 0 ∧ n i ≠ 4
      · exact ⟨1, .inr (.inl ⟨rfl, h, .inr h3⟩)⟩
      · refine ⟨0, .inr (.inr ⟨rfl, h, h2, fun i hi => ?_⟩)⟩
        exact Classical.byContradiction fun hn => h3 ⟨i, hi, fun e => hn (.inl e), fun e => hn (.inr e)⟩
    · exact ⟨1, .inr (.inl ⟨rfl, h, .inl h2⟩)⟩
  · exact ⟨3, .inl ⟨rfl, h⟩⟩

/-- the answers of DecodeRow -/
def DecAns (d s : Int) (R : Nat) (n : Nat → Nat) (x : Int) : Prop := (AskP d s R n x ∧ x ≠ 0) ∨ (AskP d s R n 0 ∧ ¬ d.toNat ≤ cntN n R ∧ x = 10) ∨ (AskP d s R n 0 ∧ d.toNat ≤ cntN n R ∧ x = 0)
theorem DecAns.one {d s : Int} {R : Nat} {n : Nat → Nat} {x y : Int} (h : DecAns d s R n x) (k : DecAns d s R n y) : x = y := by
  rcases h with ⟨h, h2⟩ | ⟨h, h2, rfl⟩ | ⟨h, h2, rfl⟩ <;> rcases k with ⟨k, k2⟩ | ⟨k, k2, rfl⟩ | ⟨k, k2, rfl⟩
  · exact h.one k
  · exact absurd (h.one k) h2
  · exact absurd (h.one k) h2
  · exact absurd (k.one h) k2
  · rfl
  · exact absurd k2 h2
  · exact absurd (k.one h) k2
  · exact absurd h2 k2
  · rfl
theorem dec_ans (d s : Int) (R : Nat) (n : Nat → Nat) : ∃ x, DecAns d s R n x := by
  obtain ⟨x, hx⟩ := ask_ans d s R n
  by_cases h : x = 0
  · subst h
    by_cases h2 : d.toNat ≤ cntN n R
    · exact ⟨0, .inr (.inr ⟨hx, h2, rfl⟩)⟩
    · exact ⟨10, .inr (.inl ⟨hx, h2, rfl⟩)⟩
  · exact ⟨x, .inl ⟨hx, h⟩⟩
theorem AskP.ok {d s : Int} {R : Nat} {n : Nat → Nat} (h : AskP d s R n 0) : Shp d s ∧ (R : Int) = d + s ∧ ∀ i, i < R → n i = 0 ∨ n i = 4 := by
  rcases h with ⟨h, _⟩ | ⟨h, _⟩ | ⟨_, h⟩
  · omega
  · omega
  · exact h

/-- the answers of BlockOf -/
def BofAns (d s : Int) (R : Nat) (n : Nat → Nat) (want : Int) (x : Int) : Prop := (AskP d s R n x ∧ x ≠ 0) ∨ (AskP d s R n 0 ∧ ¬ (0 ≤ want ∧ want ≤ d + s - 1) ∧ x = 3) ∨ (AskP d s R n 0 ∧ (0 ≤ want ∧ want ≤ d + s - 1) ∧ ¬ d.toNat ≤ cntN n R ∧ x = 10) ∨ (AskP d s R n 0 ∧ (0 ≤ want ∧ want ≤ d + s - 1) ∧ d.toNat ≤ cntN n R ∧ x = 0)
theorem BofAns.one {d s : Int} {R : Nat} {n : Nat → Nat} {want : Int} {x y : Int} (h : BofAns d s R n want x) (k : BofAns d s R n want y) : x = y := by
  rcases h with ⟨h, h2⟩ | ⟨h, h2, rfl⟩ | ⟨h, h2, h3, rfl⟩ | ⟨h, h2, h3, rfl⟩ <;> rcases k with ⟨k, k2⟩ | ⟨k, k2, rfl⟩ | ⟨k, k2, k3, rfl⟩ | ⟨k, k2, k3, rfl⟩ <;> first | rfl | exact h.one k | exact absurd (h.one k) h2 | exact absurd (k.one h) k2 | exact absurd k2 h2 | exact absurd h2 k2 | exact absurd k3 h3 | exact absurd h3 k3
theorem bof_ans (d s : Int) (R : Nat) (n : Nat → Nat) (want : Int) : ∃ x, BofAns d s R n want x := by
  obtain ⟨x, hx⟩ := ask_ans d s R n
  by_cases h : x = 0
  · subst h
    by_cases h1 : 0 ≤ want ∧ want ≤ d + s - 1
    · by_cases h2 : d.toNat ≤ cntN n R
      · exact ⟨0, .inr (.inr (.inr ⟨hx, h1, h2, rfl⟩))⟩
      · exact ⟨10, .inr (.inr (.inl ⟨hx, h1, h2, rfl⟩))⟩
    · exact ⟨3, .inr (.inl ⟨hx, h1, rfl⟩)⟩
  · exact ⟨x, .inl ⟨hx, h⟩⟩

end Go.Proofs.Ytoadjpacchhleaa

namespace Go.Proofs.Ytoadjpacchhleaa
open Go.RowKit F256
set_option linter.unusedVariables false
set_option linter.unusedSimpArgs false

theorem not_there {R : Nat} {n : Nat → Nat} {N : Int} (h : ¬ ThereP R n N) : (R : Int) ≠ N ∨ ∃ i, i < R ∧ n i ≠ 0 ∧ n i ≠ 4 := by
  by_cases c : (R : Int) = N
  · right
    refine Classical.byContradiction fun hh => h ⟨c, fun i hi => ?_⟩
    by_cases c0 : n i = 0
    · exact .inl c0
    · by_cases c4 : n i = 4
      · exact .inr c4
      · exact absurd ⟨i, hi, c0, c4⟩ hh
  · exact .inl c

set_option maxHeartbeats 4000000 in
theorem implDecode_rd (d s : Int) (v : Value) (R : Nat) (n : Nat → Nat) (f : Mat) (h1 : Nat) (w : World) (r : RdM w h1 v R n f) (hh : h1 ≤ w.heap.size) (kf : Byt f) :
    Calls Try.prog 23 #[.int .i64 d, .int .i64 s, v] w fun ee w' => ∃ x v', ee = .returned (bytesR x v') ∧ DecAns d s R n x ∧ Own w' w.heap.size w'.heap.size v' (if x = 0 then 4 * d.toNat else 0) (decN d.toNat n R f) ∧ Below w.heap.size w w' := by
  have HR : Hid (RdM w h1 v R n f) := r
  obtain ⟨ao, cap, e, rfl, hm, hc, he⟩ := r
  clear hm hc he
  go_enter Try.func23, Try.ntmps23
  go_wp2_with fail
  refine (rowInBounds_any d s _).mono ?_
  rintro e0 w1 ⟨b1, rfl, hb1, b1'⟩
  have HS : Hid (b1 = true ↔ Shp d s) := hb1
  have B1 : Below w.heap.size w w1 := bnew b1'
  have X1 : Box w1 w.heap.size #[.int .i64 0, .slice none 0 0] 36 := (box_new w _ _).below b1' (by simp)
  have z1 : w.heap.size < w1.heap.size := X1.lt
  obtain ⟨x0, x1, y0, y1⟩ := res_cells X1
  clear hb1 b1'
  cases b1 with
  | false =>
    have HNO : Hid (¬ Shp d s) := fun h => by have := HS.out.mpr h; cases this
    clear HS
    go_wp2
    exact bodyPost_ret (v := bytesR 3 (.slice none 0 0)) (by simp [results, Try.results23, go_sem, bytesR, x0, x1]) rfl ⟨3, _, rfl, .inl ⟨.inl ⟨rfl, HNO.out⟩, by omega⟩, own_nil _ _ _ _, (B1.setCell (Nat.le_refl _) _).setCell (Nat.le_refl _) _⟩
  | true =>
    have hsh := HS.out.mp rfl
    have HSH : Hid (Shp d s) := hsh
    obtain ⟨q1, q2, q3, q4⟩ := hsh
    obtain ⟨D, rfl⟩ : ∃ D : Nat, d = D := ⟨d.toNat, by omega⟩
    obtain ⟨S, rfl⟩ : ∃ S : Nat, s = S := ⟨s.toNat, by omega⟩
    have CT := thereOrNot_any (.slice ao R cap) R n f h1 ((D : Int) + (S : Int)) w1 (HR.out.below B1 hh)
    clear HS
    go_wp2_with fail
    refine CT.mono ?_
    rintro e0 w2 ⟨b2, rfl, hb2, b2'⟩
    have HT : Hid (b2 = true ↔ ThereP R n ((D : Int) + (S : Int))) := hb2
    have B2 : Below w.heap.size w w2 := B1.trans (b2'.mono B1.size)
    have X2 : Box w2 w.heap.size #[.int .i64 0, .slice none 0 0] 36 := X1.below b2' z1
    have z2 : w.heap.size < w2.heap.size := X2.lt
    clear x0 x1 y0 y1
    obtain ⟨x0, x1, y0, y1⟩ := res_cells X2
    clear hb2 b2' X1 B1 z1 CT
    cases b2 with
    | false =>
      have HNO : Hid ((R : Int) ≠ (D : Int) + (S : Int) ∨ ∃ i, i < R ∧ n i ≠ 0 ∧ n i ≠ 4) := not_there fun h => by have := HT.out.mpr h; cases this
      clear HT
      go_wp2
      exact bodyPost_ret (v := bytesR 1 (.slice none 0 0)) (by simp [results, Try.results23, go_sem, bytesR, x0, x1]) rfl ⟨1, _, rfl, .inl ⟨.inr (.inl ⟨rfl, HSH.out, HNO.out⟩), by omega⟩, own_nil _ _ _ _, (B2.setCell (Nat.le_refl _) _).setCell (Nat.le_refl _) _⟩
    | true =>
      have HTH : Hid (ThereP R n ((D : Int) + (S : Int))) := HT.out.mp rfl
      have HASK : Hid (AskP (D : Int) (S : Int) R n 0) := .inr (.inr ⟨rfl, HSH.out, HTH.out.1, HTH.out.2⟩)
      have CF := firstThere_any D (.slice ao R cap) R n f h1 w2 (HR.out.below B2 hh) (Nat.le_trans hh B2.size) (by omega)
      clear HT x0 x1 y0 y1
      go_wp2_with fail
      refine CF.mono ?_
      rintro e0 w3 ⟨v3, rfl, o3, b3'⟩
      have B3 : Below w.heap.size w w3 := B2.trans (b3'.mono B2.size)
      have X3 : Box w3 w.heap.size #[.int .i64 0, .slice none 0 0] 36 := X2.below b3' z2
      have z3 : w.heap.size < w3.heap.size := X3.lt
      obtain ⟨x0, x1, y0, y1⟩ := res_cells X3
      clear b3' X2 B2 z2 CF
      by_cases hcnt : D ≤ cntN n R
      · have HCN : Hid (D ≤ cntN n R) := hcnt
        rw [pickN_all hcnt] at o3
        obtain ⟨ao3, cap3, rfl⟩ := o3.slice
        have CB := bytesFrom_any D (.slice ao R cap) (.slice ao3 D cap3) R n f h1 w3.heap.size w3 (HR.out.below B3 hh) o3.rd (Nat.le_trans hh B3.size) (Nat.le_refl _) (by omega) (by omega) (by have := HTH.out.1; omega) hcnt HTH.out.2 kf
        clear o3 hcnt x0 x1 y0 y1
        go_wp2_with fail
        refine CB.mono ?_
        rintro e0 w4 ⟨v4, rfl, o4, b4⟩
        obtain ⟨ao4, cap4, rfl⟩ := o4.slice
        have HO : Hid (Own w4 w3.heap.size w4.heap.size (.slice ao4 (4 * D) cap4) (4 * D) (decN D n R f)) := o4
        have B4 : Below w.heap.size w w4 := B3.trans (b4.mono (by omega))
        have X4 : Box w4 w.heap.size #[.int .i64 0, .slice none 0 0] 36 := X3.below b4 z3
        have z4 := X4.lt
        obtain ⟨x0, x1, y0, y1⟩ := res_cells X4
        clear o4 b4 CB X4 X3
        go_wp2
        refine bodyPost_ret (v := bytesR 0 (.slice ao4 (4 * D) cap4)) (by simp [results, Try.results23, go_sem, bytesR, x0, x1]) rfl ⟨0, _, rfl, .inr (.inr ⟨HASK.out, by rw [Int.toNat_natCast]; exact HCN.out, rfl⟩), ?_, (B4.setCell (Nat.le_refl _) _).setCell (Nat.le_refl _) _⟩
        have o1 := out_store w4 w.heap.size (w.heap.size + 1) w.heap.size 0 (.int .i64 0) (Nat.le_refl _) (by omega)
        have o2 := out_store (w4.setCell ⟨w.heap.size, 0, none⟩ (.int .i64 0)) w.heap.size (w.heap.size + 1) w.heap.size 1 (.slice ao4 (4 * D) cap4) (Nat.le_refl _) (by omega)
        simp only [if_pos]
        rw [Int.toNat_natCast]
        exact (HO.out.out (o1.trans o2) (.inr (by omega))).weaken (by omega) (by rw [(o1.trans o2).size]; exact Nat.le_refl _)
      · have HNC : Hid (¬ D ≤ cntN n R) := hcnt
        have hpf := pickN_few hcnt
        obtain ⟨c, hc⟩ : ∃ c, c = pickN D n R := ⟨_, rfl⟩
        rw [← hc] at o3 hpf
        obtain ⟨ao3, cap3, rfl⟩ := o3.slice
        have hci : (c : Int) < (D : Int) := by omega
        clear o3 hcnt hc
        go_wp2
        exact bodyPost_ret (v := bytesR 10 (.slice none 0 0)) (by simp [results, Try.results23, go_sem, bytesR, x0, x1]) rfl ⟨10, _, rfl, .inr (.inl ⟨HASK.out, by rw [Int.toNat_natCast]; exact HNC.out, rfl⟩), own_nil _ _ _ _, (B3.setCell (Nat.le_refl _) _).setCell (Nat.le_refl _) _⟩

set_option maxHeartbeats 4000000 in
theorem implBlockOf_rd (d s want : Int) (v : Value) (R : Nat) (n : Nat → Nat) (f : Mat) (h1 : Nat) (w : World) (r : RdM w h1 v R n f) (hh : h1 ≤ w.heap.size) (kf : Byt f) :
    Calls Try.prog 25 #[.int .i64 d, .int .i64 s, v, .int .i64 want] w fun ee w' => ∃ x v', ee = .returned (bytesR x v') ∧ BofAns d s R n want x ∧ Own w' w.heap.size w'.heap.size v' (if x = 0 then 4 else 0) (blockN d.toNat n R f want.toNat) ∧ Below w.heap.size w w' := by
  have HR : Hid (RdM w h1 v R n f) := r
  obtain ⟨ao, cap, e, rfl, hm, hc, he⟩ := r
  clear hm hc he
  go_enter Try.func25, Try.ntmps25
  go_wp2_with fail
  refine (rowInBounds_any d s _).mono ?_
  rintro e0 w1 ⟨b1, rfl, hb1, b1'⟩
  have HS : Hid (b1 = true ↔ Shp d s) := hb1
  have B1 : Below w.heap.size w w1 := bnew b1'
  have X1 : Box w1 w.heap.size #[.int .i64 0, .slice none 0 0] 36 := (box_new w _ _).below b1' (by simp)
  have z1 : w.heap.size < w1.heap.size := X1.lt
  obtain ⟨x0, x1, y0, y1⟩ := res_cells X1
  clear hb1 b1'
  cases b1 with
  | false =>
    have HNO : Hid (¬ Shp d s) := fun h => by have := HS.out.mpr h; cases this
    clear HS
    go_wp2
    exact bodyPost_ret (v := bytesR 3 (.slice none 0 0)) (by simp [results, Try.results25, go_sem, bytesR, x0, x1]) rfl ⟨3, _, rfl, .inl ⟨.inl ⟨rfl, HNO.out⟩, by omega⟩, own_nil _ _ _ _, (B1.setCell (Nat.le_refl _) _).setCell (Nat.le_refl _) _⟩
  | true =>
    have hsh := HS.out.mp rfl
    have HSH : Hid (Shp d s) := hsh
    obtain ⟨q1, q2, q3, q4⟩ := hsh
    obtain ⟨D, rfl⟩ : ∃ D : Nat, d = D := ⟨d.toNat, by omega⟩
    obtain ⟨S, rfl⟩ : ∃ S : Nat, s = S := ⟨s.toNat, by omega⟩
    have CT := thereOrNot_any (.slice ao R cap) R n f h1 ((D : Int) + (S : Int)) w1 (HR.out.below B1 hh)
    clear HS
    go_wp2_with fail
    refine CT.mono ?_
    rintro e0 w2 ⟨b2, rfl, hb2, b2'⟩
    have HT : Hid (b2 = true ↔ ThereP R n ((D : Int) + (S : Int))) := hb2
    have B2 : Below w.heap.size w w2 := B1.trans (b2'.mono B1.size)
    have X2 : Box w2 w.heap.size #[.int .i64 0, .slice none 0 0] 36 := X1.below b2' z1
    have z2 : w.heap.size < w2.heap.size := X2.lt
    clear x0 x1 y0 y1
    obtain ⟨x0, x1, y0, y1⟩ := res_cells X2
    clear hb2 b2' X1 B1 z1 CT
    cases b2 with
    | false =>
      have HNO : Hid ((R : Int) ≠ (D : Int) + (S : Int) ∨ ∃ i, i < R ∧ n i ≠ 0 ∧ n i ≠ 4) := not_there fun h => by have := HT.out.mpr h; cases this
      clear HT
      go_wp2
      exact bodyPost_ret (v := bytesR 1 (.slice none 0 0)) (by simp [results, Try.results25, go_sem, bytesR, x0, x1]) rfl ⟨1, _, rfl, .inl ⟨.inr (.inl ⟨rfl, HSH.out, HNO.out⟩), by omega⟩, own_nil _ _ _ _, (B2.setCell (Nat.le_refl _) _).setCell (Nat.le_refl _) _⟩
    | true =>
      have HTH : Hid (ThereP R n ((D : Int) + (S : Int))) := HT.out.mp rfl
      have HASK : Hid (AskP (D : Int) (S : Int) R n 0) := .inr (.inr ⟨rfl, HSH.out, HTH.out.1, HTH.out.2⟩)
      clear HT
      by_cases hw0 : want < 0
      · have HNW : Hid (¬ (0 ≤ want ∧ want ≤ (D : Int) + (S : Int) - 1)) := fun h => by omega
        go_wp2
        exact bodyPost_ret (v := bytesR 3 (.slice none 0 0)) (by simp [results, Try.results25, go_sem, bytesR, x0, x1]) rfl ⟨3, _, rfl, .inr (.inl ⟨HASK.out, HNW.out, rfl⟩), own_nil _ _ _ _, (B2.setCell (Nat.le_refl _) _).setCell (Nat.le_refl _) _⟩
      · have tw0 : decide (want < 0) = false := by simp; omega
        by_cases hw1 : (D : Int) + (S : Int) ≤ want
        · have HNW : Hid (¬ (0 ≤ want ∧ want ≤ (D : Int) + (S : Int) - 1)) := fun h => by omega
          clear hw0
          go_wp2
          exact bodyPost_ret (v := bytesR 3 (.slice none 0 0)) (by simp [results, Try.results25, go_sem, bytesR, x0, x1]) rfl ⟨3, _, rfl, .inr (.inl ⟨HASK.out, HNW.out, rfl⟩), own_nil _ _ _ _, (B2.setCell (Nat.le_refl _) _).setCell (Nat.le_refl _) _⟩
        · obtain ⟨W, rfl⟩ : ∃ W : Nat, want = W := ⟨want.toNat, by omega⟩
          have tw1 : decide ((D : Int) + (S : Int) ≤ (W : Int)) = false := by simp; omega
          have hWW : W < D + 2 := by omega
          have HW : Hid (0 ≤ (W : Int) ∧ (W : Int) ≤ (D : Int) + (S : Int) - 1) := ⟨by omega, by omega⟩
          have CF := firstThere_any D (.slice ao R cap) R n f h1 w2 (HR.out.below B2 hh) (Nat.le_trans hh B2.size) (by omega)
          clear x0 x1 y0 y1 hw0 hw1
          go_wp2_with fail
          refine CF.mono ?_
          rintro e0 w3 ⟨v3, rfl, o3, b3'⟩
          have B3 : Below w.heap.size w w3 := B2.trans (b3'.mono B2.size)
          have X3 : Box w3 w.heap.size #[.int .i64 0, .slice none 0 0] 36 := X2.below b3' z2
          have z3 : w.heap.size < w3.heap.size := X3.lt
          obtain ⟨x0, x1, y0, y1⟩ := res_cells X3
          clear b3' X2 B2 z2 CF
          by_cases hcnt : D ≤ cntN n R
          · have HCN : Hid (D ≤ cntN n R) := hcnt
            rw [pickN_all hcnt] at o3
            obtain ⟨ao3, cap3, rfl⟩ := o3.slice
            have CB := blockFrom_any D W (.slice ao R cap) (.slice ao3 D cap3) R n f h1 w3.heap.size w3 (HR.out.below B3 hh) o3.rd (Nat.le_trans hh B3.size) (Nat.le_refl _) (by omega) (by omega) (by have := HTH.out.1; omega) hWW hcnt HTH.out.2 kf
            clear o3 hcnt x0 x1 y0 y1
            go_wp2_with fail
            refine CB.mono ?_
            rintro e0 w4 ⟨v4, rfl, o4, b4⟩
            obtain ⟨ao4, cap4, rfl⟩ := o4.slice
            have HO : Hid (Own w4 w3.heap.size w4.heap.size (.slice ao4 4 cap4) 4 (blockN D n R f W)) := o4
            have B4 : Below w.heap.size w w4 := B3.trans (b4.mono (by omega))
            have X4 : Box w4 w.heap.size #[.int .i64 0, .slice none 0 0] 36 := X3.below b4 z3
            have z4 := X4.lt
            obtain ⟨x0, x1, y0, y1⟩ := res_cells X4
            clear o4 b4 CB X4 X3
            go_wp2
            refine bodyPost_ret (v := bytesR 0 (.slice ao4 4 cap4)) (by simp [results, Try.results25, go_sem, bytesR, x0, x1]) rfl ⟨0, _, rfl, .inr (.inr (.inr ⟨HASK.out, HW.out, by rw [Int.toNat_natCast]; exact HCN.out, rfl⟩)), ?_, (B4.setCell (Nat.le_refl _) _).setCell (Nat.le_refl _) _⟩
            have o1 := out_store w4 w.heap.size (w.heap.size + 1) w.heap.size 0 (.int .i64 0) (Nat.le_refl _) (by omega)
            have o2 := out_store (w4.setCell ⟨w.heap.size, 0, none⟩ (.int .i64 0)) w.heap.size (w.heap.size + 1) w.heap.size 1 (.slice ao4 4 cap4) (Nat.le_refl _) (by omega)
            simp only [if_pos]
            rw [Int.toNat_natCast, Int.toNat_natCast]
            exact (HO.out.out (o1.trans o2) (.inr (by omega))).weaken (by omega) (by rw [(o1.trans o2).size]; exact Nat.le_refl _)
          · have HNC : Hid (¬ D ≤ cntN n R) := hcnt
            have hpf := pickN_few hcnt
            obtain ⟨c, hc⟩ : ∃ c, c = pickN D n R := ⟨_, rfl⟩
            rw [← hc] at o3 hpf
            obtain ⟨ao3, cap3, rfl⟩ := o3.slice
            have hci : (c : Int) < (D : Int) := by omega
            clear o3 hcnt hc
            go_wp2
            exact bodyPost_ret (v := bytesR 10 (.slice none 0 0)) (by simp [results, Try.results25, go_sem, bytesR, x0, x1]) rfl ⟨10, _, rfl, .inr (.inr (.inl ⟨HASK.out, HW.out, by rw [Int.toNat_natCast]; exact HNC.out, rfl⟩)), own_nil _ _ _ _, (B3.setCell (Nat.le_refl _) _).setCell (Nat.le_refl _) _⟩
theorem implDecode_any (d s : Int) (v : Value) (R : Nat) (n : Nat → Nat) (f : Mat) (l1 h1 : Nat) (w : World) (o : OwnM w l1 h1 v R n f) (hh : h1 ≤ w.heap.size) (kf : Byt f) :
    Calls Try.prog 23 #[.int .i64 d, .int .i64 s, v] w fun ee w' => ∃ x v', ee = .returned (bytesR x v') ∧ DecAns d s R n x ∧ Own w' w.heap.size w'.heap.size v' (if x = 0 then 4 * d.toNat else 0) (decN d.toNat n R f) ∧ Below w.heap.size w w' := implDecode_rd d s v R n f h1 w o.rd hh kf
theorem implBlockOf_any (d s want : Int) (v : Value) (R : Nat) (n : Nat → Nat) (f : Mat) (l1 h1 : Nat) (w : World) (o : OwnM w l1 h1 v R n f) (hh : h1 ≤ w.heap.size) (kf : Byt f) :
    Calls Try.prog 25 #[.int .i64 d, .int .i64 s, v, .int .i64 want] w fun ee w' => ∃ x v', ee = .returned (bytesR x v') ∧ BofAns d s R n want x ∧ Own w' w.heap.size w'.heap.size v' (if x = 0 then 4 else 0) (blockN d.toNat n R f want.toNat) ∧ Below w.heap.size w w' := implBlockOf_rd d s want v R n f h1 w o.rd hh kf
end Go.Proofs.Ytoadjpacchhleaa

namespace Go.Proofs.Ytoadjpacchhleaa
open Go.RowKit F256
set_option linter.unusedVariables false
set_option linter.unusedSimpArgs false

theorem fieldK0 (a : Int) (v : Value) (w : World) : (Instr.field 42 (.agg #[.int .i64 a, v]) 0).run Try.prog w = .ok (.int .i64 a) w := by kernel_rfl
theorem undrew1 {B : Nat} {w w2 : World} {m : Nat} (h : Below B (w.drewN m) w2) : Below B w w2 := ⟨h.os, h.tape, h.output, h.size, h.block⟩
/-- rows, some of which are struck out -/
theorem rdm_less {w : World} {g R cap h1 : Nat} {n : Nat → Nat} {f : Mat} {e : Nat → Value} (hR : R ≤ 1000) (hg : g < w.heap.size) (hh : h1 ≤ w.heap.size) (hrow : ∀ i, i < R → w.cell? ⟨g, i, none⟩ = some (if n i = 0 then nilS else e i)) (he : ∀ i, i < R → Rd w h1 (e i) 4 (f i)) (h4 : ∀ i, i < R → n i = 0 ∨ n i = 4) :
    RdM w w.heap.size (.slice (some ⟨g, 0, none⟩) R cap) R n f :=
  ⟨_, _, fun i => if n i = 0 then nilS else e i, rfl, by unfold maxLen; omega, fun _ => ⟨g, 0, rfl, hg, fun i hi => by rw [Nat.zero_add]; exact hrow i hi⟩, fun i hi => by
    show Rd w w.heap.size (if n i = 0 then nilS else e i) (n i) (f i)
    by_cases c : n i = 0
    · rw [if_pos c, c]
      exact ⟨_, _, rfl, Nat.zero_le _, fun h => absurd rfl h⟩
    · rw [if_neg c]
      rcases h4 i hi with h | h
      · exact absurd h c
      · rw [h]; exact (he i hi).mono hh⟩

set_option maxHeartbeats 8000000 in
theorem fnRows_core (v : Value) (n0 : Nat) (f0 : Nat → Nat) (k0 : ∀ i, f0 i < 256) (w : World) (r0 : Rd w w.heap.size v n0 f0) :
    Calls Try.prog 5 #[v] w fun e w' => e = .returned (.bool true) ∧ Below w.heap.size w w' := by
  by_cases hbig : 1048576 < n0
  · go_enter Try.func5, Try.ntmps5
    go_wp2_with fail
    refine (lwBig_yes _ n0 f0 _ _ r0 hbig).mono ?_
    rintro e w1 ⟨rfl, hw1⟩
    obtain rfl := hw1.symm
    go_wp2
    go_ret
    exact ⟨rfl, Below.refl _ _⟩
  have HR0 : Hid (Rd w w.heap.size v n0 f0) := r0
  have HK0 : Hid (∀ i, f0 i < 256) := k0
  go_enter Try.func5, Try.ntmps5
  go_wp2_with fail
  refine (lwBig_no _ n0 f0 _ _ r0 (by omega)).mono ?_
  rintro e w1 ⟨rfl, hw1⟩
  obtain rfl := hw1.symm
  go_wp2_with fail
  refine (drawRow_any _ n0 f0 _ r0 k0 (by omega)).mono ?_
  rintro e w1 ⟨a, b, vb, N, g, ha1, ha2, hb1, hb2, rfl, ob, kg, hN, b1⟩
  obtain ⟨aob, capb, rfl⟩ := ob.slice
  have HOB : Hid (Own w1 w.heap.size w1.heap.size (.slice aob N capb) N g) := ob
  have HKG : Hid (∀ i, g i < 256) := kg
  have CE := implEncode_any a b _ N g _ _ w1 ob (Nat.le_refl _) kg
  clear r0 k0 ob kg
  go_wp2_with fail
  refine CE.mono ?_
  rintro e w2 ⟨x, vr, rfl, hans, og, b2⟩
  have HA : Hid (EncAns a b N x) := hans
  obtain ⟨nb, hnb⟩ : ∃ nb, nb = (if x = 0 then (a + b).toNat else 0) := ⟨_, rfl⟩
  rw [← hnb] at og
  obtain ⟨aor, capr, rfl⟩ := og.slice
  have HG : Hid (OwnG w2 w1.heap.size w2.heap.size (.slice aor nb capr) nb (fun _ => 4) (encN a.toNat g)) := og
  have HNB : Hid (nb = (if x = 0 then (a + b).toNat else 0)) := hnb
  have HB1 : Hid (Below w.heap.size w w1) := b1
  have HB2 : Hid (Below w1.heap.size w1 w2) := b2
  have s1 := b1.size
  have s2 := b2.size
  unfold bytesR
  clear CE hans og hnb b1 b2
  by_cases hx : x = 0
  · subst hx
    have hfacts : Shp a b ∧ (N : Int) = a * 4 := by
      rcases HA.out with ⟨h, _⟩ | ⟨h, _⟩ | ⟨_, h1, h2⟩
      · omega
      · omega
      · exact ⟨h1, h2⟩
    obtain ⟨hsh, hN4⟩ := hfacts
    have HSH : Hid (Shp a b) := hsh
    obtain ⟨q1, q2, q3, q4⟩ := hsh
    obtain ⟨D, rfl⟩ : ∃ D : Nat, a = D := ⟨a.toNat, by omega⟩
    obtain ⟨S, rfl⟩ : ∃ S : Nat, b = S := ⟨b.toNat, by omega⟩
    obtain rfl : N = 4 * D := by omega
    obtain rfl : nb = D + S := by rw [HNB.out]; simp; omega
    have hrm := HG.out.rd
    rw [Int.toNat_natCast] at hrm
    have HRM : Hid (RdM w2 w2.heap.size (.slice aor (D + S) capr) (D + S) (fun _ => 4) (encN D g)) := hrm
    obtain ⟨ao', cap', er, hv', _, hcr, her⟩ := hrm
    cases hv'
    obtain ⟨br, offr, hao, hbr, hcellr⟩ := hcr (by omega)
    subst hao
    have HER : Hid (∀ i, i < D + S → Rd w2 w2.heap.size (er i) 4 (encN D g i)) := her
    have HCR : Hid (∀ i, i < D + S → w2.cell? ⟨br, offr + i, none⟩ = some (er i)) := hcellr
    clear hcr her hcellr hN4 HNB HA HG
    have bx : Below w2.heap.size w2 (w2.alloc (.cells #[.int .i64 0, .slice (some ⟨br, offr, none⟩) (D + S) capr] 42)) := (Below.refl _ _).alloc (Nat.le_refl _) _
    have CF := implFits_rd D S _ (D + S) (fun _ => 4) (encN D g) w2.heap.size _ (HRM.out.below bx (Nat.le_refl _)) bx.size (encN_byt HKG.out)
    clear bx
    go_wp2_with fail
    refine CF.mono ?_
    rintro e w4 ⟨bb, rfl, hbb, b4⟩
    obtain rfl : bb = true := hbb.mpr (fits_enc HSH.out)
    have X4 : Box w4 w2.heap.size #[.int .i64 0, .slice (some ⟨br, offr, none⟩) (D + S) capr] 42 := (box_new w2 _ _).below b4 (by simp)
    have B4 : Below w2.heap.size w2 w4 := bnew b4
    have HX4 : Hid (Box w4 w2.heap.size #[.int .i64 0, .slice (some ⟨br, offr, none⟩) (D + S) capr] 42) := X4
    have z4 : w2.heap.size < w4.heap.size := X4.lt
    have HB4 : Hid (Below w2.heap.size w2 w4) := B4
    obtain ⟨x0, x1, -, -⟩ := res_cells X4
    clear CF hbb b4 X4 B4
    have tl : ((D : Int) + (S : Int) != (D : Int) + (S : Int)) = false := by simp
    go_wp2_with (at_builtin; refine wp_appendRows rfl (.tmp 49) (.tmp 51) rfl w4.heap.size (.slice (some ⟨w4.heap.size, 0, none⟩) 0 0) 0 er ?_ ?_ br offr (D + S) capr ?_ ?_ ?_ (by omega) ?_ ?_; (simp [Act.eval]); exact World.ownsRow_lit (base := w4.heap.size) (e := 22) (size := 1) w4 #[] 0 (Nat.le_refl _) (Nat.zero_le _) rfl; (simp [Act.eval]); (intro i hi; simp only [Nat.zero_add]; exact (cell_alloc_old w4 _ br (offr + i) (by omega)).trans ((HB4.out.cell (p := ⟨br, offr + i, none⟩) hbr).trans (HCR.out i hi))); (intro i hi; simp only [Nat.zero_add]; obtain ⟨aoi, capi, hsi, _, _⟩ := HER.out i hi; rw [hsi]; rfl); simp; intro v5 w5 hr5 hg5 hn5)
    simp only [Nat.zero_add] at hr5
    have B5 : Below w4.heap.size w4 w5 := ((Below.refl w4.heap.size w4).alloc (Nat.le_refl _) _).grown hg5 (by simp) (fun k hk => by simp [Value.ownBlock] at hk; omega)
    obtain ⟨g5, cap5, hv5, hg51, hg52⟩ : ∃ g cap, v5 = .slice (some ⟨g, 0, none⟩) (D + S) cap ∧ w4.heap.size ≤ g ∧ g < w5.heap.size := by
      rcases hr5.2 with ⟨h, h2⟩ | ⟨g, cap, cur, h, h1, h3, _⟩
      · omega
      · exact ⟨g, cap, h, h1, (Array.getElem?_eq_some_iff.1 h3).1⟩
    subst hv5
    have s5 := B5.size
    have hr5' : w5.ownsRow w4.heap.size 22 1 (.slice (some ⟨g5, 0, none⟩) (D + S) cap5) (D + S) (valsOf (D + S) fun i => if (fun _ => 4 : Nat → Nat) i = 0 then nilS else er i) := by
      rw [valsOf_eq (g := er) (fun i _ => by simp)]
      exact hr5
    clear hr5 hg5 hn5 x0 x1
    go_loopw [8] (fun j wr => ∃ k : Nat, k ≤ S ∧ j = .int .i64 k ∧ ∃ n' : Nat → Nat, (∀ i, i < D + S → n' i = 0 ∨ n' i = 4) ∧ D + S ≤ cntN n' (D + S) + k ∧ wr.ownsRow w4.heap.size 22 1 (.slice (some ⟨g5, 0, none⟩) (D + S) cap5) (D + S) (valsOf (D + S) fun i => if n' i = 0 then nilS else er i) ∧ Below w4.heap.size w4 wr ∧ w5.heap.size ≤ wr.heap.size) (fun j _ => S - (intOf j).toNat)
    case atStart => exact ⟨0, Nat.zero_le _, rfl, fun _ => 4, fun _ _ => .inr rfl, by rw [cntN_all (fun _ _ => by omega)]; exact Nat.le_refl _, hr5', B5, Nat.le_refl _⟩
    case round =>
      clear hr5' B5
      obtain ⟨k, hk, rfl, n', hn4, hcnt, hrow, hbel, hsz⟩ := hrel
      by_cases hlt : k < S
      · have bw : Below w.heap.size w wr := HB1.out.trans ((HB2.out.mono s1).trans ((HB4.out.mono (by omega)).trans (hbel.mono (by omega))))
        have CL := lwAt_any _ n0 f0 (k + 5) (D + S) (by omega) (by omega) (by omega) w.heap.size wr (HR0.out.below bw (Nat.le_refl _)) HK0.out (by omega)
        have e1 : ((k + 5 : Nat) : Int) = (k : Int) + 5 := by simp
        have e2 : ((D + S : Nat) : Int) = (D : Int) + (S : Int) := by simp
        rw [e1, e2] at CL
        have HN4 : Hid (∀ i, i < D + S → n' i = 0 ∨ n' i = 4) := hn4
        have HCN : Hid (D + S ≤ cntN n' (D + S) + k) := hcnt
        have HROW : Hid (wr.ownsRow w4.heap.size 22 1 (.slice (some ⟨g5, 0, none⟩) (D + S) cap5) (D + S) (valsOf (D + S) fun i => if n' i = 0 then nilS else er i)) := hrow
        have HBL : Hid (Below w4.heap.size w4 wr) := hbel
        clear hn4 hcnt hrow hbel bw e1 e2
        go_wp2_with fail
        refine CL.mono ?_
        rintro e w6 ⟨r, hr, rfl, b6⟩
        have row6 : w6.ownsRow w4.heap.size 22 1 (.slice (some ⟨g5, 0, none⟩) (D + S) cap5) (D + S) (valsOf (D + S) fun i => if n' i = 0 then nilS else er i) := row_kept HROW.out fun q hq => b6.block q ((HROW.out.lt q hq).2)
        have c6 := (row6.cellAt r (by omega)).trans (valsOf_get _ _ _ hr)
        have z6 := row6.frozenAt r
        obtain ⟨u6, hu6⟩ : ∃ u, u = (if n' r = 0 then nilS else er r) := ⟨_, rfl⟩
        rw [← hu6] at c6
        have hst := (row6.stored r nilS).1
        rw [valsOf_set (D + S) _ (fun i => if lessN n' r i = 0 then nilS else er i) r nilS hr (fun i hi => by
          unfold lessN
          by_cases c : i = r
          · simp [c]
          · simp [c])] at hst
        have N4 : ∀ i, i < D + S → lessN n' r i = 0 ∨ lessN n' r i = 4 := fun i hi => by
          unfold lessN
          by_cases c : i = r
          · left; rw [if_pos c]
          · rw [if_neg c]; exact HN4.out i hi
        have NC : D + S ≤ cntN (lessN n' r) (D + S) + (k + 1) := by
          have h1 := cnt_less n' r (D + S)
          have h2 := HCN.out
          have h3 : (if r < D + S then 1 else 0 : Nat) ≤ 1 := by split <;> omega
          omega
        have NB : Below w4.heap.size w4 (w6.setCell ⟨g5, r, none⟩ nilS) := (HBL.out.trans (b6.mono HBL.out.size)).setCell hg51 _
        have NS : w5.heap.size ≤ (w6.setCell ⟨g5, r, none⟩ nilS).heap.size := by have := b6.size; simp; omega
        have hri : (r : Int) < (D : Int) + (S : Int) := by omega
        clear CL b6 row6 HN4 HCN HROW HBL hu6
        go_wp2
        go_roundw
        case rel => exact ⟨k + 1, by omega, by go_num, _, N4, NC, hst, NB, NS⟩
        case measure => simp [intOf]; omega
      · obtain rfl : k = S := by omega
        have hcD : D ≤ cntN n' (D + k) := by omega
        have HCD : Hid (D ≤ cntN n' (D + k)) := hcD
        have HN4 : Hid (∀ i, i < D + k → n' i = 0 ∨ n' i = 4) := hn4
        have HROW : Hid (wr.ownsRow w4.heap.size 22 1 (.slice (some ⟨g5, 0, none⟩) (D + k) cap5) (D + k) (valsOf (D + k) fun i => if n' i = 0 then nilS else er i)) := hrow
        have HBL : Hid (Below w4.heap.size w4 wr) := hbel
        have szr := hbel.size
        have hg5r : g5 < wr.heap.size := by omega
        have b24 : Below w2.heap.size w2 wr := HB4.out.trans (hbel.mono (by omega))
        have HB2r : Hid (Below w2.heap.size w2 wr) := b24
        have RM : RdM wr wr.heap.size (.slice (some ⟨g5, 0, none⟩) (D + k) cap5) (D + k) n' (encN D g) := rdm_less (h1 := w2.heap.size) (e := er) (by omega) hg5r (by omega) (fun i hi => (hrow.cellAt i (by omega)).trans (valsOf_get _ _ _ hi)) (fun i hi => (HER.out i hi).below b24 (Nat.le_refl _)) hn4
        have HRN : Hid (RdM wr wr.heap.size (.slice (some ⟨g5, 0, none⟩) (D + k) cap5) (D + k) n' (encN D g)) := RM
        have HASK : Hid (AskP (D : Int) (k : Int) (D + k) n' 0) := .inr (.inr ⟨rfl, HSH.out, by omega, hn4⟩)
        have HDA : Hid (DecAns (D : Int) (k : Int) (D + k) n' 0) := .inr (.inr ⟨HASK.out, by rw [Int.toNat_natCast]; exact hcD, rfl⟩)
        have CD := implDecode_rd D k _ (D + k) n' (encN D g) wr.heap.size wr RM (Nat.le_refl _) (encN_byt HKG.out)
        obtain ⟨wA, hwA⟩ : ∃ wA, wA = wr := ⟨_, rfl⟩
        rw [← hwA] at HROW HBL HB2r HRN CD szr hg5r ⊢
        clear hcD hn4 hcnt hrow hbel b24 RM hsz hwA
        go_wp2_with fail
        refine CD.mono ?_
        rintro e w7 ⟨x7, v7, rfl, ha7, o7, b7⟩
        obtain rfl : x7 = 0 := ha7.one HDA.out
        simp only [if_pos] at o7
        rw [Int.toNat_natCast] at o7
        have o7' : Own w7 wA.heap.size w7.heap.size v7 (4 * D) g := o7.congr (fun t ht => dec_back (by omega) (by omega) (by omega) HCD.out HN4.out HKG.out t ht)
        obtain ⟨ao7, cap7, rfl⟩ := o7'.slice
        have HO7 : Hid (Own w7 wA.heap.size w7.heap.size (.slice ao7 (4 * D) cap7) (4 * D) g) := o7'
        have HB7 : Hid (Below wA.heap.size wA w7) := b7
        have s7 := b7.size
        unfold bytesR
        clear CD ha7 o7 o7' b7 HDA
        have bx : Below w7.heap.size w7 (w7.alloc (.cells #[.int .i64 0, .slice ao7 (4 * D) cap7] 36)) := (Below.refl _ _).alloc (Nat.le_refl _) _
        have b1x : Below w1.heap.size w1 (w7.alloc (.cells #[.int .i64 0, .slice ao7 (4 * D) cap7] 36)) := HB2.out.trans ((HB2r.out.mono s2).trans ((HB7.out.mono (by omega)).trans (bx.mono (by omega))))
        have CW := lwBytes_same _ _ (4 * D) g w7.heap.size w1.heap.size _ (HO7.out.rd.below bx (Nat.le_refl _)) (HOB.out.rd.below b1x (Nat.le_refl _))
        clear bx b1x
        go_wp2_with fail
        refine CW.mono ?_
        rintro e w9 ⟨rfl, b9⟩
        have B9 : Below w7.heap.size w7 w9 := bnew b9
        have HA9 : Hid (Below wA.heap.size wA w9) := HB7.out.trans (B9.mono s7)
        have s9 := HA9.out.size
        clear CW b9 B9
        go_wp2
        go_loopw [10] (fun j wr => ∃ i : Nat, i ≤ D + k ∧ j = .int .i64 i ∧ Below w9.heap.size w9 wr) (fun j _ => D + k - (intOf j).toNat)
        case atStart => exact ⟨0, Nat.zero_le _, rfl, Below.refl _ _⟩
        case round =>
          obtain ⟨i, hi, rfl, hb⟩ := hrel
          have HB : Hid (Below w9.heap.size w9 wr) := hb
          have bA : Below wA.heap.size wA wr := HA9.out.trans (hb.mono s9)
          have HBA : Hid (Below wA.heap.size wA wr) := bA
          by_cases hli : i < D + k
          · have hlii : (i : Int) < (D : Int) + (k : Int) := by omega
            have szw := bA.size
            have hBOF : BofAns (D : Int) (k : Int) (D + k) n' (i : Int) 0 := .inr (.inr (.inr ⟨HASK.out, ⟨by omega, by omega⟩, by rw [Int.toNat_natCast]; exact HCD.out, rfl⟩))
            have HBOF : Hid (BofAns (D : Int) (k : Int) (D + k) n' (i : Int) 0) := hBOF
            have CBf := fun (w' : World) (b' : Below wr.heap.size wr w') => implBlockOf_rd D k i _ (D + k) n' (encN D g) wA.heap.size w' (HRN.out.below (bA.trans (b'.mono szw)) (Nat.le_refl _)) (Nat.le_trans szw b'.size) (encN_byt HKG.out)
            have HCB : Hid (∀ (w' : World), Below wr.heap.size wr w' → Calls Try.prog 25 #[.int .i64 D, .int .i64 k, .slice (some ⟨g5, 0, none⟩) (D + k) cap5, .int .i64 i] w' fun ee w'' => ∃ x v', ee = .returned (bytesR x v') ∧ BofAns (D : Int) (k : Int) (D + k) n' (i : Int) x ∧ Own w'' w'.heap.size w''.heap.size v' (if x = 0 then 4 else 0) (blockN (D : Int).toNat n' (D + k) (encN D g) (i : Int).toNat) ∧ Below w'.heap.size w' w'') := CBf
            have b2r : Below w2.heap.size w2 wr := HB2r.out.trans (bA.mono (by omega))
            have HB2w : Hid (Below w2.heap.size w2 wr) := b2r
            have b4r : Below w4.heap.size w4 wr := HBL.out.trans (bA.mono szr)
            have HB4w : Hid (Below w4.heap.size w4 wr) := b4r
            obtain ⟨x0, x1, -, -⟩ := res_cells (HX4.out.below b4r z4)
            have c1 : wr.cell? ⟨br, offr + i, none⟩ = some (er i) := (b2r.cell (p := ⟨br, offr + i, none⟩) hbr).trans (HCR.out i hli)
            have ri := HER.out i hli
            obtain ⟨aoi, capi, hsi, _, _⟩ := HER.out i hli
            rw [hsi] at ri c1
            have HRI : Hid (Rd w2 w2.heap.size (.slice aoi 4 capi) 4 (encN D g i)) := ri
            have sz2 : w2.heap.size ≤ wr.heap.size := b2r.size
            have sz4 : w4.heap.size ≤ wr.heap.size := b4r.size
            clear hb bA CBf hBOF b2r b4r hsi ri
            have hfd := fun (vv : Value) => fieldB1 0 vv
            go_wp2
            go_region_with (first | (go_at_call 25; refine (HCB.out _ ?_).mono ?_; exact below_drewN (Below.refl _ _) _; rintro ee w10 ⟨x10, v10, rfl, ha10, o10, b10⟩; obtain rfl := ha10.one HBOF.out; simp only [if_pos] at o10; rw [Int.toNat_natCast, Int.toNat_natCast] at o10; obtain ⟨ao10, cap10, rfl⟩ := o10.slice; unfold bytesR; have HO10 : Hid (Own w10 wr.heap.size w10.heap.size (.slice ao10 4 cap10) 4 (encN D g i)) := o10.congr (fun j _ => block_back (by omega) (by omega) (by omega) HCD.out HN4.out HKG.out i j); have B10 : Below wr.heap.size wr w10 := undrew1 b10; have p0 := (HX4.out.below (HB4w.out.trans (B10.mono sz4)) z4).cell 1; have p1 : w10.cell? ⟨br, offr + i, none⟩ = some (.slice aoi 4 capi) := (B10.cell (p := ⟨br, offr + i, none⟩) (by show br < wr.heap.size; omega)).trans c1) | (go_at_call 24; refine (lwBytes_same _ _ 4 (encN D g i) w10.heap.size w2.heap.size w10 HO10.out.rd (HRI.out.below (HB2w.out.trans (B10.mono sz2)) (Nat.le_refl _))).mono ?_; rintro ee w11 ⟨rfl, b11⟩))
            all_goals
              have R11 : Below w9.heap.size w9 w11 := HB.out.trans ((B10.trans (b11.mono B10.size)).mono HB.out.size)
              clear b10 b11 B10 p0 p1 x0 x1 c1 o10 ha10
              go_wp2
              go_roundw
              case rel => exact ⟨i + 1, by omega, by go_num, R11⟩
              case measure => simp [intOf]; omega
          · obtain rfl : i = D + k := by omega
            have BF : Below w.heap.size w wr := HB1.out.trans ((HB2.out.mono s1).trans ((HB2r.out.mono (by omega)).trans (bA.mono (by omega))))
            have hni : ¬ (((D + k : Nat) : Int) < (D : Int) + (k : Int)) := by omega
            clear hb bA
            go_wp2
            go_ret
            exact ⟨rfl, BF⟩
  · have HX : Hid (x ≠ 0) := hx
    have tx : (x != 0) = true := by simp [hx]
    have CSp := fun (w3 : World) (b3 : Below w2.heap.size w2 w3) => specEncode_any a b _ N g _ _ w3 ((HOB.out.below HB2.out (Nat.le_refl _)).below b3 s2) (Nat.le_trans s2 b3.size) HKG.out
    have HCS : Hid (∀ (w3 : World), Below w2.heap.size w2 w3 → Calls Try.prog 21 #[.int .i64 a, .int .i64 b, .slice aob N capb] w3 fun ee w' => ∃ x v', ee = .returned (bytesR x v') ∧ EncAns a b N x ∧ OwnB w' w3.heap.size w'.heap.size v' (if x = 0 then (a + b).toNat else 0) (fun _ => 4) (encN a.toNat g) ∧ Below w3.heap.size w3 w') := CSp
    clear CSp HG HNB hx
    have hfd := fun (vv : Value) => fieldK0 x vv
    have txx : (x == x) = true := by simp
    go_wp2
    first | go_region_with (go_at_call 21; refine (HCS.out _ ?_).mono ?_; exact below_drewN ((Below.refl _ _).alloc (Nat.le_refl _) _) _; rintro e w4 ⟨x', vb', rfl, ha', ob', b4⟩; obtain rfl := ha'.one HA.out; obtain ⟨ao', cap', rfl⟩ := ob'.slice; unfold bytesR; have b4' : Below w2.heap.size w2 w4 := ((Below.refl w2.heap.size w2).alloc (Nat.le_refl _) _).trans ((undrew1 b4).mono (by simp)); obtain ⟨q0, -, -, -⟩ := res_cells ((box_new w2 #[.int .i64 x', .slice aor nb capr] 42).below (undrew1 b4) (by simp))) | fail
    all_goals
      have B4 : Below w.heap.size w w4 := HB1.out.trans ((HB2.out.mono s1).trans (b4'.mono (by omega)))
      clear b4 b4' q0 ob' ha'
      go_wp2
      go_ret
      exact ⟨rfl, B4⟩
end Go.Proofs.Ytoadjpacchhleaa

namespace Go.Proofs.Ytoadjpacchhleaa
open Go.ChangeShapes Go.WideShapes Go.ChangeAt Go.RowKit F256
set_option linter.unusedVariables false

theorem fnRows_walk (a0 : Option Addr) (n0 c0 : Nat) (z0 : List Int) (w : World) (q0 : IsRow w a0 n0 c0 z0) :
    Calls Try.prog 5 #[.slice a0 n0 c0] w fun e w' => e = .returned (.bool true) ∧ Below w.heap.size w w' := by
  obtain ⟨f0, k0, r0⟩ := q0.rd
  exact fnRows_core _ n0 f0 k0 w r0

set_option maxRecDepth 100000 in
theorem fnRows_lifted (os : Os) (started : os.Started) (H : Type) (enc : TypeId × Value → H) :
    ReturnsInHanded {} Try.checked os 5 .any (Rows.fnRowsSpec.pre6 enc Try.prog Try.f5 Rows.fnRowsRow.domain false) (Rows.fnRowsSpec.post enc Try.prog Try.f5 false true false false) := by
  refine returnsInHanded_of_change (C := Try.checked) frame_own started (by kernel_rfl) Try.func5
    (ChangeSpec.witness6 (enc := enc) (C := Try.checked) false ⟨#[], #[.slice none 0 0], []⟩ 8 (by kernel_rfl) (by kernel_rfl) (by kernel_rfl) (by kernel_rfl)) ?_
  intro W base args ds gs before hval0 hW hcnd _
  have hval : ∀ (j : Nat) t v, Try.f5.params[j]? = some t → args[j]? = some v → Value.okWide Try.prog W .any base t v := hval0
  have hW' := hW
  obtain ⟨p, q, hA0, hV, rfl, hfz, hnd⟩ := hW
  have hA : DataW.TrodAll enc Try.prog W 0 (fun _ => true) true Try.f5.params.toList args.toList ds p := hA0
  rw [Try.params5] at hA hval
  obtain ⟨v0, vs0, d0, ds0, p0, q0, hargs, rfl, rfl, h0, r0⟩ := trodAll_cons hA
  obtain ⟨rfl, rfl, rfl⟩ := trodAll_nil r0
  obtain rfl : args = #[v0] := by cases args; simp_all
  obtain ⟨rfl, rfl⟩ := trodVars_none hV
  obtain ⟨a0, len0, cap0, rfl⟩ := okWide_slice Try.underlying22 (hval 0 22 v0 rfl rfl)
  have k0 := h0
  have lt0 : ∀ x ∈ p0, x.block < W.heap.size := by obtain ⟨m, hm⟩ := k0; exact DataW.trod_lt m _ _ _ hm
  obtain ⟨z0, w0⟩ : ∃ zs, IsRow W a0 len0 cap0 zs := row_of_trod Try.underlying22 Try.underlying5 (by kernel_rfl) h0
  clear hA0 hval0
  refine (fnRows_walk a0 len0 cap0 z0 W w0).mono fun e W' ⟨he, bel⟩ => ?_
  subst he
  exact ⟨_, rfl, _, _, _, [], _, [], hW', trodAll_mk1 (shut_bool Try.underlying4 _), (trodAll_cons_mk (Below.trod frame_laid (by kernel_rfl) (of_decide_eq_true (by kernel_rfl)) k0 bel lt0) trodAll_mk0), rfl, bel.frame _, fun h => by cases h⟩

theorem fnRows_proved : Rows.FnRowsSaid :=
  OpenClaim.holds_of_wide 5 Try.f5 rfl rfl rfl rfl rfl rfl rfl ⟨rfl, rfl, rfl, rfl, rfl⟩ rfl rfl rfl rfl rfl (by kernel_rfl) Try.func5 (by kernel_rfl)
    (of_decide_eq_true (by kernel_rfl)) (by unfold Func.isWrapper; first | (rw [if_pos (by decide +kernel)]; kernel_rfl) | (rw [if_neg (by decide +kernel)]; exact ⟨rfl, rfl⟩))
    (fun os started H enc _ => fnRows_lifted os started H enc)
#print axioms fnRows_proved
end Go.Proofs.Ytoadjpacchhleaa
