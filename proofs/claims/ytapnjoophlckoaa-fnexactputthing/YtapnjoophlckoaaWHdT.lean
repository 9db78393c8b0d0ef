/- Walks: marks of things that are held. -/
import Derived.Test.YtapnjoophlckoaaMarkT2
import Derived.Test.YtapnjoophlckoaaCellsT
import Derived.Deep.RegionLaw
namespace Go.Proofs.Ytapnjoophlckoaa
open Go.RowKit F256
set_option linter.unusedVariables false
set_option linter.unusedSimpArgs false
set_option maxHeartbeats 8000000 in
set_option maxRecDepth 20000 in
theorem heldThingS_is : HdS (layThing.slice 40) (cSl cThingD) (mkSl cThingD mkThingD) 15 := fun v d hi j w h hhi hj => by
  obtain ⟨n, x⟩ := d
  obtain ⟨ao, cap, hv, hm, hc⟩ := h
  have hv' : v = .slice ao n cap := one_eq hv
  subst hv'
  clear hv
  have hj' : j + sumN (fun i => cThingD (x i)) n ≤ 100000000 := hj
  have hm' : n ≤ maxLen := hm
  have hc' : n ≠ 0 → ∃ b off, ao = some ⟨b, off, none⟩ ∧ b < hi ∧ ∀ i, i < n → ∃ ce, layThing.rd w hi (mkThingD (j + sumN (fun i => cThingD (x i)) i) (x i)) ce ∧ ∀ jj, jj < layThing.sz → w.cell? ⟨b, off + (i * layThing.sz + jj), none⟩ = ce[jj]? := hc
  clear hc hm hj
  unfold maxLen at hm'
  go_enter Try.func15, Try.ntmps15
  go_wp2
  go_loopw [1, 5] (fun y i wr => ∃ k : Nat, k ≤ n ∧ i = .int .i64 k ∧ y = .int .i64 ((j + sumN (fun i => cThingD (x i)) k : Nat) : Int) ∧ Below w.heap.size w wr) (fun _ i _ => n - (intOf i).toNat)
  case atStart => exact ⟨0, Nat.zero_le _, rfl, rfl, Below.refl _ _⟩
  case round =>
    obtain ⟨k, hk, rfl, rfl, hb⟩ := hrel
    by_cases hlt : k < n
    · obtain ⟨b, off, rfl, hblt, hel⟩ := hc' (by omega)
      obtain ⟨ck, hrk, hcell⟩ := elem_rd (t := 0) (x := fun i => mkThingD (j + sumN (fun i => cThingD (x i)) i) (x i)) hel hb hhi hblt hlt
      have hs1 : sumN (fun i => cThingD (x i)) (k + 1) ≤ sumN (fun i => cThingD (x i)) n := sumN_mono _ (show k + 1 ≤ n from hlt)
      rw [sumN_succ] at hs1
      have hrk1 : layThing.rd wr hi (mkThingD (j + sumN (fun i => cThingD (x i)) k) (x k)) ck := hrk
      clear hrk
      obtain ⟨J, hJ⟩ : ∃ J, J = j + sumN (fun i => cThingD (x i)) k := ⟨_, rfl⟩
      have hJb : J + cThingD (x k) ≤ 100000000 := by omega
      have HJ : Hid (J = j + sumN (fun i => cThingD (x i)) k) := hJ
      rw [← hJ] at hrk1 ⊢
      clear hs1 hJ hc' hel
      have zr := hb.size
      unfold cThingD at hJb
      obtain ⟨ao2, cap2, hck, r2, -⟩ := Thing_rd hrk1
      subst hck
      clear hrk1
      have c0_0 : wr.cell? ⟨b, off + k * 3, none⟩ = some (.string (markZ (J))) := hcell 0 (by decide)
      have c0_1 : wr.cell? ⟨b, off + k * 3 + 1, none⟩ = some (.bool (decide ((J + 1) % 3 = 0))) := hcell 1 (by decide)
      have c0_2 : wr.cell? ⟨b, off + k * 3 + 2, none⟩ = some (.slice ao2 (x k).bytes.1 cap2) := hcell 2 (by decide)
      have R0_2 : Hid (layBytes.rd wr hi ((mkBytes (J + 2) (x k).bytes)) [.slice ao2 (x k).bytes.1 cap2]) := r2
      clear hcell r2
      have hb3 : (((J : Int) + 1) % 3 == 0) = decide ((J + 1) % 3 = 0) := b3_eq1 J
      have HB0 : Hid (Below w.heap.size w wr) := hb
      clear hb
      have C1 := markTextZ_any (J) (by omega) (wr.drewN 1)
      go_wp2
      go_region_with (go_at_call 27; refine C1.mono ?_; rintro ee w1 ⟨rfl, bt⟩; have cx : w1.cell? ⟨b, off + k * 3, none⟩ = some (.string (markZ (J))) := (bt.cell (p := ⟨b, off + k * 3, none⟩) (by show b < wr.heap.size; omega)).trans c0_0)
      all_goals
        have bu : Below wr.heap.size wr w1 := (below_drewN (Below.refl wr.heap.size wr) 1).trans bt
        have zt : wr.heap.size ≤ w1.heap.size := bt.size
        have c1_1 : w1.cell? ⟨b, off + k * 3 + 1, none⟩ = some (.bool (decide ((J + 1) % 3 = 0))) := (bt.cell (p := ⟨b, off + k * 3 + 1, none⟩) (by show b < wr.heap.size; omega)).trans c0_1
        have c1_2 : w1.cell? ⟨b, off + k * 3 + 2, none⟩ = some (.slice ao2 (x k).bytes.1 cap2) := (bt.cell (p := ⟨b, off + k * 3 + 2, none⟩) (by show b < wr.heap.size; omega)).trans c0_2
        have R1_2 : Hid (layBytes.rd w1 hi ((mkBytes (J + 2) (x k).bytes)) [.slice ao2 (x k).bytes.1 cap2]) := layBytes.rd_below R0_2.out bu (by show hi ≤ wr.heap.size; omega)
        have HB1 : Hid (Below w.heap.size w w1) := HB0.out.trans ((below_drewN (Below.refl wr.heap.size wr) 1).trans bt |>.mono HB0.out.size)
        clear bt bu C1
        go_wp2_with fail
        refine (heldBytes_is _ (x k).bytes hi (J + 2) _ R1_2.out (by omega) (by omega)).mono ?_
        rintro e w2 ⟨rfl, b2⟩
        have z2 : w1.heap.size ≤ w2.heap.size := b2.size
        have hz2 : ¬ (((J + 2 + lenD (x k).bytes : Nat) : Int) < 0) := by omega
        have HB2 : Hid (Below w.heap.size w w2) := HB1.out.trans (b2.mono HB1.out.size)
        clear b2
        go_wp2_with fail
        go_roundw
        case rel =>
          exact ⟨k + 1, by omega, by go_num, val_eq (by
            have e1 := HJ.out
            have e2 : sumN (fun i => cThingD (x i)) (k + 1) = sumN (fun i => cThingD (x i)) k + cThingD (x k) := rfl
            have e3 : cThingD (x k) = 2 + lenD (x k).bytes := rfl
            omega), HB2.out⟩
        case measure => simp [intOf]; omega
    · obtain rfl : k = n := by omega
      go_wp2
      go_ret
      exact ⟨rfl, hb⟩
end Go.Proofs.Ytapnjoophlckoaa
