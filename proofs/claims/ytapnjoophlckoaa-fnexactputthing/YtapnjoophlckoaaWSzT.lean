/- Walks: the measure of things. -/
import Derived.Test.YtapnjoophlckoaaCellsT
namespace Go.Proofs.Ytapnjoophlckoaa
open Go.RowKit F256
set_option linter.unusedVariables false
set_option linter.unusedSimpArgs false
set_option maxHeartbeats 4000000 in
theorem szThing_is : SzV layThing szThingD 20 := fun cs d hi L w r hhi hL => by
  obtain ⟨ao2, cap2, rfl, r2, k0⟩ := Thing_rd r
  clear r
  unfold szThingD
  have R2 : Hid (layBytes.rd w hi d.bytes [.slice ao2 d.bytes.1 cap2]) := r2
  clear r2
  unfold maxLen at k0
  by_cases hnm : L < d.name.size
  · have hz : (L : Int) - (d.name.size : Int) < 0 := by omega
    go_enter Try.func20, Try.ntmps20
    go_wp2
    go_ret
    exact ⟨-1, rfl, .inl rfl, (one_new w _ _).bel⟩
  · have hz : ¬ (L : Int) - (d.name.size : Int) < 0 := by omega
    obtain ⟨M0, hM0⟩ : ∃ M0 : Nat, M0 + d.name.size = L := ⟨L - d.name.size, by omega⟩
    have eM0 : (L : Int) - (d.name.size : Int) = (M0 : Int) := by omega
    go_enter Try.func20, Try.ntmps20
    go_wp2_with fail
    have T0 := one_new w #[.string d.name, .bool d.lost, .slice ao2 d.bytes.1 cap2] 39
    have HM0 : Hid (M0 + d.name.size = L) := hM0
    have hML0 : M0 ≤ L := by omega
    first | rw [eM0] | skip
    clear hM0
    refine (szBytes_is _ d.bytes hi M0 _ (layBytes.rd_below R2.out T0.bel hhi) (Nat.le_trans hhi T0.bel.size) (by omega)).mono ?_
    rintro e w1 ⟨y1, rfl, s1, b1⟩
    have T1 : One w w1 #[.string d.name, .bool d.lost, .slice ao2 d.bytes.1 cap2] 39 := T0.call b1
    have HB1 : Hid (Below w.heap.size w w1) := T1.bel
    rcases s1 with rfl | ⟨l1, hy1⟩
    · clear T1 T0 b1
      go_wp2
      go_ret
      exact ⟨-1, rfl, .inl rfl, HB1.out⟩
    obtain ⟨M1, hM1⟩ : ∃ M : Nat, M + lenD d.bytes = M0 := ⟨M0 - lenD d.bytes, by omega⟩
    obtain rfl : y1 = ((M1 : Nat) : Int) := by omega
    have HM1 : Hid (M1 + lenD d.bytes = M0) := hM1
    have hML1 : M1 ≤ M0 := by omega
    have hz1 : ¬ ((M1 : Int) < 0) := by omega
    clear hM1 hy1 l1 T0 b1
    clear T1
    go_wp2
    go_ret
    exact ⟨M1, rfl, .inr ⟨by have e0 := HM0.out; have e1 := HM1.out; omega, by have e0 := HM0.out; have e1 := HM1.out; omega⟩, HB1.out⟩
set_option maxHeartbeats 4000000 in
theorem szThingS_is : SzS (layThing.slice 40) (szSl szThingD) 6 := fun v d hi L w h hhi hL => by
  obtain ⟨n, x⟩ := d
  obtain ⟨ao, cap, hv, hm, hc⟩ := h
  cases hv
  simp only at hm hc
  unfold maxLen at hm
  by_cases hnL : L < n
  · clear hc
    have hz : (L : Int) - (n : Int) < 0 := by omega
    go_enter Try.func6, Try.ntmps6
    go_wp2
    go_ret
    exact ⟨-1, rfl, .inl rfl, Below.refl _ _⟩
  · have hz : ¬ (L : Int) - (n : Int) < 0 := by omega
    go_enter Try.func6, Try.ntmps6
    go_wp2
    go_loopw [1, 5] (fun y i wr => ∃ k M : Nat, k ≤ n ∧ i = .int .i64 k ∧ y = .int .i64 M ∧ M + n + sumN (fun i => szThingD (x i)) k = L ∧ Below w.heap.size w wr) (fun _ i _ => n - (intOf i).toNat)
    case atStart => exact ⟨0, L - n, Nat.zero_le _, rfl, val_eq (by omega), by simp [sumN]; omega, Below.refl _ _⟩
    case round =>
      obtain ⟨k, M, hk, rfl, rfl, hM, hb⟩ := hrel
      have HM : Hid (M + n + sumN (fun i => szThingD (x i)) k = L) := hM
      have hML : M ≤ L := by omega
      clear hM
      by_cases hlt : k < n
      · obtain ⟨b, off, rfl, hblt, hel⟩ := hc (by omega)
        obtain ⟨ck, hrk, hcell⟩ := elem_rd (t := 0) hel hb hhi hblt hlt
        obtain ⟨ao2, cap2, rfl, -⟩ := Thing_rd hrk
        have c0 : wr.cell? ⟨b, off + k * 3, none⟩ = some (.string (x k).name) := hcell 0 (by decide)
        have c1 : wr.cell? ⟨b, off + k * 3 + 1, none⟩ = some (.bool (x k).lost) := hcell 1 (by decide)
        have c2 : wr.cell? ⟨b, off + k * 3 + 2, none⟩ = some (.slice ao2 (x k).bytes.1 cap2) := hcell 2 (by decide)
        clear hc hel hcell
        go_wp2_with fail
        refine (szThing_is _ (x k) hi M _ hrk (Nat.le_trans hhi hb.size) (by omega)).mono ?_
        rintro e w2 ⟨y, rfl, s, b2⟩
        have HB : Hid (Below w.heap.size w w2) := hb.trans (b2.mono hb.size)
        clear b2 hb hrk
        rcases s with rfl | ⟨l1, hy⟩
        · go_wp2
          go_ret
          exact ⟨-1, rfl, .inl rfl, HB.out⟩
        · obtain ⟨M', hM'⟩ : ∃ M' : Nat, M' + szThingD (x k) = M := ⟨M - szThingD (x k), by omega⟩
          obtain rfl : y = (M' : Int) := by omega
          have HM' : Hid (M' + szThingD (x k) = M) := hM'
          have hz2 : ¬ ((M' : Int) < 0) := by omega
          clear hM' hy l1
          go_wp2_with fail
          go_roundw
          case rel => exact ⟨k + 1, M', by omega, by go_num, rfl, by
                have e1 := HM.out
                have e2 := HM'.out
                have e3 : sumN (fun i => szThingD (x i)) (k + 1) = sumN (fun i => szThingD (x i)) k + szThingD (x k) := rfl
                omega, HB.out⟩
          case measure => simp [intOf]; omega
      · obtain rfl : k = n := by omega
        go_wp2
        go_ret
        exact ⟨M, rfl, .inr ⟨by
          have e1 := HM.out
          show k + sumN (fun i => szThingD (x i)) k ≤ L
          omega, by
          have e1 := HM.out
          show (M : Int) = (L : Int) - ((k + sumN (fun i => szThingD (x i)) k : Nat) : Int)
          omega⟩, hb⟩
end Go.Proofs.Ytapnjoophlckoaa
