/- Walks: things compared. -/
import Derived.Test.YtapnjoophlckoaaCellsT
import Derived.Deep.RegionLaw
namespace Go.Proofs.Ytapnjoophlckoaa
open Go.RowKit F256
set_option linter.unusedVariables false
set_option linter.unusedSimpArgs false
set_option maxHeartbeats 8000000 in
set_option maxRecDepth 20000 in
theorem eqThing_is : EqV layThing 26 := fun c1 c2 d h1 h2 w r1 r2 u1 u2 => by
  obtain ⟨ao2, cap2, rfl, g2, -⟩ := Thing_rd r1
  obtain ⟨bao2, bcap2, rfl, q2, -⟩ := Thing_rd r2
  clear r1 r2
  have G2 : Hid (layBytes.rd w h1 d.bytes [.slice ao2 d.bytes.1 cap2]) := g2
  have E2 : Hid (layBytes.rd w h2 d.bytes [.slice bao2 d.bytes.1 bcap2]) := q2
  clear g2 q2
  go_enter Try.func26, Try.ntmps26
  go_wp2_with fail
  have T0 := two_newb w #[.string d.name, .bool d.lost, .slice ao2 d.bytes.1 cap2] #[.string d.name, .bool d.lost, .slice bao2 d.bytes.1 bcap2] 40 40
  refine (eqBytes_is _ _ d.bytes h1 h2 _ (layBytes.rd_below G2.out T0.bel u1) (layBytes.rd_below E2.out T0.bel u2) (Nat.le_trans u1 T0.bel.size) (Nat.le_trans u2 T0.bel.size)).mono ?_
  rintro e w1 ⟨rfl, b1⟩
  have T1 : Two w w1 #[.string d.name, .bool d.lost, .slice ao2 d.bytes.1 cap2] #[.string d.name, .bool d.lost, .slice bao2 d.bytes.1 bcap2] 40 40 := T0.call b1
  clear T0 b1
  have B : Hid (Below w.heap.size w w1) := T1.bel
  clear T1
  go_wp2
  go_ret
  exact ⟨rfl, B.out⟩
set_option maxHeartbeats 4000000 in
theorem eqThingS_is : EqS (layThing.slice 40) 11 := fun v1 v2 d h1 h2 w r1 r2 u1 u2 => by
  obtain ⟨n, x⟩ := d
  obtain ⟨ao, cap, hv, hm, hc⟩ := r1
  cases hv
  obtain ⟨ao', cap', hv', hm', hc'⟩ := r2
  cases hv'
  simp only at hm hc hc'
  unfold maxLen at hm
  clear hm'
  go_enter Try.func11, Try.ntmps11
  go_wp2
  go_loopw [5] (fun i wr => ∃ k : Nat, k ≤ n ∧ i = .int .i64 k ∧ Below w.heap.size w wr) (fun i _ => n - (intOf i).toNat)
  case atStart => exact ⟨0, Nat.zero_le _, rfl, Below.refl _ _⟩
  case round =>
    obtain ⟨k, hk, rfl, hb⟩ := hrel
    by_cases hlt : k < n
    · obtain ⟨b, off, rfl, hblt, hel⟩ := hc (by omega)
      obtain ⟨b', off', rfl, hblt', hel'⟩ := hc' (by omega)
      obtain ⟨ck, hrk, hcell⟩ := elem_rd (t := 0) hel (below_drewN hb 1) u1 hblt hlt
      obtain ⟨ck', hrk', hcell'⟩ := elem_rd (t := 0) hel' (below_drewN hb 1) u2 hblt' hlt
      obtain ⟨ao2, cap2, rfl, -⟩ := Thing_rd hrk
      obtain ⟨bao2, bcap2, rfl, -⟩ := Thing_rd hrk'
      have c0 : wr.cell? ⟨b, off + k * 3, none⟩ = some (.string (x k).name) := hcell 0 (by decide)
      have c1 : wr.cell? ⟨b, off + k * 3 + 1, none⟩ = some (.bool (x k).lost) := hcell 1 (by decide)
      have c2 : wr.cell? ⟨b, off + k * 3 + 2, none⟩ = some (.slice ao2 (x k).bytes.1 cap2) := hcell 2 (by decide)
      have e0 : wr.cell? ⟨b', off' + k * 3, none⟩ = some (.string (x k).name) := hcell' 0 (by decide)
      have e1 : wr.cell? ⟨b', off' + k * 3 + 1, none⟩ = some (.bool (x k).lost) := hcell' 1 (by decide)
      have e2 : wr.cell? ⟨b', off' + k * 3 + 2, none⟩ = some (.slice bao2 (x k).bytes.1 bcap2) := hcell' 2 (by decide)
      have C1 := eqThing_is _ _ (x k) h1 h2 (wr.drewN 1) hrk hrk' (Nat.le_trans u1 hb.size) (Nat.le_trans u2 hb.size)
      clear hc hc' hel hel' hcell hcell' hrk hrk'
      go_wp2
      go_region_with (go_at_call 26; refine C1.mono ?_; rintro ee w2 ⟨rfl, hb2⟩)
      all_goals
        have R' : Below w.heap.size w w2 := hb.trans ((below_drewN (Below.refl wr.heap.size wr) 1).trans hb2 |>.mono hb.size)
        clear hb2
        go_wp2
        go_roundw
        case rel => exact ⟨k + 1, by omega, by go_num, R'⟩
        case measure => simp [intOf]; omega
    · obtain rfl : k = n := by omega
      go_wp2
      go_ret
      exact ⟨rfl, hb⟩
end Go.Proofs.Ytapnjoophlckoaa
