/- Walks: marks of things. -/
import Derived.Test.YtapnjoophlckoaaMarkT2
import Derived.Test.YtapnjoophlckoaaCellsT
namespace Go.Proofs.Ytapnjoophlckoaa
open Go.RowKit F256
set_option linter.unusedVariables false
set_option linter.unusedSimpArgs false
set_option maxHeartbeats 8000000 in
theorem markThingS_is : MkS (layThing.slice 40) (cSl cThingD) (mkSl cThingD mkThingD) 13 := fun v d L j w h nd hj => by
  obtain ⟨n, x⟩ := d
  by_cases h0 : n = 0
  · subst h0
    have hown : (layThing.slice 40).own w (mkSl cThingD mkThingD j (0, x)) [v] L := slice_congr h rfl (fun i hi => absurd hi (Nat.not_lt_zero i))
    obtain ⟨ao, cap, hv⟩ := sl_formO h
    obtain rfl := one_eq hv
    clear h hv
    go_enter Try.func13, Try.ntmps13
    go_wp2
    go_loopw [1, 5] (fun y i wr => y = .int .i64 j ∧ i = .int .i64 0 ∧ wr = w) (fun _ _ _ => 0)
    case atStart => exact ⟨rfl, rfl, rfl⟩
    case round =>
      obtain ⟨rfl, rfl, rfl⟩ := hrel
      go_wp2
      go_ret
      exact ⟨ret_eq (by simp [cSl, sumN]), hown, ChgL.refl _ _⟩
  · obtain ⟨g, cap, ce, Ls, hv, rfl, so⟩ := slice_form h h0
    obtain rfl := one_eq hv
    obtain ⟨_, _, _, hm, _⟩ := (layThing.slice 40).own_rd (hi := w.heap.size) h ((layThing.slice 40).own_lt h)
    simp only at hm
    unfold maxLen at hm
    clear h hv
    simp only at so nd
    have hj' : j + sumN (fun i => cThingD (x i)) n ≤ 100000000 := hj
    clear hj
    have ND : Hid ((g :: catN n Ls).Nodup) := nd
    clear nd
    go_enter Try.func13, Try.ntmps13
    go_wp2
    go_loopw [1, 5] (fun y i wr => ∃ k : Nat, k ≤ n ∧ i = .int .i64 k ∧ y = .int .i64 ((j + sumN (fun i => cThingD (x i)) k : Nat) : Int) ∧ ∃ ce, SlO layThing 40 wr g cap n (mkTo cThingD mkThingD j x k) ce Ls ∧ ChgL (g :: catN n Ls) w wr) (fun _ i _ => n - (intOf i).toNat)
    case atStart => exact ⟨0, Nat.zero_le _, rfl, rfl, ce, by rw [mkTo_zero]; exact so, ChgL.refl _ _⟩
    case round =>
      clear so
      obtain ⟨k, hk, rfl, rfl, ce, so, ch⟩ := hrel
      by_cases hlt : k < n
      · have S0 := so.at_ k
        rw [mkTo_at] at S0
        obtain ⟨ao2, cap2, K2, hcs, hL, o2, k0⟩ := Thing_own (S0.own hlt)
        rw [hcs] at S0
        have HL : Hid (Ls k = K2) := hL
        have hgn := not_in ND.out hlt
        have hnd := nodup_at ND.out k hlt
        rw [hL] at hgn hnd
        have hs1 : sumN (fun i => cThingD (x i)) (k + 1) ≤ sumN (fun i => cThingD (x i)) n := sumN_mono _ (show k + 1 ≤ n from hlt)
        rw [sumN_succ] at hs1
        obtain ⟨J, hJ⟩ : ∃ J, J = j + sumN (fun i => cThingD (x i)) k := ⟨_, rfl⟩
        have hJb : J + cThingD (x k) ≤ 100000000 := by omega
        have HJ : Hid (J = j + sumN (fun i => cThingD (x i)) k) := hJ
        rw [← hJ]
        clear hs1 hJ hL hcs so
        unfold cThingD at hJb
        have CH : Hid (ChgL (g :: catN n Ls) w wr) := ch
        clear ch
        have O2 : Hid (layBytes.own wr (x k).bytes [.slice ao2 (x k).bytes.1 cap2] K2) := o2
        clear o2
        have Q0 : Hid ((x k).name.size ≤ maxLen) := k0
        clear k0
        have hb3 : (((J : Int) + 1) % 3 == 0) = decide ((J + 1) % 3 = 0) := b3_eq1 J
        have c0_0 : wr.cell? ⟨g, k * 3, none⟩ = some (.string (x k).name) := S0.cell hlt (show 0 < layThing.sz by decide)
        have f0_0 := S0.frozen (k * 3)
        have c0_1 : wr.cell? ⟨g, k * 3 + 1, none⟩ = some (.bool (x k).lost) := S0.cell hlt (show 1 < layThing.sz by decide)
        have f0_1 := S0.frozen (k * 3 + 1)
        have c0_2 : wr.cell? ⟨g, k * 3 + 2, none⟩ = some (.slice ao2 (x k).bytes.1 cap2) := S0.cell hlt (show 2 < layThing.sz by decide)
        have f0_2 := S0.frozen (k * 3 + 2)
        go_wp2_with fail
        refine (markTextZ_any (J) (by omega) _).mono ?_
        rintro e wt ⟨rfl, bt⟩
        have OO1_2 : Hid (layBytes.own wt (x k).bytes [.slice ao2 (x k).bytes.1 cap2] K2) := layBytes.own_kept (O2.out) (fun b hb => bt.block b (layBytes.own_lt (O2.out) b hb))
        have S1t : SlK layThing 40 wt g cap n (mkTo cThingD mkThingD j x k) ce Ls k ⟨(x k).name, (x k).lost, (x k).bytes⟩ [.string (x k).name, .bool (x k).lost, .slice ao2 (x k).bytes.1 cap2] := SlO.kept S0 (fun b hb => bt.block b (SlO.mem_lt S0 b hb))
        have CH1 : Hid (ChgL (g :: catN n Ls) w wt) := (CH.out).trans (ChgL.of_below bt)
        have c1_0 : wt.cell? ⟨g, k * 3, none⟩ = some (.string (x k).name) := S1t.cell hlt (show 0 < layThing.sz by decide)
        have f1_0 := S1t.frozen (k * 3)
        have c1_1 : wt.cell? ⟨g, k * 3 + 1, none⟩ = some (.bool (x k).lost) := S1t.cell hlt (show 1 < layThing.sz by decide)
        have f1_1 := S1t.frozen (k * 3 + 1)
        have c1_2 : wt.cell? ⟨g, k * 3 + 2, none⟩ = some (.slice ao2 (x k).bytes.1 cap2) := S1t.cell hlt (show 2 < layThing.sz by decide)
        have f1_2 := S1t.frozen (k * 3 + 2)
        clear bt
        go_wp2_with fail
        have S1 : SlK layThing 40 (wt.setCell ⟨g, k * 3, none⟩ (.string (markZ (J)))) g cap n (mkTo cThingD mkThingD j x k) ce Ls k ⟨(markZ (J)), (x k).lost, (x k).bytes⟩ [.string (markZ (J)), .bool (x k).lost, .slice ao2 (x k).bytes.1 cap2] := S1t.store ND.out hlt (show 0 < layThing.sz by decide) (.string (markZ (J))) (by rw [HL.out]; exact Thing_mk ⟨(markZ (J)), (x k).lost, (x k).bytes⟩ (OO1_2.out) (markZ_le (J)))
        have S2 : SlK layThing 40 ((wt.setCell ⟨g, k * 3, none⟩ (.string (markZ (J)))).setCell ⟨g, k * 3 + 1, none⟩ (.bool (decide ((J + 1) % 3 = 0)))) g cap n (mkTo cThingD mkThingD j x k) ce Ls k ⟨(markZ (J)), (decide ((J + 1) % 3 = 0)), (x k).bytes⟩ [.string (markZ (J)), .bool (decide ((J + 1) % 3 = 0)), .slice ao2 (x k).bytes.1 cap2] := S1.store ND.out hlt (show 1 < layThing.sz by decide) (.bool (decide ((J + 1) % 3 = 0))) (by rw [HL.out]; exact Thing_mk ⟨(markZ (J)), (decide ((J + 1) % 3 = 0)), (x k).bytes⟩ (own_setg (OO1_2.out) hgn) (markZ_le (J)))
        refine (markBytes_is _ (x k).bytes K2 (J + 2) _ (own_setg (own_setg (OO1_2.out) hgn) hgn) hnd (by omega)).mono ?_
        rintro e v2 ⟨rfl, p2, q2⟩
        have OO2_2 : Hid (layBytes.own v2 (mkBytes (J + 2) (x k).bytes) [.slice ao2 (x k).bytes.1 cap2] K2) := p2
        have SUB2 : ∀ b, b ∈ K2 → b ∈ Ls k := fun b hb => by rw [HL.out]; exact hb
        have S3 : SlK layThing 40 v2 g cap n (mkTo cThingD mkThingD j x k) ce Ls k ⟨(markZ (J)), (decide ((J + 1) % 3 = 0)), (mkBytes (J + 2) (x k).bytes)⟩ [.string (markZ (J)), .bool (decide ((J + 1) % 3 = 0)), .slice ao2 (x k).bytes.1 cap2] := S2.into ND.out hlt (q2.mono (SUB2)) (by rw [HL.out]; exact Thing_mk ⟨(markZ (J)), (decide ((J + 1) % 3 = 0)), (mkBytes (J + 2) (x k).bytes)⟩ (OO2_2.out) (markZ_le (J)))
        have CH2 : Hid (ChgL (g :: catN n Ls) w v2) := (((CH1.out).st g _ _ (List.mem_cons_self ..)).st g _ _ (List.mem_cons_self ..)).sub q2 (fun b hb => SlO.sub k hlt b ((SUB2) b hb))
        have FS : SlO layThing 40 v2 g cap n (upd (mkTo cThingD mkThingD j x k) k (mkThingD J (x k))) (upd ce k [.string (markZ (J)), .bool (decide ((J + 1) % 3 = 0)), .slice ao2 (x k).bytes.1 cap2]) Ls := S3
        rw [HJ.out, mkTo_next] at FS
        have FS' : Hid (∃ ce, SlO layThing 40 v2 g cap n (mkTo cThingD mkThingD j x (k + 1)) ce Ls) := ⟨_, FS⟩
        clear FS p2 q2
        go_wp2_with fail
        go_roundw
        case rel =>
          obtain ⟨ce', FS⟩ := FS'.out
          exact ⟨k + 1, by omega, by go_num, val_eq (by
            have e1 := HJ.out
            have e2 : sumN (fun i => cThingD (x i)) (k + 1) = sumN (fun i => cThingD (x i)) k + cThingD (x k) := rfl
            have e3 : cThingD (x k) = 2 + lenD (x k).bytes := rfl
            omega), ce', FS, CH2.out⟩
        case measure => simp [intOf]; omega
      · obtain rfl : k = n := by omega
        go_wp2
        go_ret
        exact ⟨rfl, (so.congr (fun i hi => mkTo_done cThingD mkThingD j x k i hi)).own, ch⟩
end Go.Proofs.Ytapnjoophlckoaa
