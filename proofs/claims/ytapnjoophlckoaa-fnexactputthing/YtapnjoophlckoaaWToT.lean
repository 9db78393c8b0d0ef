/- Walks: copies of things. -/
import Derived.Test.YtapnjoophlckoaaCellsT
namespace Go.Proofs.Ytapnjoophlckoaa
open Go.RowKit F256
set_option linter.unusedVariables false
set_option linter.unusedSimpArgs false
set_option maxHeartbeats 8000000 in
set_option maxRecDepth 20000 in
theorem toThing_is : ToV layThing szThingD 21 := fun cs d hi w r hhi hn => by
  obtain ⟨ao2, cap2, rfl, h2, k0⟩ := Thing_rd r
  clear r
  unfold szThingD at hn
  have R2 : Hid (layBytes.rd w hi d.bytes [.slice ao2 d.bytes.1 cap2]) := h2
  clear h2
  have Q0 : Hid (d.name.size ≤ maxLen) := k0
  clear k0
  go_enter Try.func21, Try.ntmps21
  go_wp2_with fail
  have T0 := three_newb w #[.string d.name, .bool d.lost, .slice ao2 d.bytes.1 cap2] #[.string ByteArray.empty, .bool false, .slice none 0 0] #[.string d.name, .bool d.lost, .slice none 0 0] 39 40 40
  refine (toBytes_is _ d.bytes hi _ (layBytes.rd_below R2.out T0.bel hhi) (Nat.le_trans hhi T0.bel.size) (by omega)).mono ?_
  rintro e w1 ⟨v1, rfl, o1, b1⟩
  have L1 := T0.lt
  obtain ⟨bo2, bcap2, hv⟩ := bytes_formT o1
  obtain rfl := one_eq hv
  clear hv
  have T1 : Three w w1 #[.string d.name, .bool d.lost, .slice ao2 d.bytes.1 cap2] #[.string ByteArray.empty, .bool false, .slice none 0 0] #[.string d.name, .bool d.lost, .slice none 0 0] 39 40 40 := T0.call b1
  have O2 : Hid (OwnT layBytes w1 (w.heap.size + 1 + 1 + 1) (w1.heap.size) d.bytes [.slice bo2 d.bytes.1 bcap2]) := o1.weaken (by simp <;> omega) (Nat.le_refl _)
  clear o1
  have LT1 : w.heap.size + 1 + 1 + 1 ≤ w1.heap.size := T1.lt
  have y1_0 : w1.cell? ⟨w.heap.size + 1 + 1, 0, none⟩ = some (.string d.name) := T1.b3.cell 0
  have y1_1 : w1.cell? ⟨w.heap.size + 1 + 1, 1, none⟩ = some (.bool d.lost) := T1.b3.cell 1
  have y1_2 : w1.cell? ⟨w.heap.size + 1 + 1, 2, none⟩ = some (.slice none 0 0) := T1.b3.cell 2
  have yf1_2 : w1.frozen? ⟨w.heap.size + 1 + 1, 2, none⟩ = false := T1.b3.frozen 2
  have z1_0 : w1.cell? ⟨w.heap.size + 1, 0, none⟩ = some (.string ByteArray.empty) := T1.b2.cell 0
  have zf1_0 : w1.frozen? ⟨w.heap.size + 1, 0, none⟩ = false := T1.b2.frozen 0
  have z1_1 : w1.cell? ⟨w.heap.size + 1, 1, none⟩ = some (.bool false) := T1.b2.cell 1
  have zf1_1 : w1.frozen? ⟨w.heap.size + 1, 1, none⟩ = false := T1.b2.frozen 1
  have z1_2 : w1.cell? ⟨w.heap.size + 1, 2, none⟩ = some (.slice none 0 0) := T1.b2.cell 2
  have zf1_2 : w1.frozen? ⟨w.heap.size + 1, 2, none⟩ = false := T1.b2.frozen 2
  have Bq : Hid (Below w.heap.size w w1) := T1.bel
  clear T1 b1
  go_wp2
  refine bodyPost_ret (v := .agg #[.string d.name, .bool d.lost, .slice bo2 d.bytes.1 bcap2]) (by simp [results, Try.results21, go_sem, y1_0, z1_0, y1_1, z1_1, y1_2, z1_2]) rfl ?_
  have F : OwnT layThing w1 (w.heap.size + 1 + 1 + 1) w1.heap.size d ([.string d.name] ++ ([.bool d.lost] ++ [.slice bo2 d.bytes.1 bcap2])) := OwnT.conv (OwnT.pre (A := layS) (a := d.name) (c := [.string d.name]) ⟨rfl, Q0.out, rfl⟩ (OwnT.pre (A := layB) (a := d.lost) (c := [.bool d.lost]) ⟨rfl, trivial, rfl⟩ (O2.out)))
  exact ⟨[.string d.name, .bool d.lost, .slice bo2 d.bytes.1 bcap2], rfl, OwnT.fin F 2 0 [.slice bo2 d.bytes.1 bcap2] [.string d.name, .bool d.lost, .slice bo2 d.bytes.1 bcap2] _ rfl, below_fin Bq.out 2 0 [.slice bo2 d.bytes.1 bcap2] [.string d.name, .bool d.lost, .slice bo2 d.bytes.1 bcap2] _ rfl⟩
theorem info_ThingS : (Try.prog.info? 40).map (fun i => (i.zero.map (·.cells), i.size, i.bytes)) = some (some #[.string ByteArray.empty, .bool false, .slice none 0 0], 3, 48) := by kernel_rfl
set_option maxHeartbeats 4000000 in
theorem toThingS_is : ToS (layThing.slice 40) (szSl szThingD) 8 := fun v d hi w h hhi hn => by
  obtain ⟨n, x⟩ := d
  obtain ⟨ao, cap, hv, hm, hc⟩ := h
  cases hv
  have hn1 := szSl_n hn
  have hn2 : ∀ i, i < n → szThingD (x i) ≤ 1048576 := fun i hi => szSl_at hn hi
  simp only at hn1 hm hc
  clear hn
  go_enter Try.func8, Try.ntmps8
  go_wp2_with (at_make; refine wp_makeT layThing [.string ByteArray.empty, .bool false, .slice none 0 0] _ 40 48 (by decide) rfl Try.underlying25 info_ThingS x (fun _ => []) _ rfl _ _ rfl _ _ n rfl rfl rfl rfl (by omega) (by omega) ?_; intro w1 sp1 hb1)
  go_loopw [4] (fun i wr => ∃ k : Nat, k ≤ n ∧ i = .int .i64 k ∧ ∃ ce Ls, SlP layThing 40 wr w.heap.size w.heap.size n n k x ce Ls ∧ Below w.heap.size w wr) (fun i _ => n - (intOf i).toNat)
  case atStart => exact ⟨0, Nat.zero_le _, rfl, _, _, sp1, hb1⟩
  case round =>
    clear sp1 hb1
    obtain ⟨k, hk, rfl, ce, Ls, sp, hb⟩ := hrel
    by_cases hlt : k < n
    · obtain ⟨b, off, rfl, hblt, hel⟩ := hc (by omega)
      obtain ⟨ck, hrk, hcell⟩ := elem_rd (t := 0) hel hb hhi hblt hlt
      obtain ⟨ao2, cap2, rfl, -⟩ := Thing_rd hrk
      have c0 : wr.cell? ⟨b, off + k * 3, none⟩ = some (.string (x k).name) := hcell 0 (by decide)
      have c1 : wr.cell? ⟨b, off + k * 3 + 1, none⟩ = some (.bool (x k).lost) := hcell 1 (by decide)
      have c2 : wr.cell? ⟨b, off + k * 3 + 2, none⟩ = some (.slice ao2 (x k).bytes.1 cap2) := hcell 2 (by decide)
      clear hc hel hcell
      go_wp2_with fail
      refine (toThing_is _ (x k) hi wr hrk (Nat.le_trans hhi hb.size) (hn2 k hlt)).mono ?_
      rintro e w2 ⟨cs', rfl, o2, hb2⟩
      obtain ⟨bao2, bcap2, rfl⟩ := Thing_cells o2
      obtain ⟨z0, s0⟩ := sp.some hb2 hlt (show 0 < layThing.sz by decide)
      have s0 : w2.cell? ⟨w.heap.size, k * 3, none⟩ = some z0 := s0
      have sf0 := (sp.below hb2).frozen (k * 3)
      obtain ⟨z1, s1⟩ := sp.some hb2 hlt (show 1 < layThing.sz by decide)
      have s1 : w2.cell? ⟨w.heap.size, k * 3 + 1, none⟩ = some z1 := s1
      have sf1 := (sp.below hb2).frozen (k * 3 + 1)
      obtain ⟨z2, s2⟩ := sp.some hb2 hlt (show 2 < layThing.sz by decide)
      have s2 : w2.cell? ⟨w.heap.size, k * 3 + 2, none⟩ = some z2 := s2
      have sf2 := (sp.below hb2).frozen (k * 3 + 2)
      have N := sp.next hb2 hlt o2 hb.size
      have N2 : Below w.heap.size w (stN w2 w.heap.size (k * layThing.sz) [.string (x k).name, .bool (x k).lost, .slice bao2 (x k).bytes.1 bcap2]) := (hb.trans (hb2.mono hb.size)).trans (stN_below (Nat.le_refl _) _ _)
      clear o2 hb2 sp hb
      go_wp2_with fail
      go_roundw
      case rel =>
        obtain ⟨ce', Ls', N⟩ := N
        exact ⟨k + 1, by omega, by go_num, ce', Ls', N, N2⟩
      case measure => simp [intOf]; omega
    · obtain rfl : k = n := by omega
      go_wp2
      go_ret
      exact ⟨_, rfl, sp.done (Nat.le_refl _), hb⟩
end Go.Proofs.Ytapnjoophlckoaa
