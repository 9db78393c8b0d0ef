/- The places that are picked, in their order. -/
import Derived.Test.YtgbnibapkgbklaaGreatZiO
import Derived.Test.YtgbnibapkgbklaaGreatZiA
import Derived.Deep.DeepCutAuto
import Derived.Test.YtgbnibapkgbklaaGreatZjR
import Derived.Test.YtgbnibapkgbklaaGreatZiI
import Derived.Test.YtgbnibapkgbklaaGreatZiE
import Derived.Test.YtgbnibapkgbklaaGreatZiF
import Derived.Test.YtgbnibapkgbklaaGreatZiD
namespace Go.Proofs.YtgbnibapkgbklaaGreat
set_option linter.unusedVariables false
/-- the places of those that are pickI, of the first n -/
def pickI (p : Nat → Bool) (n : Nat) : List Nat := (List.range n).filter p
theorem pick_succ (p : Nat → Bool) (n : Nat) : pickI p (n + 1) = pickI p n ++ (if p n then [n] else []) := by
  unfold pickI
  rw [List.range_succ, List.filter_append]
  cases h : p n <;> simp [h]
theorem pick_lt {p : Nat → Bool} {n i : Nat} (h : i ∈ pickI p n) : i < n := by
  unfold pickI at h
  exact List.mem_range.1 (List.mem_filter.1 h).1
theorem pick_le (p : Nat → Bool) (n : Nat) : (pickI p n).length ≤ n := by
  have := List.length_filter_le p (List.range n)
  unfold pickI
  simpa using this
def pickF (p : Nat → Bool) (n : Nat) : Nat → Nat := fun m => (pickI p n).getD m 0
theorem pickF_mem {p : Nat → Bool} {n m : Nat} (h : m < (pickI p n).length) : pickF p n m ∈ pickI p n := by
  unfold pickF
  rw [List.getD_eq_getElem?_getD, List.getElem?_eq_getElem h]
  exact List.getElem_mem h
theorem pickF_lt {p : Nat → Bool} {n m : Nat} (h : m < (pickI p n).length) : pickF p n m < n := pick_lt (pickF_mem h)
/-- the first k of the pickI places do not hang on what comes behind -/
theorem pickF_more {p : Nat → Bool} {n m : Nat} (h : m < (pickI p n).length) : pickF p (n + 1) m = pickF p n m := by
  unfold pickF
  rw [pick_succ, List.getD_eq_getElem?_getD, List.getD_eq_getElem?_getD, List.getElem?_append_left h]
theorem pickF_last {p : Nat → Bool} {n : Nat} (h : p n = true) : pickF p (n + 1) (pickI p n).length = n := by
  unfold pickF
  rw [pick_succ, List.getD_eq_getElem?_getD, List.getElem?_append_right (Nat.le_refl _), Nat.sub_self, if_pos h]
  rfl
theorem pick_skip {p : Nat → Bool} {n : Nat} (h : p n = false) : pickI p (n + 1) = pickI p n := by rw [pick_succ, if_neg (by simp [h])]; simp
end Go.Proofs.YtgbnibapkgbklaaGreat

namespace Go.Proofs.YtgbnibapkgbklaaGreat
open Go.RowKit F256
set_option linter.unusedVariables false
set_option linter.unusedSimpArgs false
/-- how many of the first n drives are wiped -/
def wipedN (x : Nat → DriveD) : Nat → Nat
  | 0 => 0
  | n + 1 => wipedN x n + (if (x n).wiped = true then 1 else 0)
theorem wipedN_le (x : Nat → DriveD) : ∀ n, wipedN x n ≤ n
  | 0 => Nat.le_refl _
  | n + 1 => by
    have := wipedN_le x n
    unfold wipedN
    split <;> omega
def DeadP (d : WorldD) (G : Nat) : Prop := d.shape 3 < (wipedN (d.groups.2 G).2 (d.groups.2 G).1 : Int)
set_option maxHeartbeats 8000000 in
set_option maxRecDepth 20000 in
theorem isDead_any (d : WorldD) (cs : List Value) (hi : Nat) (G : Nat) (w : World) (h : layWorld.rd w hi d cs) (hhi : hi ≤ w.heap.size) (hG : G < d.groups.1) :
    Calls Tryz.prog 29 #[.agg cs.toArray, .int .i64 (G : Int)] w (BoolP (DeadP d G) w) := by
  obtain ⟨ao1, cap1, ao2, cap2, ao3, cap3, rfl, g1, g2, g3, k0, k4, k5⟩ := World_rd h
  obtain ⟨_, _, e1, hm1, hc1⟩ := g1
  cases e1
  obtain ⟨b1, off1, he1, hb1, hel1⟩ := hc1 (by omega)
  subst he1
  obtain ⟨cg, hrg, hcg⟩ := hel1 G hG
  obtain ⟨ao9, cap9, rfl⟩ := sl_form hrg
  have c0 : w.cell? ⟨b1, off1 + G, none⟩ = some (.slice ao9 (d.groups.2 G).1 cap9) := by
    have := hcg 0 (by decide)
    have e : off1 + (G * (layDrive.slice 88).sz + 0) = off1 + G := by show off1 + (G * 1 + 0) = off1 + G; omega
    rw [e] at this
    exact this
  obtain ⟨_, _, e9, hm9, hc9⟩ := hrg
  cases e9
  unfold maxLen at hm9
  have i1 : (0 : Int) ≤ (G : Int) := by omega
  have i2 : (G : Int) < (d.groups.1 : Int) := by omega
  clear g2 g3 k0 k4 k5 hcg hel1 hc1 hm1
  have T0 := one_new w #[.int .i64 (d.shape 0), .int .i64 (d.shape 1), .int .i64 (d.shape 2), .int .i64 (d.shape 3), .int .i64 (d.shape 4), .int .i64 (d.shape 5), .int .i64 (d.shape 6), .int .i64 (d.shape 7), .int .i64 (d.shape 8), .slice (some ⟨b1, off1, none⟩) d.groups.1 cap1, .slice ao2 d.on.1 cap2, .slice ao3 d.tapes.1 cap3, .int .i64 d.writes, .int .i64 d.stop, .bool d.down] 37
  have x9 := T0.b1.cell 9
  have c0' := (T0.bel.cell (p := ⟨b1, off1 + G, none⟩) (by show b1 < w.heap.size; omega)).trans c0
  go_enter Tryz.func29, Tryz.ntmps29
  go_wp2
  go_loopw [5, 14] (fun v i wr => ∃ k : Nat, k ≤ (d.groups.2 G).1 ∧ i = .int .i64 k ∧ v = .int .i64 (wipedN (d.groups.2 G).2 k : Int) ∧ One w wr #[.int .i64 (d.shape 0), .int .i64 (d.shape 1), .int .i64 (d.shape 2), .int .i64 (d.shape 3), .int .i64 (d.shape 4), .int .i64 (d.shape 5), .int .i64 (d.shape 6), .int .i64 (d.shape 7), .int .i64 (d.shape 8), .slice (some ⟨b1, off1, none⟩) d.groups.1 cap1, .slice ao2 d.on.1 cap2, .slice ao3 d.tapes.1 cap3, .int .i64 d.writes, .int .i64 d.stop, .bool d.down] 37) (fun _ i _ => (d.groups.2 G).1 - (intOf i).toNat)
  case atStart => exact ⟨0, Nat.zero_le _, rfl, rfl, T0⟩
  case round =>
    clear T0 x9 c0'
    obtain ⟨k, hk, rfl, rfl, T⟩ := hrel
    have HT : Hid (One w wr #[.int .i64 (d.shape 0), .int .i64 (d.shape 1), .int .i64 (d.shape 2), .int .i64 (d.shape 3), .int .i64 (d.shape 4), .int .i64 (d.shape 5), .int .i64 (d.shape 6), .int .i64 (d.shape 7), .int .i64 (d.shape 8), .slice (some ⟨b1, off1, none⟩) d.groups.1 cap1, .slice ao2 d.on.1 cap2, .slice ao3 d.tapes.1 cap3, .int .i64 d.writes, .int .i64 d.stop, .bool d.down] 37) := T
    have x3 : wr.cell? ⟨w.heap.size, 3, none⟩ = some (.int .i64 (d.shape 3)) := T.b1.cell 3
    have hwk := wipedN_le (d.groups.2 G).2 k
    by_cases hlt : k < (d.groups.2 G).1
    · have t1 : (k : Int) < ((d.groups.2 G).1 : Int) := by omega
      obtain ⟨b, off, rfl, hblt, hcell⟩ := hc9 (by omega)
      obtain ⟨cd, hrd, hcd⟩ := hcell k hlt
      obtain ⟨ao5, cap5, rfl, g5⟩ := Drive_rd hrd
      have c2 : wr.cell? ⟨b, off + k * 2, none⟩ = some (.bool ((d.groups.2 G).2 k).wiped) := (T.bel.cell (p := ⟨b, off + k * 2, none⟩) (by show b < w.heap.size; omega)).trans (hcd 0 (by decide))
      have c3 : wr.cell? ⟨b, off + k * 2 + 1, none⟩ = some (.slice ao5 ((d.groups.2 G).2 k).blocks.1 cap5) := (T.bel.cell (p := ⟨b, off + k * 2 + 1, none⟩) (by show b < w.heap.size; omega)).trans (hcd 1 (by decide))
      obtain ⟨D, hD⟩ : ∃ D, D = (d.groups.2 G).2 k := ⟨_, rfl⟩
      have HD : Hid (D = (d.groups.2 G).2 k) := hD
      rw [← hD] at c2 c3
      obtain ⟨m, hm⟩ : ∃ m, m = wipedN (d.groups.2 G).2 k := ⟨_, rfl⟩
      have HM : Hid (m = wipedN (d.groups.2 G).2 k) := hm
      rw [← hm] at hwk ⊢
      have HT9 : Hid (One w (wr.alloc (.cells #[.bool D.wiped, .slice ao5 D.blocks.1 cap5] 88)) #[.int .i64 (d.shape 0), .int .i64 (d.shape 1), .int .i64 (d.shape 2), .int .i64 (d.shape 3), .int .i64 (d.shape 4), .int .i64 (d.shape 5), .int .i64 (d.shape 6), .int .i64 (d.shape 7), .int .i64 (d.shape 8), .slice (some ⟨b1, off1, none⟩) d.groups.1 cap1, .slice ao2 d.on.1 cap2, .slice ao3 d.tapes.1 cap3, .int .i64 d.writes, .int .i64 d.stop, .bool d.down] 37) := HT.out.call ((Below.refl _ _).alloc (Nat.le_refl _) _)
      clear hc9 hcell hcd hrd g5 T hD hm x3
      cases hw : D.wiped with
      | true =>
        rw [hw] at c2 HT9
        have HW : Hid (D.wiped = true) := hw
        have zz : IntKind.i64.wrap ((m : Int) + 1) = (m : Int) + 1 := by rw [IntKind.wrap_i64]; omega
        clear hw
        go_wp2
        go_roundw
        case rel => exact ⟨k + 1, by omega, by go_num, by
          have e : wipedN (d.groups.2 G).2 (k + 1) = m + 1 := by
            show wipedN (d.groups.2 G).2 k + (if ((d.groups.2 G).2 k).wiped = true then 1 else 0) = m + 1
            rw [← HD.out, if_pos HW.out, ← HM.out]
          rw [e]; go_num, HT9.out⟩
        case measure => simp [intOf]; omega
      | false =>
        rw [hw] at c2 HT9
        have HW : Hid (D.wiped = false) := hw
        clear hw
        go_wp2
        go_roundw
        case rel => exact ⟨k + 1, by omega, by go_num, by
          have e : wipedN (d.groups.2 G).2 (k + 1) = m := by
            show wipedN (d.groups.2 G).2 k + (if ((d.groups.2 G).2 k).wiped = true then 1 else 0) = m
            rw [← HD.out, if_neg (by rw [HW.out]; decide), ← HM.out]; rfl
          rw [e], HT9.out⟩
        case measure => simp [intOf]; omega
    · obtain rfl : k = (d.groups.2 G).1 := by omega
      clear hlt T hc9
      by_cases hd : d.shape 3 < (wipedN (d.groups.2 G).2 (d.groups.2 G).1 : Int)
      · have HD : Hid (DeadP d G) := hd
        have dd : decide (d.shape 3 < (wipedN (d.groups.2 G).2 (d.groups.2 G).1 : Int)) = true := decide_eq_true hd
        clear hd
        go_wp2
        go_ret
        exact boolYes rfl HD.out HT.out.bel
      · have HD : Hid (¬ DeadP d G) := hd
        have dd : decide (d.shape 3 < (wipedN (d.groups.2 G).2 (d.groups.2 G).1 : Int)) = false := decide_eq_false hd
        clear hd
        go_wp2
        go_ret
        exact boolNo rfl HD.out HT.out.bel
set_option maxHeartbeats 8000000 in
set_option maxRecDepth 20000 in
theorem l7Dead_any (d : WorldD) (cs : List Value) (hi B : Nat) (G : Nat) (w : World) (h : layWorld.rd w hi d cs) (hhi : hi ≤ w.heap.size) (hB : Box w B cs.toArray 37) (hG : G < d.groups.1) :
    Calls Tryz.prog 22 #[.pointer (some ⟨B, 0, none⟩), .int .i64 (G : Int)] w (BoolP (DeadP d G) w) := by
  obtain ⟨ao1, cap1, ao2, cap2, ao3, cap3, rfl, g1, g2, g3, k0, k4, k5⟩ := World_rd h
  obtain ⟨_, _, e1, hm1, hc1⟩ := g1
  cases e1
  obtain ⟨b1, off1, he1, hb1, hel1⟩ := hc1 (by omega)
  subst he1
  obtain ⟨cg, hrg, hcg⟩ := hel1 G hG
  obtain ⟨ao9, cap9, rfl⟩ := sl_form hrg
  have c0 : w.cell? ⟨b1, off1 + G, none⟩ = some (.slice ao9 (d.groups.2 G).1 cap9) := by
    have := hcg 0 (by decide)
    have e : off1 + (G * (layDrive.slice 88).sz + 0) = off1 + G := by show off1 + (G * 1 + 0) = off1 + G; omega
    rw [e] at this
    exact this
  obtain ⟨_, _, e9, hm9, hc9⟩ := hrg
  cases e9
  unfold maxLen at hm9
  have i1 : (0 : Int) ≤ (G : Int) := by omega
  have i2 : (G : Int) < (d.groups.1 : Int) := by omega
  clear g2 g3 k0 k4 k5 hcg hel1 hc1 hm1
  have x9 : w.cell? ⟨B, 9, none⟩ = some (.slice (some ⟨b1, off1, none⟩) d.groups.1 cap1) := hB.cell 9
  have x3 : w.cell? ⟨B, 3, none⟩ = some (.int .i64 (d.shape 3)) := hB.cell 3
  clear hB
  go_enter Tryz.func22, Tryz.ntmps22
  go_wp2
  go_loopw [5, 6] (fun v i wr => ∃ k : Nat, k ≤ (d.groups.2 G).1 ∧ i = .int .i64 k ∧ v = .int .i64 (wipedN (d.groups.2 G).2 k : Int) ∧ wr = w) (fun _ i _ => (d.groups.2 G).1 - (intOf i).toNat)
  case atStart => exact ⟨0, Nat.zero_le _, rfl, rfl, rfl⟩
  case round =>
    obtain ⟨k, hk, rfl, rfl, e⟩ := hrel
    obtain rfl := e.symm
    have hwk := wipedN_le (d.groups.2 G).2 k
    by_cases hlt : k < (d.groups.2 G).1
    · have t1 : (k : Int) < ((d.groups.2 G).1 : Int) := by omega
      obtain ⟨b, off, rfl, hblt, hcell⟩ := hc9 (by omega)
      obtain ⟨cd, hrd, hcd⟩ := hcell k hlt
      obtain ⟨ao5, cap5, rfl, g5⟩ := Drive_rd hrd
      have c2 : w.cell? ⟨b, off + k * 2, none⟩ = some (.bool ((d.groups.2 G).2 k).wiped) := hcd 0 (by decide)
      obtain ⟨D, hD⟩ : ∃ D, D = (d.groups.2 G).2 k := ⟨_, rfl⟩
      have HD : Hid (D = (d.groups.2 G).2 k) := hD
      rw [← hD] at c2
      obtain ⟨m, hm⟩ : ∃ m, m = wipedN (d.groups.2 G).2 k := ⟨_, rfl⟩
      have HM : Hid (m = wipedN (d.groups.2 G).2 k) := hm
      rw [← hm] at hwk ⊢
      clear hc9 hcell hcd hrd g5 hD hm
      cases hw : D.wiped with
      | true =>
        rw [hw] at c2
        have HW : Hid (D.wiped = true) := hw
        have zz : IntKind.i64.wrap ((m : Int) + 1) = (m : Int) + 1 := by rw [IntKind.wrap_i64]; omega
        clear hw
        go_wp2
        go_roundw
        case rel => exact ⟨k + 1, by omega, by go_num, by
          have e : wipedN (d.groups.2 G).2 (k + 1) = m + 1 := by
            show wipedN (d.groups.2 G).2 k + (if ((d.groups.2 G).2 k).wiped = true then 1 else 0) = m + 1
            rw [← HD.out, if_pos HW.out, ← HM.out]
          rw [e]; go_num, trivial⟩
        case measure => simp [intOf]; omega
      | false =>
        rw [hw] at c2
        have HW : Hid (D.wiped = false) := hw
        clear hw
        go_wp2
        go_roundw
        case rel => exact ⟨k + 1, by omega, by go_num, by
          have e : wipedN (d.groups.2 G).2 (k + 1) = m := by
            show wipedN (d.groups.2 G).2 k + (if ((d.groups.2 G).2 k).wiped = true then 1 else 0) = m
            rw [← HD.out, if_neg (by rw [HW.out]; decide), ← HM.out]; rfl
          rw [e], trivial⟩
        case measure => simp [intOf]; omega
    · obtain rfl : k = (d.groups.2 G).1 := by omega
      clear hlt hc9
      by_cases hd : d.shape 3 < (wipedN (d.groups.2 G).2 (d.groups.2 G).1 : Int)
      · have HD : Hid (DeadP d G) := hd
        have dd : decide (d.shape 3 < (wipedN (d.groups.2 G).2 (d.groups.2 G).1 : Int)) = true := decide_eq_true hd
        clear hd
        go_wp2
        go_ret
        exact boolYes rfl HD.out (Below.refl _ _)
      · have HD : Hid (¬ DeadP d G) := hd
        have dd : decide (d.shape 3 < (wipedN (d.groups.2 G).2 (d.groups.2 G).1 : Int)) = false := decide_eq_false hd
        clear hd
        go_wp2
        go_ret
        exact boolNo rfl HD.out (Below.refl _ _)
end Go.Proofs.YtgbnibapkgbklaaGreat

namespace Go.Proofs.YtgbnibapkgbklaaGreat
open Go.RowKit F256
set_option linter.unusedVariables false
set_option linter.unusedSimpArgs false
theorem pickF_at {p : Nat → Bool} {k : Nat} (hp : p k = true) : ∀ n, k < n → pickF p n (pickI p k).length = k ∧ (pickI p k).length < (pickI p n).length
  | 0, h => by omega
  | n + 1, h => by
    by_cases c : k = n
    · subst c
      exact ⟨pickF_last hp, by rw [pick_succ, if_pos hp]; simp⟩
    · obtain ⟨h1, h2⟩ := pickF_at hp n (by omega)
      exact ⟨(pickF_more h2).trans h1, by rw [pick_succ, List.length_append]; omega⟩
theorem pickF_le (p : Nat → Bool) (n i : Nat) : pickF p n i ≤ n := by
  by_cases h : i < (pickI p n).length
  · exact Nat.le_of_lt (pickF_lt h)
  · unfold pickF
    rw [List.getD_eq_getElem?_getD, List.getElem?_eq_none (by omega)]
    exact Nat.zero_le _
def deadB (d : WorldD) (G : Nat) : Bool := decide (d.shape 3 < (wipedN (d.groups.2 G).2 (d.groups.2 G).1 : Int))
theorem deadB_is (d : WorldD) (G : Nat) : deadB d G = true ↔ DeadP d G := by unfold deadB DeadP; simp
def deadsF (d : WorldD) : Nat → Int := fun i => (pickF (deadB d) d.groups.1 i : Int)
def DeadAns (d : WorldD) (q : GroupsResultD) : Prop := (∃ x, x ≠ 0 ∧ WldAns d x ∧ q = ⟨x, (0, fun _ => 0)⟩) ∨ (WldAns d 0 ∧ q = ⟨0, ((pickI (deadB d) d.groups.1).length, deadsF d)⟩)
theorem DeadAns.one {d : WorldD} {p q : GroupsResultD} (h : DeadAns d p) (k : DeadAns d q) : p = q := by
  rcases h with ⟨x, h1, h2, rfl⟩ | ⟨h1, rfl⟩ <;> rcases k with ⟨y, k1, k2, rfl⟩ | ⟨k1, rfl⟩
  · rw [h2.one k2]
  · exact absurd (h2.one k1) h1
  · exact absurd (k2.one h1) k1
  · rfl
def GrPost (P : GroupsResultD → Prop) (w : World) (e : Ending) (w' : World) : Prop := ∃ q cs, e = .returned (.agg cs.toArray) ∧ P q ∧ OwnT layGroupsResult w' w.heap.size w'.heap.size q cs ∧ Below w.heap.size w w'
theorem size_Gr : (Tryz.prog.info? 31).map (·.size) = some 2 := by kernel_rfl
theorem gres_own {w : World} {lo hi n cap : Nat} {ao : Option Addr} {f : Nat → Int} (h : OwnI w lo hi (.slice ao n cap) n f) (hhi : hi ≤ w.heap.size) (hb : ∀ i, -9223372036854775808 ≤ f i ∧ f i ≤ 9223372036854775807) (c : Int) (hc : -9223372036854775808 ≤ c ∧ c ≤ 9223372036854775807) : OwnT layGroupsResult w lo hi ⟨c, (n, f)⟩ [.int .i64 c, .slice ao n cap] :=
  ⟨(Value.slice ao n cap).ownBlock.toList, GroupsResult_mk ⟨c, (n, f)⟩ ⟨_, rfl, rfl, h.weaken (Nat.zero_le _) hhi, hb⟩ hc, by cases (Value.slice ao n cap).ownBlock <;> simp, fun b hb => by
    have e : (Value.slice ao n cap).ownBlock = some b := by simpa using hb
    exact ⟨(h.1.lt b e).1, h.2 b e⟩⟩
theorem gcode_own (w : World) (c : Int) (hc : -9223372036854775808 ≤ c ∧ c ≤ 9223372036854775807) (lo hi : Nat) (hhi : hi ≤ w.heap.size) : OwnT layGroupsResult w lo hi ⟨c, (0, fun _ => 0)⟩ [.int .i64 c, .slice none 0 0] := gres_own (ownI_nil w lo hi _) hhi (fun _ => by decide) c hc
theorem deadsF_in {d : WorldD} (h : OkWorld d) (i : Nat) : -9223372036854775808 ≤ deadsF d i ∧ deadsF d i ≤ 9223372036854775807 := by
  have h1 := pickF_le (deadB d) d.groups.1 i
  have h2 := h.form.1.1
  obtain ⟨s1, s2, _⟩ := h.shape
  unfold Shp3 at s1
  unfold deadsF
  omega
set_option maxHeartbeats 16000000 in
set_option maxRecDepth 20000 in
theorem implDead_any (d : WorldD) (cs : List Value) (hi : Nat) (w : World) (h : layWorld.rd w hi d cs) (hhi : hi ≤ w.heap.size) (hsz : szWorldD d ≤ 1048576) :
    Calls Tryz.prog 8 #[.agg cs.toArray] w (GrPost (DeadAns d) w) := by
  have h' := h
  obtain ⟨ao1, cap1, ao2, cap2, ao3, cap3, rfl, g1, g2, g3, k0, k4, k5⟩ := World_rd h'
  have HRD : Hid (layWorld.rd w hi d [.int .i64 (d.shape 0), .int .i64 (d.shape 1), .int .i64 (d.shape 2), .int .i64 (d.shape 3), .int .i64 (d.shape 4), .int .i64 (d.shape 5), .int .i64 (d.shape 6), .int .i64 (d.shape 7), .int .i64 (d.shape 8), .slice ao1 d.groups.1 cap1, .slice ao2 d.on.1 cap2, .slice ao3 d.tapes.1 cap3, .int .i64 d.writes, .int .i64 d.stop, .bool d.down]) := h
  have HSZ : Hid (szWorldD d ≤ 1048576) := hsz
  clear h h' hsz g1 g2 g3 k0 k4 k5
  have T0 := two_newb w #[.int .i64 (d.shape 0), .int .i64 (d.shape 1), .int .i64 (d.shape 2), .int .i64 (d.shape 3), .int .i64 (d.shape 4), .int .i64 (d.shape 5), .int .i64 (d.shape 6), .int .i64 (d.shape 7), .int .i64 (d.shape 8), .slice ao1 d.groups.1 cap1, .slice ao2 d.on.1 cap2, .slice ao3 d.tapes.1 cap3, .int .i64 d.writes, .int .i64 d.stop, .bool d.down] #[.int .i64 0, .slice none 0 0] 37 31
  go_enter Tryz.func8, Tryz.ntmps8
  go_wp2_with (refine wp_loadBox 37 (.tmp 1) rfl rfl (w.heap.size) rfl (cs := [.int .i64 (d.shape 0), .int .i64 (d.shape 1), .int .i64 (d.shape 2), .int .i64 (d.shape 3), .int .i64 (d.shape 4), .int .i64 (d.shape 5), .int .i64 (d.shape 6), .int .i64 (d.shape 7), .int .i64 (d.shape 8), .slice ao1 d.groups.1 cap1, .slice ao2 d.on.1 cap2, .slice ao3 d.tapes.1 cap3, .int .i64 d.writes, .int .i64 d.stop, .bool d.down]) (T0.b1) Tryz.underlying37 size_W rfl ?_)
  refine (implWorld_any d _ hi _ (layWorld.rd_below HRD.out T0.bel hhi) (Nat.le_trans hhi T0.bel.size) (wld_ok_names HSZ.out)).mono ?_
  rintro e w1 ⟨x, rfl, hx, b1⟩
  have HT1 : Hid (Two w w1 #[.int .i64 (d.shape 0), .int .i64 (d.shape 1), .int .i64 (d.shape 2), .int .i64 (d.shape 3), .int .i64 (d.shape 4), .int .i64 (d.shape 5), .int .i64 (d.shape 6), .int .i64 (d.shape 7), .int .i64 (d.shape 8), .slice ao1 d.groups.1 cap1, .slice ao2 d.on.1 cap2, .slice ao3 d.tapes.1 cap3, .int .i64 d.writes, .int .i64 d.stop, .bool d.down] #[.int .i64 0, .slice none 0 0] 37 31) := T0.call b1
  have HX : Hid (WldAns d x) := hx
  have z1 : w.heap.size + 1 < w1.heap.size := HT1.out.b2.lt
  clear b1 T0 hx
  by_cases hx0 : x = 0
  case neg =>
    have hne : (x != 0) = true := by simp [hx0]
    go_wp2_with (refine wp_storeBox 31 _ _ rfl rfl (w.heap.size + 1) rfl (cs := [.int .i64 x, .slice none 0 0]) (old := [.int .i64 0, .slice none 0 0]) rfl (HT1.out.b2) size_Gr rfl rfl ((gcode_own w1 x (wld_small HX.out) 0 0 (Nat.zero_le _)).one) ?_; intro w9 X9 C9 z9)
    refine ret_box Tryz.results8 rfl X9 Tryz.underlying31 size_Gr rfl rfl ?_
    have zz := C9.size
    exact ⟨⟨x, (0, fun _ => 0)⟩, [.int .i64 x, .slice none 0 0], rfl, .inl ⟨x, hx0, HX.out, rfl⟩, gcode_own w9 x (wld_small HX.out) _ _ (Nat.le_refl _), HT1.out.bel.trans (C9.bel (fun b hb => by simp at hb; omega) HT1.out.bel.size)⟩
  subst hx0
  have HOK : Hid (OkWorld d) := WldAns.ok HX.out
  have hN : d.shape 0 + d.shape 1 = (d.groups.1 : Int) := by have := HOK.out.form.1.1; omega
  have hNs : d.groups.1 ≤ 100 := by
    obtain ⟨s1, s2, _⟩ := HOK.out.shape
    unfold Shp3 at s1
    omega
  have bL : Below w1.heap.size w1 (w1.alloc (.cells #[] 2)) := (Below.refl _ _).alloc (Nat.le_refl _) _
  have I0 := (ownI_lit0 w1 (deadsF d)).weaken (lo' := w.heap.size + 1 + 1) (hi' := (w1.alloc (.cells #[] 2)).heap.size) (by omega) (Nat.le_refl _)
  have TL : Two w (w1.alloc (.cells #[] 2)) #[.int .i64 (d.shape 0), .int .i64 (d.shape 1), .int .i64 (d.shape 2), .int .i64 (d.shape 3), .int .i64 (d.shape 4), .int .i64 (d.shape 5), .int .i64 (d.shape 6), .int .i64 (d.shape 7), .int .i64 (d.shape 8), .slice ao1 d.groups.1 cap1, .slice ao2 d.on.1 cap2, .slice ao3 d.tapes.1 cap3, .int .i64 d.writes, .int .i64 d.stop, .bool d.down] #[.int .i64 0, .slice none 0 0] 37 31 := HT1.out.call bL
  have x_0 : (w1.alloc (.cells #[] 2)).cell? ⟨w.heap.size, 0, none⟩ = some (.int .i64 (d.shape 0)) := TL.b1.cell 0
  have x_1 : (w1.alloc (.cells #[] 2)).cell? ⟨w.heap.size, 1, none⟩ = some (.int .i64 (d.shape 1)) := TL.b1.cell 1
  have x_2 : (w1.alloc (.cells #[] 2)).cell? ⟨w.heap.size, 2, none⟩ = some (.int .i64 (d.shape 2)) := TL.b1.cell 2
  have x_3 : (w1.alloc (.cells #[] 2)).cell? ⟨w.heap.size, 3, none⟩ = some (.int .i64 (d.shape 3)) := TL.b1.cell 3
  have x_4 : (w1.alloc (.cells #[] 2)).cell? ⟨w.heap.size, 4, none⟩ = some (.int .i64 (d.shape 4)) := TL.b1.cell 4
  have x_5 : (w1.alloc (.cells #[] 2)).cell? ⟨w.heap.size, 5, none⟩ = some (.int .i64 (d.shape 5)) := TL.b1.cell 5
  have x_6 : (w1.alloc (.cells #[] 2)).cell? ⟨w.heap.size, 6, none⟩ = some (.int .i64 (d.shape 6)) := TL.b1.cell 6
  have x_7 : (w1.alloc (.cells #[] 2)).cell? ⟨w.heap.size, 7, none⟩ = some (.int .i64 (d.shape 7)) := TL.b1.cell 7
  have x_8 : (w1.alloc (.cells #[] 2)).cell? ⟨w.heap.size, 8, none⟩ = some (.int .i64 (d.shape 8)) := TL.b1.cell 8
  have CG := groupCount_any d.shape HOK.out.shape (w1.alloc (.cells #[] 2))
  rw [hN] at CG
  unfold shapeV at CG
  go_wp2_with fail
  refine CG.mono ?_
  rintro e w2 ⟨rfl, b2⟩
  have T2 := TL.call b2
  have I2 := (I0.below b2 (Nat.le_refl _)).mono b2.size
  clear CG b2 I0 TL bL x_0 x_1 x_2 x_3 x_4 x_5 x_6 x_7 x_8 HT1
  go_wp2
  go_loopw [4, 16] (fun vh i wr => ∃ k : Nat, k ≤ d.groups.1 ∧ i = .int .i64 k ∧ OwnI wr (w.heap.size + 1 + 1) wr.heap.size vh (pickI (deadB d) k).length (deadsF d) ∧ Two w wr #[.int .i64 (d.shape 0), .int .i64 (d.shape 1), .int .i64 (d.shape 2), .int .i64 (d.shape 3), .int .i64 (d.shape 4), .int .i64 (d.shape 5), .int .i64 (d.shape 6), .int .i64 (d.shape 7), .int .i64 (d.shape 8), .slice ao1 d.groups.1 cap1, .slice ao2 d.on.1 cap2, .slice ao3 d.tapes.1 cap3, .int .i64 d.writes, .int .i64 d.stop, .bool d.down] #[.int .i64 0, .slice none 0 0] 37 31) (fun _ i _ => d.groups.1 - (intOf i).toNat)
  case atStart => exact ⟨0, Nat.zero_le _, rfl, I2, T2⟩
  case round =>
    clear I2 T2
    obtain ⟨k, hk, rfl, hI, T⟩ := hrel
    have HT : Hid (Two w wr #[.int .i64 (d.shape 0), .int .i64 (d.shape 1), .int .i64 (d.shape 2), .int .i64 (d.shape 3), .int .i64 (d.shape 4), .int .i64 (d.shape 5), .int .i64 (d.shape 6), .int .i64 (d.shape 7), .int .i64 (d.shape 8), .slice ao1 d.groups.1 cap1, .slice ao2 d.on.1 cap2, .slice ao3 d.tapes.1 cap3, .int .i64 d.writes, .int .i64 d.stop, .bool d.down] #[.int .i64 0, .slice none 0 0] 37 31) := T
    obtain ⟨c, hc⟩ : ∃ c, c = (pickI (deadB d) k).length := ⟨_, rfl⟩
    have HC : Hid (c = (pickI (deadB d) k).length) := hc
    rw [← hc] at hI
    have HI : Hid (OwnI wr (w.heap.size + 1 + 1) wr.heap.size u4 c (deadsF d)) := hI
    obtain ⟨ao9, cap9, hs9⟩ := hI.slice
    subst hs9
    have zr : w.heap.size + 1 < wr.heap.size := T.b2.lt
    have hck : c ≤ k := by rw [hc]; exact pick_le _ _
    clear hI hc
    by_cases hlt : k < d.groups.1
    · have HLT : Hid (k < d.groups.1) := hlt
      have t1 : (k : Int) < (d.groups.1 : Int) := by omega
      have CD := isDead_any d [.int .i64 (d.shape 0), .int .i64 (d.shape 1), .int .i64 (d.shape 2), .int .i64 (d.shape 3), .int .i64 (d.shape 4), .int .i64 (d.shape 5), .int .i64 (d.shape 6), .int .i64 (d.shape 7), .int .i64 (d.shape 8), .slice ao1 d.groups.1 cap1, .slice ao2 d.on.1 cap2, .slice ao3 d.tapes.1 cap3, .int .i64 d.writes, .int .i64 d.stop, .bool d.down] hi k wr (layWorld.rd_below HRD.out T.bel hhi) (Nat.le_trans hhi T.bel.size) hlt
      go_wp2_with (refine wp_loadBox 37 (.tmp 1) rfl rfl (w.heap.size) rfl (cs := [.int .i64 (d.shape 0), .int .i64 (d.shape 1), .int .i64 (d.shape 2), .int .i64 (d.shape 3), .int .i64 (d.shape 4), .int .i64 (d.shape 5), .int .i64 (d.shape 6), .int .i64 (d.shape 7), .int .i64 (d.shape 8), .slice ao1 d.groups.1 cap1, .slice ao2 d.on.1 cap2, .slice ao3 d.tapes.1 cap3, .int .i64 d.writes, .int .i64 d.stop, .bool d.down]) (T.b1) Tryz.underlying37 size_W rfl ?_)
      refine CD.mono ?_
      rintro e w2 ⟨t, rfl, ht, b2⟩
      have HT2 : Hid (Two w w2 #[.int .i64 (d.shape 0), .int .i64 (d.shape 1), .int .i64 (d.shape 2), .int .i64 (d.shape 3), .int .i64 (d.shape 4), .int .i64 (d.shape 5), .int .i64 (d.shape 6), .int .i64 (d.shape 7), .int .i64 (d.shape 8), .slice ao1 d.groups.1 cap1, .slice ao2 d.on.1 cap2, .slice ao3 d.tapes.1 cap3, .int .i64 d.writes, .int .i64 d.stop, .bool d.down] #[.int .i64 0, .slice none 0 0] 37 31) := HT.out.call b2
      have HI2 : Hid (OwnI w2 (w.heap.size + 1 + 1) w2.heap.size (.slice ao9 c cap9) c (deadsF d)) := (HI.out.below b2 (Nat.le_refl _)).mono b2.size
      have Ht : Hid (t = deadB d k) := by
        show t = deadB d k
        cases t with
        | true => exact ((deadB_is d k).2 (ht.1 rfl)).symm
        | false =>
          cases hb : deadB d k with
          | false => rfl
          | true => have := ht.2 ((deadB_is d k).1 hb); cases this
      have z2 : wr.heap.size ≤ w2.heap.size := b2.size
      clear CD ht b2 HT HI T
      cases t with
      | false =>
        go_wp2
        go_roundw
        case rel => exact ⟨k + 1, by omega, by go_num, by rw [pick_skip Ht.out.symm, ← HC.out]; exact HI2.out, HT2.out⟩
        case measure => simp [intOf]; omega
      | true =>
        have HF : Hid (deadsF d c = (k : Int)) := by
          show deadsF d c = (k : Int)
          have := (pickF_at (p := deadB d) Ht.out.symm d.groups.1 HLT.out).1
          unfold deadsF
          rw [HC.out, this]
        go_wp2_with (at_builtin; refine wp_appendI rfl (.tmp 22) (.tmp 24) rfl (w.heap.size + 1 + 1) w2.heap.size (.slice ao9 c cap9) c (deadsF d) ?_ ?_ w2.heap.size 1 ?_ ?_ (by omega) ?_ ?_; (simp [Act.eval]); exact HI2.out.alloc _; (simp [Act.eval]); (rw [HF.out]; simp); (simp; omega); intro v2 w3 o3 b3)
        have b4 : Below (w.heap.size + 1 + 1) w2 w3 := ((Below.refl (w.heap.size + 1 + 1) w2).alloc (by omega) _).trans b3
        have HT3 : Hid (Two w w3 #[.int .i64 (d.shape 0), .int .i64 (d.shape 1), .int .i64 (d.shape 2), .int .i64 (d.shape 3), .int .i64 (d.shape 4), .int .i64 (d.shape 5), .int .i64 (d.shape 6), .int .i64 (d.shape 7), .int .i64 (d.shape 8), .slice ao1 d.groups.1 cap1, .slice ao2 d.on.1 cap2, .slice ao3 d.tapes.1 cap3, .int .i64 d.writes, .int .i64 d.stop, .bool d.down] #[.int .i64 0, .slice none 0 0] 37 31) := ⟨HT2.out.b1.below b4 (by omega), HT2.out.b2.below b4 (by omega), HT2.out.bel.trans (b4.mono (by omega))⟩
        have HI4 : Hid (OwnI w3 (w.heap.size + 1 + 1) w3.heap.size v2 (c + 1) (deadsF d)) := o3
        clear o3 b3 b4 HI2 HT2
        go_wp2
        go_roundw
        case rel => exact ⟨k + 1, by omega, by go_num, by
          have e : (pickI (deadB d) (k + 1)).length = c + 1 := by rw [pick_succ, if_pos Ht.out.symm, List.length_append, ← HC.out]; rfl
          rw [e]; exact HI4.out, HT3.out⟩
        case measure => simp [intOf]; omega
    · obtain rfl : k = d.groups.1 := by omega
      clear hlt T
      have OO := gres_own HI.out (Nat.le_refl _) (deadsF_in HOK.out) 0 (by decide)
      go_wp2_with (refine wp_storeBox 31 _ _ rfl rfl (w.heap.size + 1) rfl (cs := [.int .i64 0, .slice ao9 c cap9]) (old := [.int .i64 0, .slice none 0 0]) rfl (HT.out.b2) size_Gr rfl rfl (OO.one) ?_; intro w9 X9 C9 z9)
      refine ret_box Tryz.results8 rfl X9 Tryz.underlying31 size_Gr rfl rfl ?_
      have zz := C9.size
      have O9 := (OO.chgk C9 (fun b hb => by simp at hb; omega)).weaken (lo' := w.heap.size) (hi' := w9.heap.size) (by omega) zz
      have HQ : DeadAns d ⟨0, (c, deadsF d)⟩ := .inr ⟨HX.out, by rw [HC.out]⟩
      exact ⟨_, _, rfl, HQ, O9, HT.out.bel.trans (C9.bel (fun b hb => by simp at hb; omega) HT.out.bel.size)⟩
end Go.Proofs.YtgbnibapkgbklaaGreat

namespace Go.Proofs.YtgbnibapkgbklaaGreat
open Go.RowKit F256
set_option linter.unusedVariables false
set_option linter.unusedSimpArgs false
theorem info_GR : (Tryz.prog.info? 31).map (fun i => (i.zero.map (·.cells), i.size)) = some (some #[.int .i64 0, .slice none 0 0], 2) := by kernel_rfl
set_option maxHeartbeats 16000000 in
set_option maxRecDepth 20000 in
theorem specDead_any (d : WorldD) (cs : List Value) (hi : Nat) (w : World) (h : layWorld.rd w hi d cs) (hhi : hi ≤ w.heap.size) (hsz : szWorldD d ≤ 1048576) :
    Calls Tryz.prog 6 #[.agg cs.toArray] w (GrPost (DeadAns d) w) := by
  have h' := h
  obtain ⟨ao1, cap1, ao2, cap2, ao3, cap3, rfl, g1, g2, g3, k0, k4, k5⟩ := World_rd h'
  have HRD : Hid (layWorld.rd w hi d [.int .i64 (d.shape 0), .int .i64 (d.shape 1), .int .i64 (d.shape 2), .int .i64 (d.shape 3), .int .i64 (d.shape 4), .int .i64 (d.shape 5), .int .i64 (d.shape 6), .int .i64 (d.shape 7), .int .i64 (d.shape 8), .slice ao1 d.groups.1 cap1, .slice ao2 d.on.1 cap2, .slice ao3 d.tapes.1 cap3, .int .i64 d.writes, .int .i64 d.stop, .bool d.down]) := h
  have HSZ : Hid (szWorldD d ≤ 1048576) := hsz
  clear h h' hsz g1 g2 g3 k0 k4 k5
  have T0 := two_newb w #[.int .i64 (d.shape 0), .int .i64 (d.shape 1), .int .i64 (d.shape 2), .int .i64 (d.shape 3), .int .i64 (d.shape 4), .int .i64 (d.shape 5), .int .i64 (d.shape 6), .int .i64 (d.shape 7), .int .i64 (d.shape 8), .slice ao1 d.groups.1 cap1, .slice ao2 d.on.1 cap2, .slice ao3 d.tapes.1 cap3, .int .i64 d.writes, .int .i64 d.stop, .bool d.down] #[.int .i64 0, .slice none 0 0] 37 31
  go_enter Tryz.func6, Tryz.ntmps6
  go_wp2_with (refine wp_loadBox 37 (.tmp 1) rfl rfl (w.heap.size) rfl (cs := [.int .i64 (d.shape 0), .int .i64 (d.shape 1), .int .i64 (d.shape 2), .int .i64 (d.shape 3), .int .i64 (d.shape 4), .int .i64 (d.shape 5), .int .i64 (d.shape 6), .int .i64 (d.shape 7), .int .i64 (d.shape 8), .slice ao1 d.groups.1 cap1, .slice ao2 d.on.1 cap2, .slice ao3 d.tapes.1 cap3, .int .i64 d.writes, .int .i64 d.stop, .bool d.down]) (T0.b1) Tryz.underlying37 size_W rfl ?_)
  refine (specWorld_any d _ hi _ (layWorld.rd_below HRD.out T0.bel hhi) (Nat.le_trans hhi T0.bel.size) (wld_ok_names HSZ.out)).mono ?_
  rintro e w1 ⟨x, rfl, hx, b1⟩
  have HT1 : Hid (Two w w1 #[.int .i64 (d.shape 0), .int .i64 (d.shape 1), .int .i64 (d.shape 2), .int .i64 (d.shape 3), .int .i64 (d.shape 4), .int .i64 (d.shape 5), .int .i64 (d.shape 6), .int .i64 (d.shape 7), .int .i64 (d.shape 8), .slice ao1 d.groups.1 cap1, .slice ao2 d.on.1 cap2, .slice ao3 d.tapes.1 cap3, .int .i64 d.writes, .int .i64 d.stop, .bool d.down] #[.int .i64 0, .slice none 0 0] 37 31) := T0.call b1
  have HX : Hid (WldAns d x) := hx
  have z1 : w.heap.size + 1 < w1.heap.size := HT1.out.b2.lt
  clear b1 T0 hx
  by_cases hx0 : x = 0
  case neg =>
    have hne : (x != 0) = true := by simp [hx0]
    go_wp2_with (refine wp_storeBox 31 _ _ rfl rfl (w.heap.size + 1) rfl (cs := [.int .i64 x, .slice none 0 0]) (old := [.int .i64 0, .slice none 0 0]) rfl (HT1.out.b2) size_Gr rfl rfl ((gcode_own w1 x (wld_small HX.out) 0 0 (Nat.zero_le _)).one) ?_; intro w9 X9 C9 z9)
    refine ret_box Tryz.results6 rfl X9 Tryz.underlying31 size_Gr rfl rfl ?_
    have zz := C9.size
    exact ⟨⟨x, (0, fun _ => 0)⟩, [.int .i64 x, .slice none 0 0], rfl, .inl ⟨x, hx0, HX.out, rfl⟩, gcode_own w9 x (wld_small HX.out) _ _ (Nat.le_refl _), HT1.out.bel.trans (C9.bel (fun b hb => by simp at hb; omega) HT1.out.bel.size)⟩
  subst hx0
  have HOK : Hid (OkWorld d) := WldAns.ok HX.out
  have hN : d.shape 0 + d.shape 1 = (d.groups.1 : Int) := by have := HOK.out.form.1.1; omega
  have hNs : d.groups.1 ≤ 100 := by
    obtain ⟨s1, s2, _⟩ := HOK.out.shape
    unfold Shp3 at s1
    omega
  have bL : Below w1.heap.size w1 (w1.alloc (.cells #[.int .i64 0, .slice none 0 0] 31)) := (Below.refl _ _).alloc (Nat.le_refl _) _
  have XB : Box (w1.alloc (.cells #[.int .i64 0, .slice none 0 0] 31)) w1.heap.size #[.int .i64 0, .slice none 0 0] 31 := box_new _ _ _
  have TL : Two w (w1.alloc (.cells #[.int .i64 0, .slice none 0 0] 31)) #[.int .i64 (d.shape 0), .int .i64 (d.shape 1), .int .i64 (d.shape 2), .int .i64 (d.shape 3), .int .i64 (d.shape 4), .int .i64 (d.shape 5), .int .i64 (d.shape 6), .int .i64 (d.shape 7), .int .i64 (d.shape 8), .slice ao1 d.groups.1 cap1, .slice ao2 d.on.1 cap2, .slice ao3 d.tapes.1 cap3, .int .i64 d.writes, .int .i64 d.stop, .bool d.down] #[.int .i64 0, .slice none 0 0] 37 31 := HT1.out.call bL
  have I0 : OwnI (w1.alloc (.cells #[.int .i64 0, .slice none 0 0] 31)) (w1.heap.size + 1) (w1.alloc (.cells #[.int .i64 0, .slice none 0 0] 31)).heap.size (.slice none 0 0) 0 (deadsF d) := ownI_nil _ _ _ _
  go_upto_region 5 with (refine wp_allocStore 31 4 (.tmp 12) [.int .i64 0, .slice none 0 0] _ 2 rfl rfl rfl rfl rfl rfl rfl rfl info_GR rfl rfl (gcode_own w1 0 (by decide) 0 0 (Nat.zero_le _)).one ?_)
  obtain ⟨W2, hW2⟩ : ∃ x, x = w1.alloc (.cells #[.int .i64 0, .slice none 0 0] 31) := ⟨_, rfl⟩
  rw [← hW2] at bL XB TL I0 ⊢
  clear hW2 bL HT1
  go_wp2
  go_loopw [5] (fun i wr => ∃ (k cap : Nat) (ao : Option Addr), k ≤ d.groups.1 ∧ i = .int .i64 k ∧ OwnI wr (w1.heap.size + 1) wr.heap.size (.slice ao (pickI (deadB d) k).length cap) (pickI (deadB d) k).length (deadsF d) ∧ Box wr w1.heap.size #[.int .i64 0, .slice ao (pickI (deadB d) k).length cap] 31 ∧ Two w wr #[.int .i64 (d.shape 0), .int .i64 (d.shape 1), .int .i64 (d.shape 2), .int .i64 (d.shape 3), .int .i64 (d.shape 4), .int .i64 (d.shape 5), .int .i64 (d.shape 6), .int .i64 (d.shape 7), .int .i64 (d.shape 8), .slice ao1 d.groups.1 cap1, .slice ao2 d.on.1 cap2, .slice ao3 d.tapes.1 cap3, .int .i64 d.writes, .int .i64 d.stop, .bool d.down] #[.int .i64 0, .slice none 0 0] 37 31) (fun i _ => d.groups.1 - (intOf i).toNat)
  case atStart => exact ⟨0, 0, none, Nat.zero_le _, rfl, I0, XB, TL⟩
  case round =>
    clear I0 XB TL
    obtain ⟨k, cap9, ao9, hk, rfl, hI, hX, T⟩ := hrel
    obtain ⟨c, hc⟩ : ∃ c, c = (pickI (deadB d) k).length := ⟨_, rfl⟩
    have HC : Hid (c = (pickI (deadB d) k).length) := hc
    rw [← hc] at hI hX
    have HT : Hid (Two w wr #[.int .i64 (d.shape 0), .int .i64 (d.shape 1), .int .i64 (d.shape 2), .int .i64 (d.shape 3), .int .i64 (d.shape 4), .int .i64 (d.shape 5), .int .i64 (d.shape 6), .int .i64 (d.shape 7), .int .i64 (d.shape 8), .slice ao1 d.groups.1 cap1, .slice ao2 d.on.1 cap2, .slice ao3 d.tapes.1 cap3, .int .i64 d.writes, .int .i64 d.stop, .bool d.down] #[.int .i64 0, .slice none 0 0] 37 31) := T
    have HI : Hid (OwnI wr (w1.heap.size + 1) wr.heap.size (.slice ao9 c cap9) c (deadsF d)) := hI
    have HXB : Hid (Box wr w1.heap.size #[.int .i64 0, .slice ao9 c cap9] 31) := hX
    have zr : w1.heap.size < wr.heap.size := hX.lt
    have hck : c ≤ k := by rw [hc]; exact pick_le _ _
    have x_0 : wr.cell? ⟨w.heap.size, 0, none⟩ = some (.int .i64 (d.shape 0)) := T.b1.cell 0
    have x_1 : wr.cell? ⟨w.heap.size, 1, none⟩ = some (.int .i64 (d.shape 1)) := T.b1.cell 1
    have x_2 : wr.cell? ⟨w.heap.size, 2, none⟩ = some (.int .i64 (d.shape 2)) := T.b1.cell 2
    have x_3 : wr.cell? ⟨w.heap.size, 3, none⟩ = some (.int .i64 (d.shape 3)) := T.b1.cell 3
    have x_4 : wr.cell? ⟨w.heap.size, 4, none⟩ = some (.int .i64 (d.shape 4)) := T.b1.cell 4
    have x_5 : wr.cell? ⟨w.heap.size, 5, none⟩ = some (.int .i64 (d.shape 5)) := T.b1.cell 5
    have x_6 : wr.cell? ⟨w.heap.size, 6, none⟩ = some (.int .i64 (d.shape 6)) := T.b1.cell 6
    have x_7 : wr.cell? ⟨w.heap.size, 7, none⟩ = some (.int .i64 (d.shape 7)) := T.b1.cell 7
    have x_8 : wr.cell? ⟨w.heap.size, 8, none⟩ = some (.int .i64 (d.shape 8)) := T.b1.cell 8
    have CG := l5All_any d.shape HOK.out.shape wr
    rw [hN] at CG
    unfold shapeV at CG
    clear hI hc hX T
    go_wp2_with fail
    refine CG.mono ?_
    rintro e wq ⟨rfl, bq⟩
    have HTq : Hid (Two w wq #[.int .i64 (d.shape 0), .int .i64 (d.shape 1), .int .i64 (d.shape 2), .int .i64 (d.shape 3), .int .i64 (d.shape 4), .int .i64 (d.shape 5), .int .i64 (d.shape 6), .int .i64 (d.shape 7), .int .i64 (d.shape 8), .slice ao1 d.groups.1 cap1, .slice ao2 d.on.1 cap2, .slice ao3 d.tapes.1 cap3, .int .i64 d.writes, .int .i64 d.stop, .bool d.down] #[.int .i64 0, .slice none 0 0] 37 31) := HT.out.call bq
    have HIq : Hid (OwnI wq (w1.heap.size + 1) wq.heap.size (.slice ao9 c cap9) c (deadsF d)) := (HI.out.below bq (Nat.le_refl _)).mono bq.size
    have HXq : Hid (Box wq w1.heap.size #[.int .i64 0, .slice ao9 c cap9] 31) := HXB.out.call bq
    have zq : wr.heap.size ≤ wq.heap.size := bq.size
    clear CG bq HT HI HXB x_0 x_1 x_2 x_3 x_4 x_5 x_6 x_7 x_8
    by_cases hlt : k < d.groups.1
    · have HLT : Hid (k < d.groups.1) := hlt
      have t1 : (k : Int) < (d.groups.1 : Int) := by omega
      have CD := l7Dead_any d [.int .i64 (d.shape 0), .int .i64 (d.shape 1), .int .i64 (d.shape 2), .int .i64 (d.shape 3), .int .i64 (d.shape 4), .int .i64 (d.shape 5), .int .i64 (d.shape 6), .int .i64 (d.shape 7), .int .i64 (d.shape 8), .slice ao1 d.groups.1 cap1, .slice ao2 d.on.1 cap2, .slice ao3 d.tapes.1 cap3, .int .i64 d.writes, .int .i64 d.stop, .bool d.down] hi w.heap.size k wq (layWorld.rd_below HRD.out HTq.out.bel hhi) (Nat.le_trans hhi HTq.out.bel.size) HTq.out.b1 hlt
      go_wp2_with fail
      refine CD.mono ?_
      rintro e w2 ⟨t, rfl, ht, b2⟩
      have HT2 : Hid (Two w w2 #[.int .i64 (d.shape 0), .int .i64 (d.shape 1), .int .i64 (d.shape 2), .int .i64 (d.shape 3), .int .i64 (d.shape 4), .int .i64 (d.shape 5), .int .i64 (d.shape 6), .int .i64 (d.shape 7), .int .i64 (d.shape 8), .slice ao1 d.groups.1 cap1, .slice ao2 d.on.1 cap2, .slice ao3 d.tapes.1 cap3, .int .i64 d.writes, .int .i64 d.stop, .bool d.down] #[.int .i64 0, .slice none 0 0] 37 31) := HTq.out.call b2
      have HI2 : Hid (OwnI w2 (w1.heap.size + 1) w2.heap.size (.slice ao9 c cap9) c (deadsF d)) := (HIq.out.below b2 (Nat.le_refl _)).mono b2.size
      have X2 := HXq.out.call b2
      have HX2 : Hid (Box w2 w1.heap.size #[.int .i64 0, .slice ao9 c cap9] 31) := X2
      have Ht : Hid (t = deadB d k) := by
        show t = deadB d k
        cases t with
        | true => exact ((deadB_is d k).2 (ht.1 rfl)).symm
        | false =>
          cases hb : deadB d k with
          | false => rfl
          | true => have := ht.2 ((deadB_is d k).1 hb); cases this
      have z2 : wq.heap.size ≤ w2.heap.size := b2.size
      have x1 : w2.cell? ⟨w1.heap.size, 1, none⟩ = some (.slice ao9 c cap9) := X2.cell 1
      clear CD ht b2 HTq HIq HXq X2
      cases t with
      | false =>
        clear x1
        go_wp2
        go_roundw
        case rel => exact ⟨k + 1, cap9, ao9, by omega, by go_num, by rw [pick_skip Ht.out.symm, ← HC.out]; exact ⟨HI2.out, HX2.out, HT2.out⟩⟩
        case measure => simp [intOf]; omega
      | true =>
        have HF : Hid (deadsF d c = (k : Int)) := by
          show deadsF d c = (k : Int)
          have := (pickF_at (p := deadB d) Ht.out.symm d.groups.1 HLT.out).1
          unfold deadsF
          rw [HC.out, this]
        go_wp2_with (at_builtin; refine wp_appendI rfl (.tmp 23) (.tmp 25) rfl (w1.heap.size + 1) w2.heap.size (.slice ao9 c cap9) c (deadsF d) ?_ ?_ w2.heap.size 1 ?_ ?_ (by omega) ?_ ?_; (simp [Act.eval]); exact HI2.out.alloc _; (simp [Act.eval]); (rw [HF.out]; simp); (simp; omega); intro v2 w3 o3 b3; obtain ⟨ao3', cap3', rfl⟩ := o3.slice; have b4 : Below (w1.heap.size + 1) w2 w3 := ((Below.refl (w1.heap.size + 1) w2).alloc (by omega) _).trans b3; have X3 := HX2.out.below b4 (by omega); have y1 : w3.cell? ⟨w1.heap.size, 1, none⟩ = some (.slice ao9 c cap9) := X3.cell 1; have f1 : w3.frozen? ⟨w1.heap.size, 1, none⟩ = false := X3.frozen 1)
        have X4 : Box (w3.setCell ⟨w1.heap.size, 1, none⟩ (.slice ao3' (c + 1) cap3')) w1.heap.size #[.int .i64 0, .slice ao3' (c + 1) cap3'] 31 := X3.setc 1 _
        have I4 : OwnI (w3.setCell ⟨w1.heap.size, 1, none⟩ (.slice ao3' (c + 1) cap3')) (w1.heap.size + 1) w3.heap.size (.slice ao3' (c + 1) cap3') (c + 1) (deadsF d) := o3.out (out_store w3 w1.heap.size (w1.heap.size + 1) w1.heap.size 1 _ (Nat.le_refl _) (by omega)) (.inr (Nat.le_refl _))
        have T3 : Two w w3 #[.int .i64 (d.shape 0), .int .i64 (d.shape 1), .int .i64 (d.shape 2), .int .i64 (d.shape 3), .int .i64 (d.shape 4), .int .i64 (d.shape 5), .int .i64 (d.shape 6), .int .i64 (d.shape 7), .int .i64 (d.shape 8), .slice ao1 d.groups.1 cap1, .slice ao2 d.on.1 cap2, .slice ao3 d.tapes.1 cap3, .int .i64 d.writes, .int .i64 d.stop, .bool d.down] #[.int .i64 0, .slice none 0 0] 37 31 := ⟨HT2.out.b1.below b4 (by omega), HT2.out.b2.below b4 (by omega), HT2.out.bel.trans (b4.mono (by omega))⟩
        have HT4 : Hid (Two w (w3.setCell ⟨w1.heap.size, 1, none⟩ (.slice ao3' (c + 1) cap3')) #[.int .i64 (d.shape 0), .int .i64 (d.shape 1), .int .i64 (d.shape 2), .int .i64 (d.shape 3), .int .i64 (d.shape 4), .int .i64 (d.shape 5), .int .i64 (d.shape 6), .int .i64 (d.shape 7), .int .i64 (d.shape 8), .slice ao1 d.groups.1 cap1, .slice ao2 d.on.1 cap2, .slice ao3 d.tapes.1 cap3, .int .i64 d.writes, .int .i64 d.stop, .bool d.down] #[.int .i64 0, .slice none 0 0] 37 31) := T3.chgl (P := w1.heap.size) ((ChgL.refl _ w3).st _ 1 _ (by simp)) (by omega)
        have HX4 : Hid (Box (w3.setCell ⟨w1.heap.size, 1, none⟩ (.slice ao3' (c + 1) cap3')) w1.heap.size #[.int .i64 0, .slice ao3' (c + 1) cap3'] 31) := X4
        have HI4 : Hid (OwnI (w3.setCell ⟨w1.heap.size, 1, none⟩ (.slice ao3' (c + 1) cap3')) (w1.heap.size + 1) (w3.setCell ⟨w1.heap.size, 1, none⟩ (.slice ao3' (c + 1) cap3')).heap.size (.slice ao3' (c + 1) cap3') (c + 1) (deadsF d)) := I4.mono (by simp)
        clear o3 b3 b4 HI2 HT2 HX2 X3 X4 I4 T3 x1 y1 f1
        go_wp2
        go_roundw
        case rel => exact ⟨k + 1, cap3', ao3', by omega, by go_num, by
          have e : (pickI (deadB d) (k + 1)).length = c + 1 := by rw [pick_succ, if_pos Ht.out.symm, List.length_append, ← HC.out]; rfl
          rw [e]; exact ⟨HI4.out, HX4.out, HT4.out⟩⟩
        case measure => simp [intOf]; omega
    · obtain rfl : k = d.groups.1 := by omega
      have t1 : decide ((d.groups.1 : Int) < (d.groups.1 : Int)) = false := by simp
      clear hlt
      have OO := gres_own HIq.out (Nat.le_refl _) (deadsF_in HOK.out) 0 (by decide)
      go_wp2_with (first | (refine wp_loadBox 31 (.tmp 4) rfl rfl (w1.heap.size) rfl (cs := [.int .i64 0, .slice ao9 c cap9]) (HXq.out) Tryz.underlying31 size_Gr rfl ?_) | (refine wp_storeBox 31 _ _ rfl rfl (w.heap.size + 1) rfl (cs := [.int .i64 0, .slice ao9 c cap9]) (old := [.int .i64 0, .slice none 0 0]) rfl (HTq.out.b2) size_Gr rfl rfl (OO.one) ?_; intro w9 X9 C9 z9))
      refine ret_box Tryz.results6 rfl X9 Tryz.underlying31 size_Gr rfl rfl ?_
      have zz := C9.size
      have O9 := (OO.chgk C9 (fun b hb => by simp at hb; omega)).weaken (lo' := w.heap.size) (hi' := w9.heap.size) (by omega) zz
      have HQ : DeadAns d ⟨0, (c, deadsF d)⟩ := .inr ⟨HX.out, by rw [HC.out]⟩
      exact ⟨_, _, rfl, HQ, O9, HTq.out.bel.trans (C9.bel (fun b hb => by simp at hb; omega) HTq.out.bel.size)⟩
end Go.Proofs.YtgbnibapkgbklaaGreat
