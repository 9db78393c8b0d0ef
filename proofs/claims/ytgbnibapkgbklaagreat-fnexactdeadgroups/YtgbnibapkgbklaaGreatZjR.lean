/- The results of later chapters as laid data. -/
import Derived.Test.YtgbnibapkgbklaaGreatZiO
import Derived.Test.YtgbnibapkgbklaaGreatZiB
import Derived.Test.YtgbnibapkgbklaaGreatZiC
namespace Go.Proofs.YtgbnibapkgbklaaGreat
open Go.RowKit F256
set_option linter.unusedVariables false
set_option linter.unusedSimpArgs false
structure RecsResultD where
  code : Int
  recs : Nat × (Nat → RecD)
structure BytesResultD where
  code : Int
  bytes : Nat × (Nat → Nat)
structure IntsResultD where
  code : Int
  list : Nat × (Nat → Int)
structure GroupsResultD where
  code : Int
  groups : Nat × (Nat → Int)
def layGroupsResult : Lay GroupsResultD := (layI.two layInts).as fun d => (d.code, d.groups)
theorem GroupsResult_rd {w : World} {hi : Nat} {d : GroupsResultD} {cs : List Value} (h : layGroupsResult.rd w hi d cs) : ∃ ao1 cap1, cs = [.int .i64 d.code, .slice ao1 d.groups.1 cap1] ∧ layInts.rd w hi d.groups [.slice ao1 d.groups.1 cap1] ∧ (-9223372036854775808 ≤ d.code ∧ d.code ≤ 9223372036854775807) := by
  obtain ⟨c0, r0, rfl, h0, h1⟩ := h
  obtain ⟨rfl, k0⟩ := h0
  obtain ⟨ao1, cap1, rfl⟩ := ints_form h1
  exact ⟨ao1, cap1, rfl, h1, k0⟩
theorem GroupsResult_own {w : World} {d : GroupsResultD} {cs : List Value} {L : List Nat} (h : layGroupsResult.own w d cs L) : ∃ ao1 cap1 K1, cs = [.int .i64 d.code, .slice ao1 d.groups.1 cap1] ∧ L = K1 ∧ layInts.own w d.groups [.slice ao1 d.groups.1 cap1] K1 ∧ (-9223372036854775808 ≤ d.code ∧ d.code ≤ 9223372036854775807) := by
  obtain ⟨c0, r0, L0, M0, rfl, rfl, h0, h1⟩ := h
  obtain ⟨rfl, k0, rfl⟩ := h0
  obtain ⟨ao1, cap1, rfl⟩ := ints_formO h1
  exact ⟨ao1, cap1, _, rfl, rfl, h1, k0⟩
theorem GroupsResult_mk {w : World} (d : GroupsResultD) {ao1 : Option Addr} {cap1 : Nat} {K1 : List Nat} (h1 : layInts.own w d.groups [.slice ao1 d.groups.1 cap1] K1) (k0 : (-9223372036854775808 ≤ d.code ∧ d.code ≤ 9223372036854775807)) : layGroupsResult.own w d [.int .i64 d.code, .slice ao1 d.groups.1 cap1] (K1) := ⟨_, _, [], K1, rfl, rfl, ⟨rfl, k0, rfl⟩, h1⟩
def cvGroupsResultD (d : GroupsResultD) : Nat := lenD d.groups
def mkvGroupsResultD (j : Nat) (d : GroupsResultD) : GroupsResultD := ⟨d.code, mkInts (j) d.groups⟩
end Go.Proofs.YtgbnibapkgbklaaGreat

namespace Go.Proofs.YtgbnibapkgbklaaGreat
open Go.RowKit F256
set_option linter.unusedVariables false
set_option linter.unusedSimpArgs false
set_option maxHeartbeats 8000000 in
set_option maxRecDepth 20000 in
theorem eqGroupsResult_is : EqV layGroupsResult 9 := fun c1 c2 d h1 h2 w r1 r2 u1 u2 => by
  obtain ⟨ao1, cap1, rfl, g1, -⟩ := GroupsResult_rd r1
  obtain ⟨bao1, bcap1, rfl, q1, -⟩ := GroupsResult_rd r2
  clear r1 r2
  have G1 : Hid (layInts.rd w h1 d.groups [.slice ao1 d.groups.1 cap1]) := g1
  have E1 : Hid (layInts.rd w h2 d.groups [.slice bao1 d.groups.1 bcap1]) := q1
  clear g1 q1
  go_enter Tryz.func9, Tryz.ntmps9
  go_wp2_with fail
  have T0 := two_newb w #[.int .i64 d.code, .slice ao1 d.groups.1 cap1] #[.int .i64 d.code, .slice bao1 d.groups.1 bcap1] 31 31
  refine (eqInts_is _ _ d.groups h1 h2 _ (layInts.rd_below G1.out T0.bel u1) (layInts.rd_below E1.out T0.bel u2) (Nat.le_trans u1 T0.bel.size) (Nat.le_trans u2 T0.bel.size)).mono ?_
  rintro e w1 ⟨rfl, b1⟩
  have T1 : Two w w1 #[.int .i64 d.code, .slice ao1 d.groups.1 cap1] #[.int .i64 d.code, .slice bao1 d.groups.1 bcap1] 31 31 := T0.call b1
  clear T0 b1
  have B : Hid (Below w.heap.size w w1) := T1.bel
  clear T1
  go_wp2
  go_ret
  exact ⟨rfl, B.out⟩
end Go.Proofs.YtgbnibapkgbklaaGreat

namespace Go.Proofs.YtgbnibapkgbklaaGreat
open Go.RowKit F256
set_option linter.unusedVariables false
set_option linter.unusedSimpArgs false
set_option maxHeartbeats 4000000 in
theorem markGroupsResult_is : MkV layGroupsResult cvGroupsResultD mkvGroupsResultD 12 := fun cs d L j w h nd hj => by
  obtain ⟨ao1, cap1, K1, rfl, hLL, o1, k0⟩ := GroupsResult_own h
  clear h
  have hLM := hLL.symm
  subst hLM
  unfold cvGroupsResultD at hj ⊢
  have Z1 := layInts.own_lt o1
  have bz : Below w.heap.size w (w.alloc (.cells #[.int .i64 d.code, .slice ao1 d.groups.1 cap1] 31)) := (Below.refl _ _).alloc (Nat.le_refl _) _
  have B0 : Hid (Box (w.alloc (.cells #[.int .i64 d.code, .slice ao1 d.groups.1 cap1] 31)) w.heap.size #[.int .i64 d.code, .slice ao1 d.groups.1 cap1] 31) := box_new _ _ _
  have CH0 : Hid (ChgL (K1) w (w.alloc (.cells #[.int .i64 d.code, .slice ao1 d.groups.1 cap1] 31))) := ChgL.of_below bz
  have O0_1 : Hid (layInts.own (w.alloc (.cells #[.int .i64 d.code, .slice ao1 d.groups.1 cap1] 31)) d.groups [.slice ao1 d.groups.1 cap1] K1) := layInts.own_kept o1 (fun b hb => bz.block b (Z1 b hb))
  clear bz o1
  go_enter Tryz.func12, Tryz.ntmps12
  go_wp2_with fail
  refine (markInts_is _ d.groups K1 (j) _ O0_1.out nd (by omega)).mono ?_
  rintro e w1 ⟨rfl, p1, q1⟩
  have O1_1 : Hid (layInts.own w1 (mkInts (j) d.groups) [.slice ao1 d.groups.1 cap1] K1) := p1
  have B1 : Hid (Box w1 w.heap.size #[.int .i64 d.code, .slice ao1 d.groups.1 cap1] 31) := (q1.block w.heap.size B0.out.lt (fun hb => by have := Z1 _ hb; omega)).trans B0.out
  have CH1 : Hid (ChgL (K1) w w1) := CH0.out.sub q1 (fun b hb => hb)
  clear p1 q1
  go_wp2
  go_ret
  exact ⟨ret_eq (by omega), GroupsResult_mk (mkvGroupsResultD j d) O1_1.out k0, CH1.out⟩
end Go.Proofs.YtgbnibapkgbklaaGreat

namespace Go.Proofs.YtgbnibapkgbklaaGreat
open Go.RowKit F256
set_option linter.unusedVariables false
set_option linter.unusedSimpArgs false
set_option maxHeartbeats 4000000 in
theorem heldGroupsResult_is : HdV layGroupsResult cvGroupsResultD mkvGroupsResultD 13 := fun cs d hi j w h hhi hj => by
  obtain ⟨ao1, cap1, rfl, r1, -⟩ := GroupsResult_rd h
  clear h
  unfold cvGroupsResultD at hj ⊢
  have R1 : Hid (layInts.rd w hi (mkInts (j) d.groups) [.slice ao1 d.groups.1 cap1]) := r1
  clear r1
  change Calls Tryz.prog 13 #[.agg #[.int .i64 d.code, .slice ao1 d.groups.1 cap1], .int .i64 j] w _
  go_enter Tryz.func13, Tryz.ntmps13
  go_wp2_with fail
  have T0 := one_new w #[.int .i64 d.code, .slice ao1 d.groups.1 cap1] 31
  refine (heldInts_is _ d.groups hi (j) _ (layInts.rd_below R1.out T0.bel hhi) (Nat.le_trans hhi T0.bel.size) (by omega)).mono ?_
  rintro e w1 ⟨rfl, b1⟩
  have T1 : One w w1 #[.int .i64 d.code, .slice ao1 d.groups.1 cap1] 31 := T0.call b1
  have hz1 : ¬ (((j + lenD d.groups : Nat) : Int) < 0) := by omega
  have HB : Hid (Below w.heap.size w w1) := T1.bel
  clear b1 T1
  go_wp2
  go_ret
  exact ⟨ret_eq (by omega), HB.out⟩
end Go.Proofs.YtgbnibapkgbklaaGreat
