/- For every list of things and every name the program's DropThing answers as the specification's does, field by field, writes into nothing that it is handed, keeps nothing of it, and owns what it answers: the law FnExactDropThing returns true at every input, and changes nothing that was there. No condition. -/
import Derived.Test.YtapnjoophlckoaaZFnExactDropThingA
import Derived.Deep.DeepCutAuto
import Derived.BigQuiet
import Derived.Deep.QuietTactic
import Derived.Test.YtapnjoophlckoaaRows
namespace Go.Proofs.Ytapnjoophlckoaa
open Go.RowKit F256
set_option linter.unusedVariables false
set_option linter.unusedSimpArgs false
/-- n cells, whatever they hold -/
def layRaw (n : Nat) : Lay (List Value) where
  sz := n
  rd := fun _ _ a cs => cs = a ∧ a.length = n ∧ ∀ v, v ∈ a → v.oneCell' = true
  own := fun _ a cs L => cs = a ∧ a.length = n ∧ (∀ v, v ∈ a → v.oneCell' = true) ∧ L = []
  rd_len := fun h => by rw [h.1]; exact h.2.1
  rd_below := fun h _ _ => h
  rd_mono := fun h _ => h
  own_len := fun h => by rw [h.1]; exact h.2.1
  own_kept := fun h _ => h
  own_lt := fun h b hb => by rw [h.2.2.2] at hb; cases hb
  own_rd := fun h _ => ⟨h.1, h.2.1, h.2.2.1⟩
  own_one := fun h u hu => by rw [h.1] at hu; exact h.2.2.1 u hu
theorem rdOne_raw3 : RdOne (layRaw 3) := fun w hi a cs h u hu => by
  obtain ⟨rfl, _, h3⟩ := h
  exact h3 u hu
/-- an owned row, seen as raw cells -/
theorem SlO.raw {α : Type} {E : Lay α} {t : TypeId} {w : World} {g cap n m : Nat} {x : Nat → α} {ce : Nat → List Value} {Ls : Nat → List Nat} (h : SlO E t w g cap n x ce Ls) (hm : E.sz = m) : View (layRaw m) t w 0 0 (.slice (some ⟨g, 0, none⟩) n cap) n ce ce :=
  ⟨by rw [← hm] at *; exact h.row, fun i hi => ⟨rfl, by rw [← hm]; exact E.own_len (h.each i hi), fun v hv => E.own_one (h.each i hi) v hv⟩⟩
theorem zero_RecT (w : World) : (zeroValue 40).run Try.prog w = .ok (.agg #[.string ByteArray.empty, .bool false, .slice none 0 0]) w := by kernel_rfl
theorem zeros_oneT (n : Nat) : ∀ v, v ∈ (Builtin.zeroCells #[.string ByteArray.empty, .bool false, .slice none 0 0] n).toList → v.oneCell' = true := fun v hv => by
  simp only [Builtin.zeroCells, Array.toList_map, List.mem_map] at hv
  obtain ⟨i, _, rfl⟩ := hv
  have hi : i % 3 < 3 := Nat.mod_lt _ (by decide)
  show (#[.string ByteArray.empty, .bool false, .slice none 0 0] : Array Value)[i % 3]!.oneCell' = true
  generalize i % 3 = j at hi
  match j, hi with
  | 0, _ => rfl
  | 1, _ => rfl
  | 2, _ => rfl
/-- clear over records: the row's head is as it was -/
theorem run_clearZT (z : Value) (zs : Array Value) (hv : ∀ w, (zeroValue 40).run Try.prog w = .ok z w) (hz : z.cells = zs) (h9 : zs.size = 3) (hone : ∀ n v, v ∈ (Builtin.zeroCells zs n).toList → v.oneCell' = true) (w : World) (ty g o n c : Nat) (cur : Array Value) (hg : w.heap[g]? = some (.cells cur 40 (0, 0))) (hn : 0 < n) (hl : o + n * 3 ≤ cur.size) : ∃ row : Array Value, (Builtin.clear_ #[25] ty #[.slice (some ⟨g, o, none⟩) n c]).run Try.prog w = .ok (.tuple #[]) (w.setRow g row) ∧ row.size = cur.size ∧ row.toList.take o = cur.toList.take o := by
  obtain ⟨Z, hZ⟩ : ∃ Z, Z = (Builtin.zeroCells zs n).toList := ⟨_, rfl⟩
  have hlen : Z.length = n * 3 := by rw [hZ]; simp [Builtin.zeroCells, h9]
  have hst := run_storeCells_at (P := Try.prog) g o 40 Z 0 cur w hg (by rw [hlen]; omega) (by rw [hZ]; exact hone n)
  simp only [Nat.add_zero] at hst
  refine ⟨(cur.toList.take o ++ Z ++ cur.toList.drop (o + Z.length)).toArray, ?_, ?_, ?_⟩
  · obtain ⟨m, rfl⟩ : ∃ m, n = m + 1 := ⟨n - 1, by omega⟩
    simp [Builtin.clear_, run_underlying Try.underlying25, hv, hz, ← hZ, hst]
  · simp only [List.size_toArray, List.length_append, List.length_take, List.length_drop, hlen, Array.length_toList]
    omega
  · simp only [List.toList_toArray]
    rw [List.append_assoc, List.take_append_of_le_length (by simp; omega), List.take_take, Nat.min_self]
theorem run_clearRT (w : World) (ty g o n c : Nat) (cur : Array Value) (hg : w.heap[g]? = some (.cells cur 40 (0, 0))) (hn : 0 < n) (hl : o + n * 3 ≤ cur.size) : ∃ row : Array Value, (Builtin.clear_ #[25] ty #[.slice (some ⟨g, o, none⟩) n c]).run Try.prog w = .ok (.tuple #[]) (w.setRow g row) ∧ row.size = cur.size ∧ row.toList.take o = cur.toList.take o :=
  run_clearZT (.agg #[.string ByteArray.empty, .bool false, .slice none 0 0]) #[.string ByteArray.empty, .bool false, .slice none 0 0] zero_RecT rfl rfl zeros_oneT w ty g o n c cur hg hn hl
theorem run_rsFromT (g n cap i : Nat) (hi : i < n) (hn : n ≤ cap) (w : World) : (Instr.slice 25 (.slice (some ⟨g, 0, none⟩) n cap) (some (.int .i64 (i : Int))) none none).run Try.prog w = .ok (.slice (some ⟨g, i * 3, none⟩) (n - i) (cap - i)) w := by
  have e1 : (i : Int) ≤ (n : Int) := by omega
  have e6 : i ≤ n := by omega
  have e7 : ¬ cap = i := by omega
  simp [Instr.slice, run_underlying Try.underlying25, Instr.sliceBounds, Instr.sliceBound, asIntOf, go_sem, e1, e6, e7]
theorem run_rsToT (g n cap i : Nat) (hi : i ≤ cap) (w : World) : (Instr.slice 25 (.slice (some ⟨g, 0, none⟩) n cap) none (some (.int .i64 (i : Int))) none).run Try.prog w = .ok (.slice (some ⟨g, 0, none⟩) i cap) w := by
  have e1 : (i : Int) ≤ (cap : Int) := by omega
  simp [Instr.slice, run_underlying Try.underlying25, Instr.sliceBounds, Instr.sliceBound, asIntOf, go_sem, e1, hi]
set_option maxHeartbeats 8000000 in
set_option maxRecDepth 20000 in
theorem deleteNoneT (ao : Option Addr) (cap : Nat) (fv : Value) (w : World) :
    Calls Try.prog 30 #[.slice ao 0 cap, fv] w fun e w' => e = .returned (.slice ao 0 cap) ∧ w' = w := by
  have CI : Calls Try.prog 22 #[.slice ao 0 cap, fv] w fun e w' => e = .returned (.int .i64 (-1)) ∧ w' = w := by
    go_enter Try.func22, Try.ntmps22
    go_wp2
    go_loop [8] (fun z => z = .int .i64 0) (fun _ => 0)
    case atStart => rfl
    case round =>
      subst hrel
      go_wp2
      go_ret
      exact ⟨rfl, rfl⟩
  have te : ((-1 : Int) == -1) = true := by decide
  go_enter Try.func30, Try.ntmps30
  go_wp2_with fail
  refine CI.mono ?_
  rintro e w1 ⟨rfl, e1⟩
  obtain rfl := e1.symm
  go_wp2
  go_ret
  exact ⟨rfl, rfl⟩
set_option maxHeartbeats 16000000 in
set_option maxRecDepth 100000 in
theorem index_drop (g cap n lo hi : Nat) (x : Nat → List Value) (ce : Nat → List Value) (a0 : Nat) (del : Nat → Bool) (w : World) (hV : View (layRaw 3) 40 w lo hi (.slice (some ⟨g, 0, none⟩) n cap) n x ce) (hhi : hi ≤ w.heap.size) (hn : n ≤ 1048576) (CD : ∀ k, k < n → ∀ w', ChgL [g] w w' → Calls Try.prog 33 #[.agg (ce k).toArray, .pointer (some ⟨a0, 0, none⟩)] w' (fun e w'' => e = .returned (.bool (del k)) ∧ Below w'.heap.size w' w'')) :
    Calls Try.prog 22 #[.slice (some ⟨g, 0, none⟩) n cap, .func (.func 33) #[] #[.pointer (some ⟨a0, 0, none⟩)]] w fun e w' => ((e = .returned (.int .i64 (-1)) ∧ ∀ i, i < n → del i = false) ∨ ∃ i : Nat, i < n ∧ e = .returned (.int .i64 (i : Int)) ∧ del i = true ∧ ∀ t, t < i → del t = false) ∧ Below w.heap.size w w' := by
  have HV : Hid (View (layRaw 3) 40 w lo hi (.slice (some ⟨g, 0, none⟩) n cap) n x ce) := hV
  have HCD : Hid (∀ k, k < n → ∀ w', ChgL [g] w w' → Calls Try.prog 33 #[.agg (ce k).toArray, .pointer (some ⟨a0, 0, none⟩)] w' (fun e w'' => e = .returned (.bool (del k)) ∧ Below w'.heap.size w' w'')) := CD
  clear hV CD
  go_enter Try.func22, Try.ntmps22
  go_wp2
  go_loopw [8] (fun z wr => ∃ k : Nat, k ≤ n ∧ z = .int .i64 k ∧ (∀ t, t < k → del t = false) ∧ Below w.heap.size w wr) (fun z _ => n - (intOf z).toNat)
  case atStart => exact ⟨0, Nat.zero_le _, rfl, fun t ht => by omega, Below.refl _ _⟩
  case round =>
    obtain ⟨k, hk, rfl, hall, hbl⟩ := hrel
    obtain ⟨wx, rfl⟩ : ∃ y, y = wr := ⟨_, rfl⟩
    have HALL : Hid (∀ t, t < k → del t = false) := hall
    have HBL : Hid (Below w.heap.size w wx) := hbl
    have zx := hbl.size
    clear hall
    by_cases hlt : k < n
    · have VX := HV.out.below hbl hhi
      have rgK : wx.rangeAt g (k * 3) (ce k) := VX.range hlt
      have hcK : (ce k).length = 3 := VX.lens k hlt
      have CS := HCD.out k hlt wx (ChgL.of_below hbl)
      obtain ⟨cK, hcKe⟩ : ∃ c, c = ce k := ⟨_, rfl⟩
      rw [← hcKe] at rgK hcK CS
      obtain ⟨t, ht⟩ : ∃ t, t = del k := ⟨_, rfl⟩
      rw [← ht] at CS
      have HT : Hid (t = del k) := ht
      have i1 : (0 : Int) ≤ (k : Int) := by omega
      have i2 : (k : Int) < (n : Int) := by omega
      clear hbl hcKe VX ht
      go_wp2_with (refine wpList_load_mid rfl 40 (.tmp 14) rfl g (k * 3) (by simp [Act.eval]) cK _ rgK Try.underlying40 rfl (info_Thing3 hcK) ?_)
      refine CS.mono ?_
      rintro e w5 ⟨rfl, b5⟩
      have B5 : Hid (Below w.heap.size w w5) := HBL.out.trans (b5.mono zx)
      clear b5 CS rgK
      cases t with
      | true =>
        go_wp2
        go_ret
        exact ⟨.inr ⟨k, hlt, rfl, HT.out.symm, HALL.out⟩, B5.out⟩
      | false =>
        go_wp2
        go_roundw
        case rel => exact ⟨k + 1, by omega, by go_num, fun t ht => by
                      by_cases c : t = k
                      · rw [c]; exact HT.out.symm
                      · exact HALL.out t (by omega), B5.out⟩
        case measure => simp [intOf]; omega
    · obtain rfl : k = n := by omega
      clear hbl
      go_wp2
      go_ret
      exact ⟨.inl ⟨rfl, HALL.out⟩, HBL.out⟩
set_option maxHeartbeats 16000000 in
set_option maxRecDepth 100000 in
/-- those that are deleted are gone, the others stand in their order -/
theorem delete_drop (g cap n lo hi : Nat) (x : Nat → List Value) (ce : Nat → List Value) (a0 : Nat) (del : Nat → Bool) (w : World) (hV : View (layRaw 3) 40 w lo hi (.slice (some ⟨g, 0, none⟩) n cap) n x ce) (hlo : hi ≤ lo) (hlw : lo ≤ w.heap.size) (hn : n ≤ 1048576) (CD : ∀ k, k < n → ∀ w', ChgL [g] w w' → Calls Try.prog 33 #[.agg (ce k).toArray, .pointer (some ⟨a0, 0, none⟩)] w' (fun e w'' => e = .returned (.bool (del k)) ∧ Below w'.heap.size w' w'')) :
    Calls Try.prog 30 #[.slice (some ⟨g, 0, none⟩) n cap, .func (.func 33) #[] #[.pointer (some ⟨a0, 0, none⟩)]] w fun e w' => e = .returned (.slice (some ⟨g, 0, none⟩) (keptI (fun i => !(del i)) n).length cap) ∧ View (layRaw 3) 40 w' lo hi (.slice (some ⟨g, 0, none⟩) (keptI (fun i => !(del i)) n).length cap) (keptI (fun i => !(del i)) n).length (fun i => x (selF (fun i => !(del i)) n i)) (fun i => ce (selF (fun i => !(del i)) n i)) ∧ ChgL [g] w w' := by
  have HV : Hid (View (layRaw 3) 40 w lo hi (.slice (some ⟨g, 0, none⟩) n cap) n x ce) := hV
  have HCD : Hid (∀ k, k < n → ∀ w', ChgL [g] w w' → Calls Try.prog 33 #[.agg (ce k).toArray, .pointer (some ⟨a0, 0, none⟩)] w' (fun e w'' => e = .returned (.bool (del k)) ∧ Below w'.heap.size w' w'')) := CD
  have hnc : n ≤ cap := by
    rcases hV.row.2 with ⟨hn, _⟩ | ⟨g', cap', cur, he, hbg, hgg, hnc, _⟩
    · cases hn
    · cases he; exact hnc
  have HNC : Hid (n ≤ cap) := hnc
  have hgl := hV.row.lt g rfl
  have CI := index_drop g cap n lo hi x ce a0 del w hV (by omega) hn CD
  clear hV CD hnc
  go_enter Try.func30, Try.ntmps30
  go_wp2_with fail
  refine CI.mono ?_
  rintro e w1 ⟨hcase, b1⟩
  have HB1 : Hid (Below w.heap.size w w1) := b1
  have z1 := b1.size
  clear CI b1
  rcases hcase with ⟨rfl, hall⟩ | ⟨i0, hi0, rfl, hp0, hbef⟩
  · have HALL : Hid (∀ i, i < n → (fun i => !(del i)) i = true) := fun i hi => by show (!(del i)) = true; rw [hall i hi]; rfl
    clear hall
    have te : ((-1 : Int) == -1) = true := by decide
    go_wp2
    go_ret
    have em : (keptI (fun i => !(del i)) n).length = n := by rw [kept_all HALL.out]; simp
    rw [em]
    exact ⟨rfl, (HV.out.below HB1.out (by omega)).congr2 (fun i hi => by rw [sel_all HALL.out hi]) (fun i hi => by rw [sel_all HALL.out hi]), ChgL.of_below HB1.out⟩
  have HP0 : Hid ((fun i => !(del i)) i0 = false) := by show (!(del i0)) = false; rw [hp0]; rfl
  have HBEF : Hid (∀ t, t < i0 → (fun i => !(del i)) t = true) := fun t ht => by show (!(del t)) = true; rw [hbef t ht]; rfl
  clear hp0 hbef
  have te : ((i0 : Int) == -1) = false := beq_eq_false_iff_ne.2 (by omega)
  have zi : IntKind.i64.wrap ((i0 : Int) + 1) = (i0 : Int) + 1 := by rw [IntKind.wrap_i64]; omega
  go_wp2
  go_loopw [5, 6] (fun v z wr => ∃ j : Nat, j ≤ n ∧ i0 < j ∧ z = .int .i64 j ∧ v = .int .i64 ((keptI (fun i => !(del i)) j).length : Nat) ∧ View (layRaw 3) 40 wr lo hi (.slice (some ⟨g, 0, none⟩) n cap) n (mixF (fun i => !(del i)) (j) x) (mixF (fun i => !(del i)) (j) ce) ∧ ChgL [g] w wr) (fun _ z _ => n - (intOf z).toNat)
  case atStart =>
    refine ⟨i0 + 1, by omega, by omega, by simp, ?_, ?_, ChgL.of_below HB1.out⟩
    · rw [kept_skip HP0.out, kept_all HBEF.out]; simp
    · exact (HV.out.below HB1.out (by omega)).congr2 (fun m _ => by rw [mix_skip x HP0.out, mix_all x HBEF.out]) (fun m _ => by rw [mix_skip ce HP0.out, mix_all ce HBEF.out])
  case round =>
    obtain ⟨j, hj, hij, rfl, rfl, hrow, hch⟩ := hrel
    obtain ⟨wx, rfl⟩ : ∃ y, y = wr := ⟨_, rfl⟩
    have HCH : Hid (ChgL [g] w wx) := hch
    have HRW : Hid (View (layRaw 3) 40 wx lo hi (.slice (some ⟨g, 0, none⟩) n cap) n (mixF (fun i => !(del i)) (j) x) (mixF (fun i => !(del i)) (j) ce)) := hrow
    have zx := hch.size
    have hless : (keptI (fun i => !(del i)) j).length < j := kept_less hij HP0.out
    clear hch
    by_cases hlt : j < n
    · have em : (mixF (fun i => !(del i)) (j) ce) j = ce j := mix_at ce (Nat.le_of_lt hless)
      have ex : (mixF (fun i => !(del i)) (j) x) j = x j := mix_at x (Nat.le_of_lt hless)
      have rgJ : wx.rangeAt g (j * 3) (ce j) := by have := hrow.range hlt; rw [em] at this; exact this
      have hcJ : (ce j).length = 3 := by have := hrow.lens j hlt; rw [em] at this; exact this
      have rdJ : (layRaw 3).rd wx hi (x j) (ce j) := by have := hrow.each j hlt; rw [em, ex] at this; exact this
      obtain ⟨cJ, hcJe⟩ : ∃ c, c = ce j := ⟨_, rfl⟩
      have HCJ : Hid (cJ = ce j) := hcJe
      rw [← hcJe] at rgJ hcJ rdJ
      have oneJ : ∀ v, v ∈ cJ → v.oneCell' = true := rdOne_raw3 _ _ _ _ rdJ
      have HRJ : Hid ((layRaw 3).rd wx hi (x j) cJ) := rdJ
      have i1 : (0 : Int) ≤ (j : Int) := by omega
      have i2 : (j : Int) < (n : Int) := by omega
      have bV : Below wx.heap.size wx (wx.alloc (.cells cJ.toArray 40)) := (Below.refl _ _).alloc (Nat.le_refl _) _
      have V1 : Box (wx.alloc (.cells cJ.toArray 40)) wx.heap.size cJ.toArray 40 := box_new _ _ _
      clear em ex hrow rdJ hcJe
      go_upto_region 8 with (first | (refine wpList_load_mid rfl 40 (.tmp 24) rfl g (j * 3) (by simp [Act.eval]) cJ _ rgJ Try.underlying40 rfl (info_Thing3 hcJ) ?_) | (refine wp_allocStore 40 7 (.tmp 25) cJ _ 3 rfl rfl rfl rfl rfl rfl rfl rfl info_ThingZ rfl hcJ oneJ ?_))
      obtain ⟨W5, hW5⟩ : ∃ y, y = wx.alloc (.cells cJ.toArray 40) := ⟨_, rfl⟩
      rw [← hW5] at bV V1 ⊢
      clear hW5 rgJ
      have z5 := bV.size
      have HV1 : Hid (Box W5 wx.heap.size cJ.toArray 40) := V1
      have z5' := V1.lt
      have C5 : ChgL [g] w W5 := HCH.out.trans (ChgL.of_below bV)
      have CS := HCD.out j hlt W5 C5
      rw [← HCJ.out] at CS
      obtain ⟨t, ht⟩ : ∃ t, t = del j := ⟨_, rfl⟩
      rw [← ht] at CS
      have HT : Hid ((fun i => !(del i)) j = !t) := by rw [ht]; exact rfl
      have HC5 : Hid (ChgL [g] w W5) := C5
      have HR5 : Hid (View (layRaw 3) 40 W5 lo hi (.slice (some ⟨g, 0, none⟩) n cap) n (mixF (fun i => !(del i)) (j) x) (mixF (fun i => !(del i)) (j) ce)) := HRW.out.below bV (by omega)
      have HRJ5 : Hid ((layRaw 3).rd W5 hi (x j) cJ) := (layRaw 3).rd_below HRJ.out bV (by omega)
      clear ht C5 V1 bV
      go_wp2_with (refine wp_loadBox 40 (.tmp 7) rfl rfl (wx.heap.size) rfl (cs := cJ) HV1.out Try.underlying40 size_Thing hcJ ?_)
      refine CS.mono ?_
      rintro e w6 ⟨rfl, b6⟩
      have z6 := b6.size
      have HV6 : Hid (Box w6 wx.heap.size cJ.toArray 40) := HV1.out.below b6 z5'
      have C6 : Hid (ChgL [g] w w6) := HC5.out.trans (ChgL.of_below b6)
      have HS6 : Hid (View (layRaw 3) 40 w6 lo hi (.slice (some ⟨g, 0, none⟩) n cap) n (mixF (fun i => !(del i)) (j) x) (mixF (fun i => !(del i)) (j) ce)) := HR5.out.below b6 (by omega)
      have HRJ6 : Hid ((layRaw 3).rd w6 hi (x j) cJ) := (layRaw 3).rd_below HRJ5.out b6 (by omega)
      clear b6 CS HV1 HC5 HR5 HRJ5
      cases t with
      | true =>
        go_wp2
        go_roundw
        case rel => exact ⟨j + 1, by omega, by omega, by go_num, by rw [kept_skip HT.out], HS6.out.congr2 (fun m _ => (mix_skip x HT.out m).symm) (fun m _ => (mix_skip ce HT.out m).symm), C6.out⟩
        case measure => simp [intOf]; omega
      | false =>
        obtain ⟨q, hq⟩ : ∃ q, q = (keptI (fun i => !(del i)) j).length := ⟨_, rfl⟩
        have HQ : Hid (q = (keptI (fun i => !(del i)) j).length) := hq
        have hqn : q < n := by omega
        rw [← hq]
        have k1 : (0 : Int) ≤ (q : Int) := by omega
        have k2 : (q : Int) < (n : Int) := by omega
        have hth : w6.there g (q * 3) cJ.length := by rw [hcJ]; exact HS6.out.there hqn
        have hpk : (fun i => !(del i)) j = true := HT.out
        have hnx : (keptI (fun i => !(del i)) (j + 1)).length = q + 1 := by rw [hq, kept_succ, if_pos hpk]; simp
        have HNX : Hid ((keptI (fun i => !(del i)) (j + 1)).length = q + 1) := hnx
        have HV7 : Hid (View (layRaw 3) 40 (w6.setCells g (q * 3) cJ) lo hi (.slice (some ⟨g, 0, none⟩) n cap) n (mixF (fun i => !(del i)) (j + 1) x) (mixF (fun i => !(del i)) (j + 1) ce)) := by
          have := HS6.out.put (by decide) hlo hqn HRJ6.out
          refine this.congr2 (fun m _ => ?_) (fun m _ => ?_)
          · have := mix_keep (p := (fun i => !(del i))) (j := j) x hpk m
            rw [← hq] at this
            exact this
          · have := mix_keep (p := (fun i => !(del i))) (j := j) ce hpk m
            rw [← hq, ← HCJ.out] at this
            exact this
        have C7 : Hid (ChgL [g] w (w6.setCells g (q * 3) cJ)) := C6.out.trans (chgL_setCells g cJ w6 _)
        have zq : IntKind.i64.wrap ((q : Int) + 1) = (q : Int) + 1 := by rw [IntKind.wrap_i64]; omega
        clear hq hnx hpk
        go_wp2_with (first | (refine wp_loadBox 40 (.tmp 7) rfl rfl (wx.heap.size) rfl (cs := cJ) HV6.out Try.underlying40 size_Thing hcJ ?_) | (refine wpList_store_mid rfl 40 (.tmp 33) (.tmp 32) rfl g (q * 3) cJ.toArray (by simp [Act.eval]) (by simp [Act.eval]) (show w6.there g (q * 3) cJ.toArray.size by rw [List.size_toArray]; exact hth) (show _ = some cJ.toArray.size by rw [List.size_toArray]; exact info_Thing3 hcJ) (all_oneCell_toArray oneJ) ?_; rw [show cJ.toArray.toList = cJ from rfl]))
        go_roundw
        case rel => exact ⟨j + 1, by omega, by omega, by go_num, by rw [HNX.out]; simp, HV7.out, C7.out⟩
        case measure => simp [intOf]; omega
    · obtain rfl : j = n := by omega
      obtain ⟨q, hq⟩ : ∃ q, q = (keptI (fun i => !(del i)) j).length := ⟨_, rfl⟩
      have HQ : Hid (q = (keptI (fun i => !(del i)) j).length) := hq
      have S5 := HRW.out
      have hlens := S5.lens
      rcases S5.row.2 with ⟨hnn, _⟩ | ⟨g', cap', cur, he, hbg, hgg, hnc', hcm, hcs, htk⟩
      · cases hnn
      cases he
      have hqn : q < j := by omega
      obtain ⟨row, hcl, hrs, hrt⟩ := run_clearRT wx 0 g (q * 3) (j - q) (cap - q) cur hgg (by omega) (by
        have h9 : cur.size = cap * 3 := hcs
        have : q * 3 + (j - q) * 3 ≤ cap * 3 := by rw [← Nat.add_mul]; exact Nat.mul_le_mul_right 3 (by omega)
        omega)
      have hf := run_rsFromT g j cap q hqn HNC.out
      have ht := fun w' => run_rsToT g j cap q (by omega) w'
      obtain ⟨W7, hW7⟩ : ∃ y, y = wx.setRow g row := ⟨_, rfl⟩
      rw [← hW7] at hcl
      have C7 : Hid (ChgL [g] w W7) := by
        rw [hW7]
        exact HCH.out.trans (chgL_setRow g row)
      have C7x : ChgL [g] wx W7 := by rw [hW7]; exact chgL_setRow g row
      have bX : Below lo wx W7 := C7x.bel (fun b hb => by simp at hb; omega) (by omega)
      have R7 : Hid (View (layRaw 3) 40 W7 lo hi (.slice (some ⟨g, 0, none⟩) q cap) q (fun i => x (selF (fun i => !(del i)) j i)) (fun i => ce (selF (fun i => !(del i)) j i))) := by
        have e1 : catN q (mixF (fun i => !(del i)) (j) ce) = catN q (fun i => ce (selF (fun i => !(del i)) j i)) := catN_congr (fun i hi => by
          show mixF _ j ce i = _
          unfold mixF
          rw [if_pos (by rw [← hq]; exact hi)])
        have hl9 : ∀ i, i < q → (ce (selF (fun i => !(del i)) j i)).length = (layRaw 3).sz := fun i hi => by
          have := hlens i (by omega)
          unfold mixF at this
          rw [if_pos (by rw [← hq]; exact hi)] at this
          exact this
        refine ⟨⟨catN_len hl9, .inr ⟨g, cap, row, rfl, hbg, by rw [hW7]; exact setRow_heap wx g cur row 40 (0, 0) hgg, by omega, hcm, by rw [hrs]; exact hcs, ?_⟩⟩, fun i hi => ?_⟩
        · rw [← e1, ← catN_take hlens (Nat.le_of_lt hqn), ← htk, List.take_take, Nat.min_eq_left (Nat.mul_le_mul_right _ (Nat.le_of_lt hqn))]
          exact hrt
        · have h1 := S5.each i (by omega)
          unfold mixF at h1
          rw [if_pos (by rw [← hq]; exact hi), if_pos (by rw [← hq]; exact hi)] at h1
          exact (layRaw 3).rd_below h1 bX hlo
      clear S5 hlens hgg htk hcs hcm hnc' hbg hrs hrt hW7 hless C7x bX
      rw [← hq]
      clear hq
      go_wp2_with (simp only [hcl])
      go_ret
      rw [← HQ.out]
      exact ⟨rfl, R7.out, C7.out⟩
end Go.Proofs.Ytapnjoophlckoaa

namespace Go.Proofs.Ytapnjoophlckoaa
open Go.RowKit F256
set_option linter.unusedVariables false
set_option linter.unusedSimpArgs false
set_option maxHeartbeats 8000000 in
set_option maxRecDepth 20000 in
theorem same1_any (a b : ThingD) (c1 c2 : List Value) (h1 h2 : Nat) (w : World) (r1 : layThing.rd w h1 a c1) (r2 : layThing.rd w h2 b c2) (u1 : h1 ≤ w.heap.size) (u2 : h2 ≤ w.heap.size) :
    Calls Try.prog 36 #[.agg c1.toArray, .agg c2.toArray] w (BoolP (SameT a b) w) := by
  obtain ⟨xo, xc, rfl, p2, -⟩ := Thing_rd r1
  obtain ⟨yo, yc, rfl, q2, -⟩ := Thing_rd r2
  obtain ⟨_, e, p2, _⟩ := p2
  cases e
  obtain ⟨_, e, q2, _⟩ := q2
  cases e
  clear r1 r2
  have T0 := two_newb w #[.string a.name, .bool a.lost, .slice xo a.bytes.1 xc] #[.string b.name, .bool b.lost, .slice yo b.bytes.1 yc] 40 40
  have HT0 : Hid (Two w ((w.alloc (.cells #[.string a.name, .bool a.lost, .slice xo a.bytes.1 xc] 40)).alloc (.cells #[.string b.name, .bool b.lost, .slice yo b.bytes.1 yc] 40)) #[.string a.name, .bool a.lost, .slice xo a.bytes.1 xc] #[.string b.name, .bool b.lost, .slice yo b.bytes.1 yc] 40 40) := T0
  obtain ⟨e2, he2⟩ : ∃ t, (a.name.toList == b.name.toList) = t := ⟨_, rfl⟩
  have HE2 : Hid (e2 = true ↔ a.name = b.name) := by show _ ↔ _; rw [← he2, beq_iff_eq]; exact toList_inj
  have he2' : decide (a.name.toList = b.name.toList) = e2 := by rw [← he2, Bool.eq_iff_iff]; simp
  obtain ⟨e1, he1⟩ : ∃ t, (a.lost == b.lost) = t := ⟨_, rfl⟩
  have HE1 : Hid (e1 = true ↔ a.lost = b.lost) := by show _ ↔ _; rw [← he1]; exact beq_iff_eq
  obtain ⟨t7, ht7⟩ := exB (SameP a.bytes.1 b.bytes.1 a.bytes.2 b.bytes.2)
  have C7 := fun (w' : World) (hb : Below w.heap.size w w') => det_b (equalB_any _ _ a.bytes.1 b.bytes.1 a.bytes.2 b.bytes.2 h1 h2 w' (p2.below hb u1) (q2.below hb u2)) ht7
  have HT7 : Hid (t7 = true ↔ SameP a.bytes.1 b.bytes.1 a.bytes.2 b.bytes.2) := ht7
  clear p2 q2 ht7 T0
  go_enter Try.func36, Try.ntmps36
  cases e2 with
  | false =>
    go_wp2
    go_ret
    exact boolNo rfl (fun h => by have := HE2.out.2 h.name; simp at this) HT0.out.bel
  | true =>
  cases e1 with
  | false =>
    go_wp2
    go_ret
    exact boolNo rfl (fun h => by have := HE1.out.2 h.lost; simp at this) HT0.out.bel
  | true =>
  go_wp2_with fail
  refine (C7 _ HT0.out.bel).mono ?_
  rintro e w7 ⟨rfl, b7⟩
  have HB : Hid (Below w.heap.size w w7) := (HT0.out.call b7).bel
  clear b7
  go_wp2
  go_ret
  exact ⟨t7, rfl, ⟨fun h => ⟨HE2.out.1 (by simp), HE1.out.1 (by simp), HT7.out.1 h⟩, fun h => HT7.out.2 h.bytes⟩, HB.out⟩
set_option maxHeartbeats 8000000 in
set_option maxRecDepth 20000 in
theorem equalFunc_any (p q : Nat × (Nat → ThingD)) (v1 v2 : Value) (h1 h2 : Nat) (w : World) (r1 : (layThing.slice 40).rd w h1 p [v1]) (r2 : (layThing.slice 40).rd w h2 q [v2]) (u1 : h1 ≤ w.heap.size) (u2 : h2 ≤ w.heap.size) :
    Calls Try.prog 35 #[v1, v2, .func (.func 36) #[] #[]] w (BoolP (SameTs p q) w) := by
  obtain ⟨n, x⟩ := p
  obtain ⟨m, y⟩ := q
  obtain ⟨ao, cap, hv, hm, hc⟩ := r1
  cases hv
  obtain ⟨ao', cap', hv', hm', hc'⟩ := r2
  cases hv'
  simp only at hm hc hm' hc'
  unfold maxLen at hm hm'
  have HC : Hid (n ≠ 0 → ∃ b off, ao = some ⟨b, off, none⟩ ∧ b < h1 ∧ ∀ i, i < n → ∃ ce, layThing.rd w h1 (x i) ce ∧ ∀ j, j < layThing.sz → w.cell? ⟨b, off + (i * layThing.sz + j), none⟩ = ce[j]?) := hc
  have HC' : Hid (m ≠ 0 → ∃ b off, ao' = some ⟨b, off, none⟩ ∧ b < h2 ∧ ∀ i, i < m → ∃ ce, layThing.rd w h2 (y i) ce ∧ ∀ j, j < layThing.sz → w.cell? ⟨b, off + (i * layThing.sz + j), none⟩ = ce[j]?) := hc'
  clear hc hc'
  go_enter Try.func35, Try.ntmps35
  by_cases hnm : ¬ n = m
  · have hne : decide ((n : Int) = (m : Int)) = false := decide_eq_false (by omega)
    have hne2 : ((n : Int) != (m : Int)) = true := by simp; omega
    have HN : Hid (¬ n = m) := hnm
    clear hnm
    go_wp2
    go_ret
    exact boolNo rfl (fun h => HN.out h.len) (Below.refl _ _)
  obtain rfl : n = m := Classical.not_not.1 hnm
  clear hnm
  go_wp2
  go_loopw [17] (fun z wr => ∃ k : Nat, k ≤ n ∧ z = .int .i64 k ∧ (∀ t, t < k → SameT (x t) (y t)) ∧ Below w.heap.size w wr) (fun z _ => n - (intOf z).toNat)
  case atStart => exact ⟨0, Nat.zero_le _, rfl, fun t ht => by omega, Below.refl _ _⟩
  case round =>
    obtain ⟨k, hk, rfl, hall, hbl⟩ := hrel
    obtain ⟨wx, rfl⟩ : ∃ y, y = wr := ⟨_, rfl⟩
    have HALL : Hid (∀ t, t < k → SameT (x t) (y t)) := hall
    have HBL : Hid (Below w.heap.size w wx) := hbl
    have zx := hbl.size
    clear hall
    by_cases hlt : k < n
    · obtain ⟨b, off, rfl, hblt, hel⟩ := HC.out (by omega)
      obtain ⟨b', off', rfl, hblt', hel'⟩ := HC'.out (by omega)
      obtain ⟨ck, hrk, hcell⟩ := elem_rd (t := 0) hel hbl u1 hblt hlt
      obtain ⟨ck', hrk', hcell'⟩ := elem_rd (t := 0) hel' hbl u2 hblt' hlt
      obtain ⟨ao2, cap2, rfl, -⟩ := Thing_rd hrk
      obtain ⟨bo2, bcap2, rfl, -⟩ := Thing_rd hrk'
      have c0 : wx.cell? ⟨b, off + k * 3, none⟩ = some (.string (x k).name) := hcell 0 (by decide)
      have c1 : wx.cell? ⟨b, off + k * 3 + 1, none⟩ = some (.bool (x k).lost) := hcell 1 (by decide)
      have c2 : wx.cell? ⟨b, off + k * 3 + 2, none⟩ = some (.slice ao2 (x k).bytes.1 cap2) := hcell 2 (by decide)
      have e0 : wx.cell? ⟨b', off' + k * 3, none⟩ = some (.string (y k).name) := hcell' 0 (by decide)
      have e1 : wx.cell? ⟨b', off' + k * 3 + 1, none⟩ = some (.bool (y k).lost) := hcell' 1 (by decide)
      have e2 : wx.cell? ⟨b', off' + k * 3 + 2, none⟩ = some (.slice bo2 (y k).bytes.1 bcap2) := hcell' 2 (by decide)
      have hb1 : b < wx.heap.size := by omega
      have hb2 : b' < wx.heap.size := by omega
      obtain ⟨t, ht⟩ := exB (SameT (x k) (y k))
      have CS := fun (w' : World) (hb : Below wx.heap.size wx w') => det_b (same1_any (x k) (y k) _ _ h1 h2 w' (layThing.rd_below hrk hb (by omega)) (layThing.rd_below hrk' hb (by omega)) (Nat.le_trans (by omega) hb.size) (Nat.le_trans (by omega) hb.size)) ht
      have HT : Hid (t = true ↔ SameT (x k) (y k)) := ht
      clear hbl hel hel' hcell hcell' hrk hrk' ht
      have i1 : (0 : Int) ≤ (k : Int) := by omega
      have i2 : (k : Int) < (n : Int) := by omega
      go_wp2_with fail
      refine (CS _ (((Below.refl _ _).alloc (Nat.le_refl _) _).alloc (by simp) _)).mono ?_
      rintro e w5 ⟨rfl, b5⟩
      have HB5 : Hid (Below w.heap.size w w5) := HBL.out.trans ((((Below.refl wx.heap.size wx).alloc (Nat.le_refl _) _).alloc (by simp) _ |>.trans (b5.mono (by simp; omega))).mono zx)
      clear b5 CS c0 c1 c2 e0 e1 e2
      cases t with
      | false =>
        go_wp2
        go_ret
        exact boolNo rfl (fun h => by have := HT.out.2 (h.each k hlt); simp at this) HB5.out
      | true =>
        go_wp2
        go_roundw
        case rel => exact ⟨k + 1, by omega, by go_num, fun t ht => by
                      by_cases c : t = k
                      · rw [c]; exact HT.out.1 (by simp)
                      · exact HALL.out t (by omega), HB5.out⟩
        case measure => simp [intOf]; omega
    · obtain rfl : k = n := by omega
      clear hbl
      go_wp2
      go_ret
      exact boolYes rfl ⟨rfl, HALL.out⟩ HBL.out
set_option maxHeartbeats 8000000 in
set_option maxRecDepth 20000 in
theorem implSameTs_any (p q : Nat × (Nat → ThingD)) (v1 v2 : Value) (h1 h2 : Nat) (w : World) (r1 : (layThing.slice 40).rd w h1 p [v1]) (r2 : (layThing.slice 40).rd w h2 q [v2]) (u1 : h1 ≤ w.heap.size) (u2 : h2 ≤ w.heap.size) :
    Calls Try.prog 19 #[v1, v2] w (BoolP (SameTs p q) w) := by
  have CE := equalFunc_any p q v1 v2 h1 h2 w r1 r2 u1 u2
  obtain ⟨P, hP⟩ : ∃ P, P = SameTs p q := ⟨_, rfl⟩
  rw [← hP] at CE ⊢
  obtain ⟨n, x⟩ := p
  obtain ⟨m, y⟩ := q
  obtain ⟨ao, cap, hv, -⟩ := r1
  cases hv
  obtain ⟨ao', cap', hv', -⟩ := r2
  cases hv'
  clear hP
  go_enter Try.func19, Try.ntmps19
  go_wp2_with fail
  refine CE.mono ?_
  rintro e w1 ⟨t, rfl, ht, b1⟩
  have HT : Hid (t = true ↔ P) := ht
  clear ht
  go_wp2
  go_ret
  exact ⟨t, rfl, HT.out, b1⟩
set_option maxHeartbeats 8000000 in
set_option maxRecDepth 20000 in
theorem specSameTs_any (p q : Nat × (Nat → ThingD)) (v1 v2 : Value) (h1 h2 : Nat) (w : World) (r1 : (layThing.slice 40).rd w h1 p [v1]) (r2 : (layThing.slice 40).rd w h2 q [v2]) (u1 : h1 ≤ w.heap.size) (u2 : h2 ≤ w.heap.size) :
    Calls Try.prog 18 #[v1, v2] w (BoolP (SameTs p q) w) := by
  obtain ⟨n, x⟩ := p
  obtain ⟨m, y⟩ := q
  obtain ⟨ao, cap, hv, hm, hc⟩ := r1
  cases hv
  obtain ⟨ao', cap', hv', hm', hc'⟩ := r2
  cases hv'
  simp only at hm hc hm' hc'
  unfold maxLen at hm hm'
  have HC : Hid (n ≠ 0 → ∃ b off, ao = some ⟨b, off, none⟩ ∧ b < h1 ∧ ∀ i, i < n → ∃ ce, layThing.rd w h1 (x i) ce ∧ ∀ j, j < layThing.sz → w.cell? ⟨b, off + (i * layThing.sz + j), none⟩ = ce[j]?) := hc
  have HC' : Hid (m ≠ 0 → ∃ b off, ao' = some ⟨b, off, none⟩ ∧ b < h2 ∧ ∀ i, i < m → ∃ ce, layThing.rd w h2 (y i) ce ∧ ∀ j, j < layThing.sz → w.cell? ⟨b, off + (i * layThing.sz + j), none⟩ = ce[j]?) := hc'
  clear hc hc'
  go_enter Try.func18, Try.ntmps18
  by_cases hnm : ¬ n = m
  · have hne : decide ((n : Int) = (m : Int)) = false := decide_eq_false (by omega)
    have hne2 : ((n : Int) != (m : Int)) = true := by simp; omega
    have HN : Hid (¬ n = m) := hnm
    clear hnm
    go_wp2
    go_ret
    exact boolNo rfl (fun h => HN.out h.len) (Below.refl _ _)
  obtain rfl : n = m := Classical.not_not.1 hnm
  clear hnm
  go_wp2
  go_loopw [5] (fun z wr => ∃ k : Nat, k ≤ n ∧ z = .int .i64 k ∧ (∀ t, t < k → SameT (x t) (y t)) ∧ Below w.heap.size w wr) (fun z _ => n - (intOf z).toNat)
  case atStart => exact ⟨0, Nat.zero_le _, rfl, fun t ht => by omega, Below.refl _ _⟩
  case round =>
    obtain ⟨k, hk, rfl, hall, hbl⟩ := hrel
    obtain ⟨wx, rfl⟩ : ∃ y, y = wr := ⟨_, rfl⟩
    have HALL : Hid (∀ t, t < k → SameT (x t) (y t)) := hall
    have HBL : Hid (Below w.heap.size w wx) := hbl
    have zx := hbl.size
    clear hall
    by_cases hlt : k < n
    · obtain ⟨b, off, rfl, hblt, hel⟩ := HC.out (by omega)
      obtain ⟨b', off', rfl, hblt', hel'⟩ := HC'.out (by omega)
      obtain ⟨ck, hrk, hcell⟩ := elem_rd (t := 0) hel hbl u1 hblt hlt
      obtain ⟨ck', hrk', hcell'⟩ := elem_rd (t := 0) hel' hbl u2 hblt' hlt
      obtain ⟨ao2, cap2, rfl, p2, -⟩ := Thing_rd hrk
      obtain ⟨bo2, bcap2, rfl, q2, -⟩ := Thing_rd hrk'
      obtain ⟨_, e, p2, _⟩ := p2
      cases e
      obtain ⟨_, e, q2, _⟩ := q2
      cases e
      have c0 : wx.cell? ⟨b, off + k * 3, none⟩ = some (.string (x k).name) := hcell 0 (by decide)
      have c1 : wx.cell? ⟨b, off + k * 3 + 1, none⟩ = some (.bool (x k).lost) := hcell 1 (by decide)
      have c2 : wx.cell? ⟨b, off + k * 3 + 2, none⟩ = some (.slice ao2 (x k).bytes.1 cap2) := hcell 2 (by decide)
      have e0 : wx.cell? ⟨b', off' + k * 3, none⟩ = some (.string (y k).name) := hcell' 0 (by decide)
      have e1 : wx.cell? ⟨b', off' + k * 3 + 1, none⟩ = some (.bool (y k).lost) := hcell' 1 (by decide)
      have e2 : wx.cell? ⟨b', off' + k * 3 + 2, none⟩ = some (.slice bo2 (y k).bytes.1 bcap2) := hcell' 2 (by decide)
      obtain ⟨t, ht⟩ := exB (SameP (x k).bytes.1 (y k).bytes.1 (x k).bytes.2 (y k).bytes.2)
      have C7 := q_below (W := wx) (fun (w' : World) (hb : Below wx.heap.size wx w') => det_b (l2Same_any _ _ (x k).bytes.1 (y k).bytes.1 (x k).bytes.2 (y k).bytes.2 h1 h2 w' (p2.below hb (by omega)) (q2.below hb (by omega))) ht)
      have HT : Hid (t = true ↔ SameP (x k).bytes.1 (y k).bytes.1 (x k).bytes.2 (y k).bytes.2) := ht
      obtain ⟨na, hna⟩ : ∃ z, z = (x k).name := ⟨_, rfl⟩
      obtain ⟨nb, hnb⟩ : ∃ z, z = (y k).name := ⟨_, rfl⟩
      obtain ⟨la, hla⟩ : ∃ z, z = (x k).lost := ⟨_, rfl⟩
      obtain ⟨lb, hlb⟩ : ∃ z, z = (y k).lost := ⟨_, rfl⟩
      have HX : Hid (SameT (x k) (y k) ↔ na = nb ∧ la = lb ∧ t = true) := by
        show _ ↔ _
        rw [hna, hnb, hla, hlb, ht]
        exact ⟨fun h => ⟨h.name, h.lost, h.bytes⟩, fun h => ⟨h.1, h.2.1, h.2.2⟩⟩
      rw [← hna] at c0
      rw [← hla] at c1
      rw [← hnb] at e0
      rw [← hlb] at e1
      clear hbl hel hel' hcell hcell' hrk hrk' ht p2 q2 hna hnb hla hlb
      have i1 : (0 : Int) ≤ (k : Int) := by omega
      have i2 : (k : Int) < (n : Int) := by omega
      have cf0 := cell_regrown c0
      have cf1 := cell_regrown c1
      have cf2 := cell_regrown c2
      have ef0 := cell_regrown e0
      have ef1 := cell_regrown e1
      have ef2 := cell_regrown e2
      have close : ∀ (w7 : World) , (∃ p : Regrown, w7 = Go.Sort.grow (redrawn wx p.d) p.os) → Below w.heap.size w w7 := fun w7 h => HBL.out.trans ((below_rg h).mono zx)
      obtain ⟨en, hen⟩ : ∃ t, (na.toList == nb.toList) = t := ⟨_, rfl⟩
      have HEN : Hid (en = true ↔ na = nb) := by show _ ↔ _; rw [← hen, beq_iff_eq]; exact toList_inj
      have hen' : decide (na.toList = nb.toList) = en := by rw [← hen, Bool.eq_iff_iff]; simp
      have hen2 : (na.toList != nb.toList) = !en := by rw [← hen]; rfl
      go_upto_region 6 with fail
      go_cut [54] (fun v wz => Below w.heap.size w wz ∧ ∃ tt : Bool, v = .bool tt ∧ (tt = false ↔ SameT (x k) (y k)))
      case first =>
        cases en with
        | false =>
          refine WQ.region (by kernel_rfl) (by kernel_rfl) ?_
          repeat (first | (apply WQ.skip; (case hw => rfl); intro K hK; go_simp; apply hK; clear hK K) | (apply WQ.want; (case hw => rfl); intro K hK; go_simp; first | (apply hK; clear hK K) | (apply Exists.intro; apply And.intro; (case left => intro p; (first | (go_at_call 34; exact C7 _ _))); apply hK; clear hK K)))
          refine WQ.nil ?_
          intro w7 h7
          have H7 : Hid (Below w.heap.size w w7) := close _ h7
          have HS : Hid (true = false ↔ SameT (x k) (y k)) := by show _ ↔ _; rw [HX.out]; simp; intro h; exact absurd (HEN.out.2 h) (by simp)
          clear h7
          go_wp2
          go_meet
          exact ⟨H7.out, _, rfl, HS.out⟩
        | true =>
        cases la <;> cases lb
        all_goals
          refine WQ.region (by kernel_rfl) (by kernel_rfl) ?_
          repeat (first | (apply WQ.skip; (case hw => rfl); intro K hK; go_simp; apply hK; clear hK K) | (apply WQ.want; (case hw => rfl); intro K hK; go_simp; first | (apply hK; clear hK K) | (apply Exists.intro; apply And.intro; (case left => intro p; (first | (go_at_call 34; exact C7 _ _))); apply hK; clear hK K)))
          refine WQ.nil ?_
          intro w7 h7
          have H7 : Hid (Below w.heap.size w w7) := close _ h7
          have HN : Hid (na = nb) := HEN.out.1 rfl
          clear h7
          go_wp2
          go_meet
          exact ⟨H7.out, _, rfl, by rw [HX.out]; simp [HN.out]⟩
      case rest =>
        obtain ⟨hbc, tt, rfl, htt⟩ := hcut
        have HTT : Hid (tt = false ↔ SameT (x k) (y k)) := htt
        have HBC : Hid (Below w.heap.size w wc) := hbc
        clear htt hbc
        cases tt with
        | true =>
          go_wp2
          go_ret
          exact boolNo rfl (fun h => by have := HTT.out.2 (h.each k hlt); simp at this) HBC.out
        | false =>
          go_wp2
          go_roundw
          case rel => exact ⟨k + 1, by omega, by go_num, fun t ht => by
                        by_cases c : t = k
                        · rw [c]; exact HTT.out.1 rfl
                        · exact HALL.out t (by omega), HBC.out⟩
          case measure => simp [intOf]; omega
    · obtain rfl : k = n := by omega
      clear hbl
      go_wp2
      go_ret
      exact boolYes rfl ⟨rfl, HALL.out⟩ HBL.out
end Go.Proofs.Ytapnjoophlckoaa

namespace Go.Proofs.Ytapnjoophlckoaa
open Go.RowKit F256
set_option linter.unusedVariables false
set_option linter.unusedSimpArgs false
def keepT (b : ByteArray) (t : ThingD) : Bool := !(t.name.toList == b.toList)
/-- the things of another name -/
def dropL (p : Nat × (Nat → ThingD)) (b : ByteArray) : Nat × (Nat → ThingD) := ((keptI (fun i => keepT b (p.2 i)) p.1).length, fun m => p.2 (selF (fun i => keepT b (p.2 i)) p.1 m))
theorem sel_next {β : Type} (p : Nat → Bool) (x : Nat → β) {k : Nat} (h : p k = true) (i : Nat) (hi : i < (keptI p k).length + 1) : upd (fun m => x (selF p k m)) (keptI p k).length (x k) i = x (selF p (k + 1) i) := by
  by_cases c : i = (keptI p k).length
  · subst c
    rw [upd_at, selF_last h]
  · rw [upd_ne _ _ c, selF_more (by omega)]
set_option maxHeartbeats 8000000 in
set_option maxRecDepth 20000 in
theorem specDrop_any (p : Nat × (Nat → ThingD)) (bn : ByteArray) (v : Value) (hi : Nat) (w : World) (h : (layThing.slice 40).rd w hi p [v]) (hhi : hi ≤ w.heap.size) (hn : szSl szThingD p ≤ 1048576) :
    Calls Try.prog 16 #[v, .string bn] w fun e w' => ∃ v', e = .returned v' ∧ OwnT (layThing.slice 40) w' w.heap.size w'.heap.size (dropL p bn) [v'] ∧ Below w.heap.size w w' := by
  obtain ⟨n, x⟩ := p
  obtain ⟨ao, cap, hv, hm, hc⟩ := h
  cases hv
  have hn1 := szSl_n hn
  have hn2 : ∀ i, i < n → szThingD (x i) ≤ 1048576 := fun i hi => szSl_at hn hi
  simp only at hn1 hm hc
  have HC : Hid (n ≠ 0 → ∃ b off, ao = some ⟨b, off, none⟩ ∧ b < hi ∧ ∀ i, i < n → ∃ ce, layThing.rd w hi (x i) ce ∧ ∀ j, j < layThing.sz → w.cell? ⟨b, off + (i * layThing.sz + j), none⟩ = ce[j]?) := hc
  clear hn hc
  go_enter Try.func16, Try.ntmps16
  go_wp2
  go_loopw [5, 6] (fun v i wr => ∃ (k : Nat) (ao' : Option Addr) (cap' : Nat), k ≤ n ∧ i = .int .i64 k ∧ v = .slice ao' (keptI (fun i => keepT bn (x i)) k).length cap' ∧ Gat layThing 40 wr w.heap.size (.slice ao' (keptI (fun i => keepT bn (x i)) k).length cap') (keptI (fun i => keepT bn (x i)) k).length (fun m => x (selF (fun i => keepT bn (x i)) k m)) ∧ Below w.heap.size w wr) (fun _ i _ => n - (intOf i).toNat)
  case atStart => exact ⟨0, _, _, Nat.zero_le _, rfl, rfl, gat_lit0 _ _, (Below.refl _ _).alloc (Nat.le_refl _) _⟩
  case round =>
    obtain ⟨k, ao', cap', hk, rfl, rfl, G, hb⟩ := hrel
    obtain ⟨wo, rfl⟩ : ∃ y, y = wr := ⟨_, rfl⟩
    have HB : Hid (Below w.heap.size w wo) := hb
    have zo : w.heap.size ≤ wo.heap.size := hb.size
    have hq1 : (keptI (fun i => keepT bn (x i)) k).length ≤ k := kept_le _ _
    obtain ⟨q, hq⟩ : ∃ q, q = (keptI (fun i => keepT bn (x i)) k).length := ⟨_, rfl⟩
    rw [← hq] at G hq1
    have HQ : Hid (q = (keptI (fun i => keepT bn (x i)) k).length) := hq
    rw [← hq]
    have HG : Hid (Gat layThing 40 wo w.heap.size (.slice ao' q cap') q (fun m => x (selF (fun i => keepT bn (x i)) k m))) := G
    clear G hq
    by_cases hlt : k < n
    · obtain ⟨b, off, he, hblt, hel⟩ := HC.out (by omega)
      subst he
      obtain ⟨ck, hrk, hcell⟩ := elem_rd (t := 0) hel hb hhi hblt hlt
      obtain ⟨ao2, cap2, rfl, -⟩ := Thing_rd hrk
      have c0 : wo.cell? ⟨b, off + k * 3, none⟩ = some (.string (x k).name) := hcell 0 (by decide)
      have c1 : wo.cell? ⟨b, off + k * 3 + 1, none⟩ = some (.bool (x k).lost) := hcell 1 (by decide)
      have c2 : wo.cell? ⟨b, off + k * 3 + 2, none⟩ = some (.slice ao2 (x k).bytes.1 cap2) := hcell 2 (by decide)
      have CC := l13Copy_is _ (x k) hi wo hrk (Nat.le_trans hhi zo) (hn2 k hlt)
      clear hel hcell hrk hb
      have i1 : (0 : Int) ≤ (k : Int) := by omega
      have i2 : (k : Int) < (n : Int) := by omega
      obtain ⟨en, hen⟩ : ∃ t, ((x k).name.toList == bn.toList) = t := ⟨_, rfl⟩
      have HP : Hid ((fun i => keepT bn (x i)) k = !en) := by show (!((x k).name.toList == bn.toList)) = !en; rw [hen]
      have hen' : decide ((x k).name.toList = bn.toList) = en := by rw [← hen, Bool.eq_iff_iff]; simp
      have hen2 : ((x k).name.toList != bn.toList) = !en := by rw [← hen]; rfl
      cases en with
      | true =>
        have HK : Hid ((keptI (fun i => keepT bn (x i)) (k + 1)).length = q) := by show _ = _; rw [HQ.out, kept_skip HP.out]
        clear CC c1 c2
        go_wp2
        go_roundw
        case rel => exact ⟨k + 1, ao', cap', by omega, by go_num, by rw [HK.out], by rw [HK.out]; exact HG.out.congr (fun i hi => by rw [selF_more (by rw [← HQ.out]; exact hi)]), HB.out⟩
        case measure => simp [intOf]; omega
      | false =>
        have HK : Hid ((keptI (fun i => keepT bn (x i)) (k + 1)).length = q + 1) := by show _ = _; have hp : keepT bn (x k) = true := HP.out; rw [HQ.out, kept_succ]; simp [hp]
        go_wp2_with fail
        refine CC.mono ?_
        rintro e w2 ⟨cs', rfl, o2, b2⟩
        obtain ⟨bo2, bc2, rfl⟩ := Thing_cells o2
        clear CC c0 c1 c2
        go_wp2_with (at_builtin; refine wp_appendN el_Thing rfl (.tmp 21) (.tmp 27) rfl (lo := w.heap.size) (n := q) (v := .slice ao' q cap') (x := (fun m => x (selF (fun i => keepT bn (x i)) k m))) ?_ HG.out b2 o2 ?_ w2.heap.size 1 ?_ (fun j _ => cells_new w2 _ _ j) (by omega) (by omega) ?_; (simp [Act.eval]); (exact (Below.refl _ _).alloc (Nat.le_refl _) _); (simp [Act.eval]); intro v4 w4 g4 b4; obtain ⟨ao4, cap4, rfl⟩ := g4.form)
        go_roundw
        case rel => exact ⟨k + 1, ao4, cap4, by omega, by go_num, by rw [HK.out], by rw [HK.out]; exact g4.congr (fun i hi => by have := sel_next (fun i => keepT bn (x i)) x HP.out i (by rw [← HQ.out]; exact hi); rw [← HQ.out] at this; exact this), HB.out.trans b4⟩
        case measure => simp [intOf]; omega
    · obtain rfl : k = n := by omega
      clear hb
      go_wp2
      go_ret
      have ow := HG.out.own
      rw [HQ.out] at ow ⊢
      exact ⟨_, rfl, ow, HB.out⟩
set_option maxHeartbeats 8000000 in
set_option maxRecDepth 20000 in
theorem drop1_any (a0 : Nat) (bn na : ByteArray) (l : Bool) (o : Option Addr) (m c : Nat) (w : World) (h0 : w.cell? ⟨a0, 0, none⟩ = some (.string bn)) (hl : a0 < w.heap.size) :
    Calls Try.prog 33 #[.agg #[.string na, .bool l, .slice o m c], .pointer (some ⟨a0, 0, none⟩)] w fun e w' => e = .returned (.bool (na.toList == bn.toList)) ∧ Below w.heap.size w w' := by
  obtain ⟨en, hen⟩ : ∃ t, (na.toList == bn.toList) = t := ⟨_, rfl⟩
  have hen' : decide (na.toList = bn.toList) = en := by rw [← hen, Bool.eq_iff_iff]; simp
  have T0 := one_new w #[.string na, .bool l, .slice o m c] 40
  have h1 : (w.alloc (.cells #[.string na, .bool l, .slice o m c] 40)).cell? ⟨a0, 0, none⟩ = some (.string bn) := (T0.bel.cell (p := ⟨a0, 0, none⟩) hl).trans h0
  have HB : Hid (Below w.heap.size w (w.alloc (.cells #[.string na, .bool l, .slice o m c] 40))) := T0.bel
  clear T0
  rw [hen]
  go_enter Try.func33, Try.ntmps33
  go_wp2
  go_ret
  exact ⟨rfl, HB.out⟩
theorem thing_none {w : World} {x y : Nat → ThingD} {v : Value} {K : List Nat} (h : (layThing.slice 40).own w (0, x) [v] K) : (layThing.slice 40).own w (0, y) [v] K := by
  obtain ⟨v', ce, Ls, e, eK, hr, _⟩ := h
  exact ⟨v', ce, Ls, e, eK, hr, fun i hi => by cases hi⟩
/-- slices.DeleteFunc over an owned list of things -/
theorem delete_thing {w : World} {p : Nat × (Nat → ThingD)} {ao : Option Addr} {cap : Nat} {K : List Nat} (h : (layThing.slice 40).own w p [.slice ao p.1 cap] K) (nd : K.Nodup) (hn : p.1 ≤ 1048576) (a0 : Nat) (bn : ByteArray) (h0 : w.cell? ⟨a0, 0, none⟩ = some (.string bn)) (hl0 : a0 < w.heap.size) (hk0 : a0 ∉ K) :
    Calls Try.prog 30 #[.slice ao p.1 cap, .func (.func 33) #[] #[.pointer (some ⟨a0, 0, none⟩)]] w fun e w' => ∃ ao' cap' K', e = .returned (.slice ao' (dropL p bn).1 cap') ∧ (layThing.slice 40).own w' (dropL p bn) [.slice ao' (dropL p bn).1 cap'] K' ∧ K'.Nodup ∧ (∀ b, b ∈ K' → b ∈ K) ∧ ChgL K w w' := by
  by_cases h0' : p.1 = 0
  · obtain ⟨n, x⟩ := p
    simp only at h0'
    subst h0'
    refine (deleteNoneT ao cap _ w).mono ?_
    rintro e w' ⟨rfl, rfl⟩
    exact ⟨ao, cap, K, rfl, thing_none h, nd, fun b hb => hb, ChgL.refl _ _⟩
  · obtain ⟨g, cap', ce, Ls, e, eK, S⟩ := slice_form h h0'
    simp only [List.cons.injEq, Value.slice.injEq, and_true, true_and] at e
    obtain ⟨rfl, rfl⟩ := e
    subst eK
    have hg0 : a0 ≠ g := fun hh => hk0 (by rw [hh]; exact List.mem_cons_self ..)
    refine (delete_drop g cap p.1 0 0 ce ce a0 (fun i => ((p.2 i).name.toList == bn.toList)) w (S.raw rfl) (Nat.le_refl _) (Nat.zero_le _) hn (fun k hk w' hc => ?_)).mono ?_
    · obtain ⟨o2, c2, e2⟩ := Thing_cellsO (S.each k hk)
      rw [e2]
      exact drop1_any a0 bn _ _ _ _ _ w' (by
        have hb := hc.block a0 hl0 (by simp; exact hg0)
        have e9 : w'.cell? ⟨a0, 0, none⟩ = w.cell? ⟨a0, 0, none⟩ := by simp [World.cell?, hb]
        rw [e9]; exact h0) (Nat.lt_of_lt_of_le hl0 hc.size)
    rintro e w' ⟨rfl, hr, hc⟩
    obtain ⟨s1, s2, s3⟩ := S.select nd (p := (fun i => keepT bn (p.2 i))) hr.row (fun b hb => .inl (by simpa [Value.ownBlock] using hb.symm)) (fun b hb => hc.block b (S.mem_lt b (List.mem_cons_of_mem _ hb)) (fun hm => by
      simp only [List.mem_singleton] at hm
      subst hm
      exact (List.nodup_cons.1 nd).1 hb))
    refine ⟨_, cap, _, rfl, s1, s2, fun b hb => ?_, hc.mono (fun b hb => by simp only [List.mem_singleton] at hb; rw [hb]; exact List.mem_cons_self ..)⟩
    rcases s3 b hb with h9 | h9
    · exact h9
    · simp only [Value.ownBlock, Option.toList_some, List.mem_append, List.mem_singleton] at hb
      rcases hb with rfl | hb
      · exact List.mem_cons_self ..
      · obtain ⟨i, hi, hbi⟩ := mem_catN.1 hb
        exact List.mem_cons_of_mem _ (mem_catN.2 ⟨_, selF_lt hi, hbi⟩)
set_option maxHeartbeats 8000000 in
set_option maxRecDepth 20000 in
theorem implDrop_any (p : Nat × (Nat → ThingD)) (bn : ByteArray) (v : Value) (hi : Nat) (w : World) (h : (layThing.slice 40).rd w hi p [v]) (hhi : hi ≤ w.heap.size) (hn : szSl szThingD p ≤ 1048576) :
    Calls Try.prog 17 #[v, .string bn] w fun e w' => ∃ v', e = .returned v' ∧ OwnT (layThing.slice 40) w' w.heap.size w'.heap.size (dropL p bn) [v'] ∧ Below w.heap.size w w' := by
  have hn1 := szSl_n hn
  have T0 := one_new w #[.string bn] 9
  obtain ⟨ao, cap, hv⟩ := sl_form h
  obtain rfl := one_eq hv
  have CC := copyThingS_is _ p hi _ ((layThing.slice 40).rd_below h T0.bel hhi) (Nat.le_trans hhi T0.bel.size) hn
  have HT0 : Hid (One w (w.alloc (.cells #[.string bn] 9)) #[.string bn] 9) := T0
  clear h hv hn T0
  go_enter Try.func17, Try.ntmps17
  go_wp2_with fail
  refine CC.mono ?_
  rintro e w1 ⟨v1, rfl, o1, b1⟩
  obtain ⟨ao1, cap1, hv⟩ := sl_formT o1
  obtain rfl := one_eq hv
  have T1 := HT0.out.call b1
  obtain ⟨K, k1, k2, k3⟩ := o1
  have za : (w.alloc (.cells #[.string bn] 9)).heap.size = w.heap.size + 1 := by simp
  have CD := delete_thing k1 k2 hn1 w.heap.size bn (T1.b1.cell 0) T1.b1.lt (fun hb => by have := (k3 _ hb).1; omega)
  have HB1 : Hid (Below w.heap.size w w1) := T1.bel
  have HK3 : Hid (∀ b, b ∈ K → w.heap.size ≤ b) := fun b hb => by have := (k3 b hb).1; omega
  clear CC hv b1 T1 k1 k2 k3 za
  go_wp2_with fail
  refine CD.mono ?_
  rintro e w2 ⟨ao2, cap2, K2, rfl, p1, p2, p3, p4⟩
  have HO : Hid (OwnT (layThing.slice 40) w2 w.heap.size w2.heap.size (dropL p bn) [.slice ao2 (dropL p bn).1 cap2]) := ⟨K2, p1, p2, fun b hb => ⟨HK3.out b (p3 b hb), (layThing.slice 40).own_lt p1 b hb⟩⟩
  have HB2 : Hid (Below w.heap.size w w2) := HB1.out.trans (p4.bel (fun b hb => HK3.out b hb) HB1.out.size)
  clear CD p1 p2 p3 p4
  go_wp2
  go_ret
  exact ⟨_, rfl, HO.out, HB2.out⟩
end Go.Proofs.Ytapnjoophlckoaa

namespace Go.Proofs.Ytapnjoophlckoaa
open Go.RowKit F256
set_option linter.unusedVariables false
theorem drop_le (p : Nat × (Nat → ThingD)) (bn : ByteArray) : szSl szThingD (dropL p bn) ≤ szSl szThingD p := by
  have h1 := sum_sel (fun i => szThingD (p.2 i)) (fun i => keepT bn (p.2 i)) p.1
  have h2 := kept_le (fun i => keepT bn (p.2 i)) p.1
  unfold szSl dropL
  simp only at h1 ⊢
  omega
theorem drop_sz {p : Nat × (Nat → ThingD)} {bn : ByteArray} (h : szSl szThingD p ≤ 1048576) : szSl szThingD (dropL p bn) ≤ 4000000 := by
  have := drop_le p bn
  omega
end Go.Proofs.Ytapnjoophlckoaa

namespace Go.Proofs.Ytapnjoophlckoaa
open Go.ChangeShapes Go.WideShapes Go.ChangeAt Go.RowKit F256
set_option linter.unusedVariables false
set_option linter.unusedSimpArgs false
set_option maxHeartbeats 16000000 in
set_option maxRecDepth 20000 in
theorem fnExactDropThing_walk (p : Nat × (Nat → ThingD)) (v : Value) (bn : ByteArray) (w : World) (r0 : (layThing.slice 40).rd w w.heap.size p [v]) (hbn : bn.size ≤ maxLen) :
    Calls Try.prog 4 #[v, .string bn] w fun e w' => e = .returned (.bool true) ∧ Below w.heap.size w w' := by
  obtain ⟨ao, cap, hv⟩ := sl_form r0
  obtain rfl := one_eq hv
  have R0 : Hid ((layThing.slice 40).rd w w.heap.size p [.slice ao p.1 cap]) := r0
  clear r0 hv
  unfold maxLen at hbn
  by_cases hbig : 1048576 < bn.size
  · have hb1 : (1048576 : Int) < (bn.size : Int) := by omega
    clear hbig
    go_enter Try.func4, Try.ntmps4
    go_wp2
    go_ret
    exact ⟨rfl, Below.refl _ _⟩
  have hb1 : ¬ (1048576 : Int) < (bn.size : Int) := by omega
  have hbs : bn.size ≤ 1048576 := by omega
  clear hbig
  go_enter Try.func4, Try.ntmps4
  go_wp2_with fail
  refine (szThingS_is _ p w.heap.size 1048576 _ R0.out (Nat.le_refl _) (by omega)).mono ?_
  rintro e w1 ⟨x, rfl, hx, b1⟩
  have HB : Hid (Below w.heap.size w w1) := b1
  have z1 : w.heap.size ≤ w1.heap.size := b1.size
  clear b1
  rcases hx with rfl | ⟨hsz, hx⟩
  · go_wp2
    go_ret
    exact ⟨rfl, HB.out⟩
  have hx0 : ¬ x < 0 := by omega
  have hcA : 1 + cSl cThingD (dropL p bn) ≤ 100000000 := by
    have := cThings_le (dropL p bn) (B := 4000000) (drop_sz hsz)
    omega
  have hcP : 1 + cSl cThingD p ≤ 100000000 := by
    have := cThings_le p (B := 1048576) hsz
    omega
  clear hx
  go_wp2_with fail
  refine (toThingS_is _ p w.heap.size _ ((layThing.slice 40).rd_below R0.out HB.out (Nat.le_refl _)) HB.out.size hsz).mono ?_
  rintro e w2 ⟨v2, rfl, o2, b2⟩
  obtain ⟨a1o, a1c, hv⟩ := sl_formT o2
  obtain rfl := one_eq hv
  clear hv
  have HB' : Hid (Below w.heap.size w w2) := HB.out.trans (b2.mono HB.out.size)
  clear HB
  have HB := HB'
  clear HB'
  have z2 : w1.heap.size ≤ w2.heap.size := b2.size
  have A1 : Hid (OwnT (layThing.slice 40) w2 (w1.heap.size) (w2.heap.size) (p) [.slice a1o (p).1 a1c]) := o2
  clear o2 b2
  go_wp2_with fail
  refine (specDrop_any p bn _ _ _ A1.out.rd (by omega) hsz).mono ?_
  rintro e w3 ⟨v3, rfl, o3, b3⟩
  obtain ⟨s0o, s0c, hv⟩ := sl_formT o3
  obtain rfl := one_eq hv
  clear hv
  have A1' : Hid (OwnT (layThing.slice 40) w3 (w1.heap.size) (w2.heap.size) (p) [.slice a1o (p).1 a1c]) := A1.out.call b3
  clear A1
  have A1 := A1'
  clear A1'
  have HB' : Hid (Below w.heap.size w w3) := HB.out.trans (b3.mono HB.out.size)
  clear HB
  have HB := HB'
  clear HB'
  have z3 : w2.heap.size ≤ w3.heap.size := b3.size
  have S0 : Hid (OwnT (layThing.slice 40) w3 (w2.heap.size) (w3.heap.size) (dropL p bn) [.slice s0o (dropL p bn).1 s0c]) := o3
  clear o3 b3
  clear A1
  go_wp2_with fail
  refine (toThingS_is _ p w.heap.size _ ((layThing.slice 40).rd_below R0.out HB.out (Nat.le_refl _)) HB.out.size hsz).mono ?_
  rintro e w4 ⟨v4, rfl, o4, b4⟩
  obtain ⟨x0o, x0c, hv⟩ := sl_formT o4
  obtain rfl := one_eq hv
  clear hv
  have S0' : Hid (OwnT (layThing.slice 40) w4 (w2.heap.size) (w3.heap.size) (dropL p bn) [.slice s0o (dropL p bn).1 s0c]) := S0.out.call b4
  clear S0
  have S0 := S0'
  clear S0'
  have HB' : Hid (Below w.heap.size w w4) := HB.out.trans (b4.mono HB.out.size)
  clear HB
  have HB := HB'
  clear HB'
  have z4 : w3.heap.size ≤ w4.heap.size := b4.size
  have X0 : Hid (OwnT (layThing.slice 40) w4 (w3.heap.size) (w4.heap.size) (p) [.slice x0o (p).1 x0c]) := o4
  clear o4 b4
  go_wp2_with fail
  refine (implDrop_any p bn _ _ _ X0.out.rd (by omega) hsz).mono ?_
  rintro e w5 ⟨v5, rfl, o5, b5⟩
  obtain ⟨g0o, g0c, hv⟩ := sl_formT o5
  obtain rfl := one_eq hv
  clear hv
  have S0' : Hid (OwnT (layThing.slice 40) w5 (w2.heap.size) (w3.heap.size) (dropL p bn) [.slice s0o (dropL p bn).1 s0c]) := S0.out.call b5
  clear S0
  have S0 := S0'
  clear S0'
  have X0' : Hid (OwnT (layThing.slice 40) w5 (w3.heap.size) (w4.heap.size) (p) [.slice x0o (p).1 x0c]) := X0.out.call b5
  clear X0
  have X0 := X0'
  clear X0'
  have HB' : Hid (Below w.heap.size w w5) := HB.out.trans (b5.mono HB.out.size)
  clear HB
  have HB := HB'
  clear HB'
  have z5 : w4.heap.size ≤ w5.heap.size := b5.size
  have G0 : Hid (OwnT (layThing.slice 40) w5 (w4.heap.size) (w5.heap.size) (dropL p bn) [.slice g0o (dropL p bn).1 g0c]) := o5
  clear o5 b5
  go_wp2_with fail
  refine (eqThingS_is _ _ _ _ _ _ G0.out.rd S0.out.rd (by omega) (by omega)).mono ?_
  rintro e w6 ⟨rfl, b6⟩
  have S0' : Hid (OwnT (layThing.slice 40) w6 (w2.heap.size) (w3.heap.size) (dropL p bn) [.slice s0o (dropL p bn).1 s0c]) := S0.out.call b6
  clear S0
  have S0 := S0'
  clear S0'
  have X0' : Hid (OwnT (layThing.slice 40) w6 (w3.heap.size) (w4.heap.size) (p) [.slice x0o (p).1 x0c]) := X0.out.call b6
  clear X0
  have X0 := X0'
  clear X0'
  have G0' : Hid (OwnT (layThing.slice 40) w6 (w4.heap.size) (w5.heap.size) (dropL p bn) [.slice g0o (dropL p bn).1 g0c]) := G0.out.call b6
  clear G0
  have G0 := G0'
  clear G0'
  have HB' : Hid (Below w.heap.size w w6) := HB.out.trans (b6.mono HB.out.size)
  clear HB
  have HB := HB'
  clear HB'
  have z6 : w5.heap.size ≤ w6.heap.size := b6.size
  clear b6
  go_wp2_with fail
  refine (toThingS_is _ p w.heap.size _ ((layThing.slice 40).rd_below R0.out HB.out (Nat.le_refl _)) HB.out.size hsz).mono ?_
  rintro e w7 ⟨v7, rfl, o7, b7⟩
  obtain ⟨a3o, a3c, hv⟩ := sl_formT o7
  obtain rfl := one_eq hv
  clear hv
  have S0' : Hid (OwnT (layThing.slice 40) w7 (w2.heap.size) (w3.heap.size) (dropL p bn) [.slice s0o (dropL p bn).1 s0c]) := S0.out.call b7
  clear S0
  have S0 := S0'
  clear S0'
  have X0' : Hid (OwnT (layThing.slice 40) w7 (w3.heap.size) (w4.heap.size) (p) [.slice x0o (p).1 x0c]) := X0.out.call b7
  clear X0
  have X0 := X0'
  clear X0'
  have G0' : Hid (OwnT (layThing.slice 40) w7 (w4.heap.size) (w5.heap.size) (dropL p bn) [.slice g0o (dropL p bn).1 g0c]) := G0.out.call b7
  clear G0
  have G0 := G0'
  clear G0'
  have HB' : Hid (Below w.heap.size w w7) := HB.out.trans (b7.mono HB.out.size)
  clear HB
  have HB := HB'
  clear HB'
  have z7 : w6.heap.size ≤ w7.heap.size := b7.size
  have A3 : Hid (OwnT (layThing.slice 40) w7 (w6.heap.size) (w7.heap.size) (p) [.slice a3o (p).1 a3c]) := o7
  clear o7 b7
  go_wp2_with fail
  refine (eqThingS_is _ _ _ _ _ _ X0.out.rd A3.out.rd (by omega) (by omega)).mono ?_
  rintro e w8 ⟨rfl, b8⟩
  have S0' : Hid (OwnT (layThing.slice 40) w8 (w2.heap.size) (w3.heap.size) (dropL p bn) [.slice s0o (dropL p bn).1 s0c]) := S0.out.call b8
  clear S0
  have S0 := S0'
  clear S0'
  have X0' : Hid (OwnT (layThing.slice 40) w8 (w3.heap.size) (w4.heap.size) (p) [.slice x0o (p).1 x0c]) := X0.out.call b8
  clear X0
  have X0 := X0'
  clear X0'
  have G0' : Hid (OwnT (layThing.slice 40) w8 (w4.heap.size) (w5.heap.size) (dropL p bn) [.slice g0o (dropL p bn).1 g0c]) := G0.out.call b8
  clear G0
  have G0 := G0'
  clear G0'
  have A3' : Hid (OwnT (layThing.slice 40) w8 (w6.heap.size) (w7.heap.size) (p) [.slice a3o (p).1 a3c]) := A3.out.call b8
  clear A3
  have A3 := A3'
  clear A3'
  have HB' : Hid (Below w.heap.size w w8) := HB.out.trans (b8.mono HB.out.size)
  clear HB
  have HB := HB'
  clear HB'
  have z8 : w7.heap.size ≤ w8.heap.size := b8.size
  clear b8
  clear A3
  go_wp2_with fail
  refine (mark_S markThingS_is X0.out (1) (by omega)).mono ?_
  rintro e w9 ⟨rfl, o9, c9⟩
  have S0' : Hid (OwnT (layThing.slice 40) w9 (w2.heap.size) (w3.heap.size) (dropL p bn) [.slice s0o (dropL p bn).1 s0c]) := S0.out.chg c9 (by omega)
  clear S0
  have S0 := S0'
  clear S0'
  have G0' : Hid (OwnT (layThing.slice 40) w9 (w4.heap.size) (w5.heap.size) (dropL p bn) [.slice g0o (dropL p bn).1 g0c]) := G0.out.chg c9 (by omega)
  clear G0
  have G0 := G0'
  clear G0'
  have HB' : Hid (Below w.heap.size w w9) := HB.out.trans (c9.bel (by omega) HB.out.size)
  clear HB
  have HB := HB'
  clear HB'
  have z9 : w8.heap.size ≤ w9.heap.size := c9.size
  clear X0
  have X0 : Hid (OwnT (layThing.slice 40) w9 (w3.heap.size) (w4.heap.size) (mkSl cThingD mkThingD (1) (p)) [.slice x0o (p).1 x0c]) := o9
  clear o9 c9
  have hk0 : ¬ (((1 + cSl cThingD p : Nat)) : Int) < 0 := by omega
  go_wp2_with fail
  refine (eqThingS_is _ _ _ _ _ _ G0.out.rd S0.out.rd (by omega) (by omega)).mono ?_
  rintro e w10 ⟨rfl, b10⟩
  have S0' : Hid (OwnT (layThing.slice 40) w10 (w2.heap.size) (w3.heap.size) (dropL p bn) [.slice s0o (dropL p bn).1 s0c]) := S0.out.call b10
  clear S0
  have S0 := S0'
  clear S0'
  have X0' : Hid (OwnT (layThing.slice 40) w10 (w3.heap.size) (w4.heap.size) (mkSl cThingD mkThingD (1) (p)) [.slice x0o (p).1 x0c]) := X0.out.call b10
  clear X0
  have X0 := X0'
  clear X0'
  have G0' : Hid (OwnT (layThing.slice 40) w10 (w4.heap.size) (w5.heap.size) (dropL p bn) [.slice g0o (dropL p bn).1 g0c]) := G0.out.call b10
  clear G0
  have G0 := G0'
  clear G0'
  have HB' : Hid (Below w.heap.size w w10) := HB.out.trans (b10.mono HB.out.size)
  clear HB
  have HB := HB'
  clear HB'
  have z10 : w9.heap.size ≤ w10.heap.size := b10.size
  clear b10
  go_wp2_with fail
  refine (mark_S markThingS_is G0.out (1) (by omega)).mono ?_
  rintro e w11 ⟨rfl, o11, c11⟩
  have S0' : Hid (OwnT (layThing.slice 40) w11 (w2.heap.size) (w3.heap.size) (dropL p bn) [.slice s0o (dropL p bn).1 s0c]) := S0.out.chg c11 (by omega)
  clear S0
  have S0 := S0'
  clear S0'
  have X0' : Hid (OwnT (layThing.slice 40) w11 (w3.heap.size) (w4.heap.size) (mkSl cThingD mkThingD (1) (p)) [.slice x0o (p).1 x0c]) := X0.out.chg c11 (by omega)
  clear X0
  have X0 := X0'
  clear X0'
  have HB' : Hid (Below w.heap.size w w11) := HB.out.trans (c11.bel (by omega) HB.out.size)
  clear HB
  have HB := HB'
  clear HB'
  have z11 : w10.heap.size ≤ w11.heap.size := c11.size
  clear G0
  have G0 : Hid (OwnT (layThing.slice 40) w11 (w4.heap.size) (w5.heap.size) (mkSl cThingD mkThingD (1) (dropL p bn)) [.slice g0o (dropL p bn).1 g0c]) := o11
  clear o11 c11
  go_wp2_with fail
  refine (heldThingS_is _ (dropL p bn) _ 1 _ G0.out.rd (by omega) (by omega)).mono ?_
  rintro e w12 ⟨rfl, b12⟩
  have S0' : Hid (OwnT (layThing.slice 40) w12 (w2.heap.size) (w3.heap.size) (dropL p bn) [.slice s0o (dropL p bn).1 s0c]) := S0.out.call b12
  clear S0
  have S0 := S0'
  clear S0'
  have X0' : Hid (OwnT (layThing.slice 40) w12 (w3.heap.size) (w4.heap.size) (mkSl cThingD mkThingD (1) (p)) [.slice x0o (p).1 x0c]) := X0.out.call b12
  clear X0
  have X0 := X0'
  clear X0'
  have G0' : Hid (OwnT (layThing.slice 40) w12 (w4.heap.size) (w5.heap.size) (mkSl cThingD mkThingD (1) (dropL p bn)) [.slice g0o (dropL p bn).1 g0c]) := G0.out.call b12
  clear G0
  have G0 := G0'
  clear G0'
  have HB' : Hid (Below w.heap.size w w12) := HB.out.trans (b12.mono HB.out.size)
  clear HB
  have HB := HB'
  clear HB'
  have z12 : w11.heap.size ≤ w12.heap.size := b12.size
  clear b12
  have hq0 : ¬ (((1 + cSl cThingD (dropL p bn) : Nat)) : Int) < 0 := by omega
  have hqe : ((((1 + cSl cThingD (dropL p bn) : Nat)) : Int) != (((1 + cSl cThingD (dropL p bn) : Nat)) : Int)) = false := by simp
  go_wp2_with fail
  refine (toThingS_is _ p w.heap.size _ ((layThing.slice 40).rd_below R0.out HB.out (Nat.le_refl _)) HB.out.size hsz).mono ?_
  rintro e w13 ⟨v13, rfl, o13, b13⟩
  obtain ⟨a5o, a5c, hv⟩ := sl_formT o13
  obtain rfl := one_eq hv
  clear hv
  have S0' : Hid (OwnT (layThing.slice 40) w13 (w2.heap.size) (w3.heap.size) (dropL p bn) [.slice s0o (dropL p bn).1 s0c]) := S0.out.call b13
  clear S0
  have S0 := S0'
  clear S0'
  have X0' : Hid (OwnT (layThing.slice 40) w13 (w3.heap.size) (w4.heap.size) (mkSl cThingD mkThingD (1) (p)) [.slice x0o (p).1 x0c]) := X0.out.call b13
  clear X0
  have X0 := X0'
  clear X0'
  have G0' : Hid (OwnT (layThing.slice 40) w13 (w4.heap.size) (w5.heap.size) (mkSl cThingD mkThingD (1) (dropL p bn)) [.slice g0o (dropL p bn).1 g0c]) := G0.out.call b13
  clear G0
  have G0 := G0'
  clear G0'
  have HB' : Hid (Below w.heap.size w w13) := HB.out.trans (b13.mono HB.out.size)
  clear HB
  have HB := HB'
  clear HB'
  have z13 : w12.heap.size ≤ w13.heap.size := b13.size
  have A5 : Hid (OwnT (layThing.slice 40) w13 (w12.heap.size) (w13.heap.size) (p) [.slice a5o (p).1 a5c]) := o13
  clear o13 b13
  go_wp2_with fail
  refine (implDrop_any p bn _ _ _ A5.out.rd (by omega) hsz).mono ?_
  rintro e w14 ⟨v14, rfl, o14, b14⟩
  obtain ⟨h0o, h0c, hv⟩ := sl_formT o14
  obtain rfl := one_eq hv
  clear hv
  have S0' : Hid (OwnT (layThing.slice 40) w14 (w2.heap.size) (w3.heap.size) (dropL p bn) [.slice s0o (dropL p bn).1 s0c]) := S0.out.call b14
  clear S0
  have S0 := S0'
  clear S0'
  have X0' : Hid (OwnT (layThing.slice 40) w14 (w3.heap.size) (w4.heap.size) (mkSl cThingD mkThingD (1) (p)) [.slice x0o (p).1 x0c]) := X0.out.call b14
  clear X0
  have X0 := X0'
  clear X0'
  have G0' : Hid (OwnT (layThing.slice 40) w14 (w4.heap.size) (w5.heap.size) (mkSl cThingD mkThingD (1) (dropL p bn)) [.slice g0o (dropL p bn).1 g0c]) := G0.out.call b14
  clear G0
  have G0 := G0'
  clear G0'
  have A5' : Hid (OwnT (layThing.slice 40) w14 (w12.heap.size) (w13.heap.size) (p) [.slice a5o (p).1 a5c]) := A5.out.call b14
  clear A5
  have A5 := A5'
  clear A5'
  have HB' : Hid (Below w.heap.size w w14) := HB.out.trans (b14.mono HB.out.size)
  clear HB
  have HB := HB'
  clear HB'
  have z14 : w13.heap.size ≤ w14.heap.size := b14.size
  have H0 : Hid (OwnT (layThing.slice 40) w14 (w13.heap.size) (w14.heap.size) (dropL p bn) [.slice h0o (dropL p bn).1 h0c]) := o14
  clear o14 b14
  go_wp2_with fail
  refine (eqThingS_is _ _ _ _ _ _ H0.out.rd S0.out.rd (by omega) (by omega)).mono ?_
  rintro e w15 ⟨rfl, b15⟩
  have S0' : Hid (OwnT (layThing.slice 40) w15 (w2.heap.size) (w3.heap.size) (dropL p bn) [.slice s0o (dropL p bn).1 s0c]) := S0.out.call b15
  clear S0
  have S0 := S0'
  clear S0'
  have X0' : Hid (OwnT (layThing.slice 40) w15 (w3.heap.size) (w4.heap.size) (mkSl cThingD mkThingD (1) (p)) [.slice x0o (p).1 x0c]) := X0.out.call b15
  clear X0
  have X0 := X0'
  clear X0'
  have G0' : Hid (OwnT (layThing.slice 40) w15 (w4.heap.size) (w5.heap.size) (mkSl cThingD mkThingD (1) (dropL p bn)) [.slice g0o (dropL p bn).1 g0c]) := G0.out.call b15
  clear G0
  have G0 := G0'
  clear G0'
  have A5' : Hid (OwnT (layThing.slice 40) w15 (w12.heap.size) (w13.heap.size) (p) [.slice a5o (p).1 a5c]) := A5.out.call b15
  clear A5
  have A5 := A5'
  clear A5'
  have H0' : Hid (OwnT (layThing.slice 40) w15 (w13.heap.size) (w14.heap.size) (dropL p bn) [.slice h0o (dropL p bn).1 h0c]) := H0.out.call b15
  clear H0
  have H0 := H0'
  clear H0'
  have HB' : Hid (Below w.heap.size w w15) := HB.out.trans (b15.mono HB.out.size)
  clear HB
  have HB := HB'
  clear HB'
  have z15 : w14.heap.size ≤ w15.heap.size := b15.size
  clear b15
  go_wp2_with fail
  refine (heldThingS_is _ (dropL p bn) _ 1 _ G0.out.rd (by omega) (by omega)).mono ?_
  rintro e w16 ⟨rfl, b16⟩
  have S0' : Hid (OwnT (layThing.slice 40) w16 (w2.heap.size) (w3.heap.size) (dropL p bn) [.slice s0o (dropL p bn).1 s0c]) := S0.out.call b16
  clear S0
  have S0 := S0'
  clear S0'
  have X0' : Hid (OwnT (layThing.slice 40) w16 (w3.heap.size) (w4.heap.size) (mkSl cThingD mkThingD (1) (p)) [.slice x0o (p).1 x0c]) := X0.out.call b16
  clear X0
  have X0 := X0'
  clear X0'
  have G0' : Hid (OwnT (layThing.slice 40) w16 (w4.heap.size) (w5.heap.size) (mkSl cThingD mkThingD (1) (dropL p bn)) [.slice g0o (dropL p bn).1 g0c]) := G0.out.call b16
  clear G0
  have G0 := G0'
  clear G0'
  have A5' : Hid (OwnT (layThing.slice 40) w16 (w12.heap.size) (w13.heap.size) (p) [.slice a5o (p).1 a5c]) := A5.out.call b16
  clear A5
  have A5 := A5'
  clear A5'
  have H0' : Hid (OwnT (layThing.slice 40) w16 (w13.heap.size) (w14.heap.size) (dropL p bn) [.slice h0o (dropL p bn).1 h0c]) := H0.out.call b16
  clear H0
  have H0 := H0'
  clear H0'
  have HB' : Hid (Below w.heap.size w w16) := HB.out.trans (b16.mono HB.out.size)
  clear HB
  have HB := HB'
  clear HB'
  have z16 : w15.heap.size ≤ w16.heap.size := b16.size
  clear b16
  go_wp2
  go_ret
  exact ⟨rfl, HB.out⟩

set_option maxRecDepth 100000 in
theorem fnExactDropThing_lifted (os : Os) (started : os.Started) (H : Type) (enc : TypeId × Value → H) :
    ReturnsInHanded {} Try.checked os 4 .any (Rows.fnExactDropThingSpec.pre6 enc Try.prog Try.f4 Rows.fnExactDropThingRow.domain false) (Rows.fnExactDropThingSpec.post enc Try.prog Try.f4 false true false false) := by
  refine returnsInHanded_of_change (C := Try.checked) frame_own started (by kernel_rfl) Try.func4
    (ChangeSpec.witness6 (enc := enc) (C := Try.checked) false ⟨#[], #[.slice none 0 0, .string ByteArray.empty], []⟩ 8 (by kernel_rfl) (by kernel_rfl) (by kernel_rfl) (by kernel_rfl)) ?_
  intro W base args ds gs before hval0 hW hcnd _
  have hval : ∀ (j : Nat) t v, Try.f4.params[j]? = some t → args[j]? = some v → Value.okWide Try.prog W .any base t v := hval0
  have hW' := hW
  obtain ⟨p, q, hA0, hV, rfl, hfz, hnd⟩ := hW
  have hA : DataW.TrodAll enc Try.prog W 0 (fun _ => true) true Try.f4.params.toList args.toList ds p := hA0
  rw [Try.params4] at hA hval
  obtain ⟨v0, vs0, d0, ds0, p0, q0, hargs, rfl, rfl, h0, r0⟩ := trodAll_cons hA
  obtain ⟨v1, vs1, d1, ds1, p1, q1, rfl, rfl, rfl, h1, r1⟩ := trodAll_cons r0
  obtain ⟨rfl, rfl, rfl⟩ := trodAll_nil r1
  obtain rfl : args = #[v0, v1] := by cases args; simp_all
  obtain ⟨rfl, rfl⟩ := trodVars_none hV
  have k0 := h0
  have lt0 : ∀ x ∈ p0, x.block < W.heap.size := by obtain ⟨m, hm⟩ := k0; exact DataW.trod_lt m _ _ _ hm
  obtain ⟨sa0, sl0, sc0, rfl⟩ := okWide_slice Try.underlying22 (hval 0 22 v0 rfl rfl)
  obtain ⟨a0, rd0⟩ := slice_of_trod opensThings h0
  obtain ⟨n1, rfl, rfl, rfl, hn1⟩ := ChangeMaps.open_string Try.underlying9 (hval 1 9 v1 rfl rfl) h1
  clear hA0 hval0
  refine (fnExactDropThing_walk a0 (.slice sa0 sl0 sc0) n1 W rd0 hn1).mono fun e W' ⟨he, bel⟩ => ?_
  subst he
  exact ⟨_, rfl, _, _, _, [], _, [], hW', trodAll_mk1 (shut_bool Try.underlying4 _), (trodAll_cons_mk (Below.trod frame_laid (by kernel_rfl) (of_decide_eq_true (by kernel_rfl)) k0 bel lt0) (trodAll_cons_mk (ChangeMaps.shut_string Try.underlying9 hn1) trodAll_mk0)), rfl, bel.frame _, fun h => by cases h⟩

theorem fnExactDropThing_proved : Rows.FnExactDropThingSaid :=
  OpenClaim.holds_of_wide 4 Try.f4 rfl rfl rfl rfl rfl rfl rfl ⟨rfl, rfl, rfl, rfl, rfl⟩ rfl rfl rfl rfl rfl (by kernel_rfl) Try.func4 (by kernel_rfl)
    (of_decide_eq_true (by kernel_rfl)) (by unfold Func.isWrapper; first | (rw [if_pos (by decide +kernel)]; kernel_rfl) | (rw [if_neg (by decide +kernel)]; exact ⟨rfl, rfl⟩))
    (fun os started H enc _ => fnExactDropThing_lifted os started H enc)
#print axioms fnExactDropThing_proved
end Go.Proofs.Ytapnjoophlckoaa
