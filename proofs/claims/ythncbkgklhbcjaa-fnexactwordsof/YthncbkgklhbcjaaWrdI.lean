/- Walks of the program's piecesOf and WordsOf. -/
import Derived.Test.YthncbkgklhbcjaaWrdA
import Derived.Test.YthncbkgklhbcjaaShelf
import Derived.Lib.OwnBridge
import Derived.Laws.Strings2
import Derived.Laws.Strings3
namespace Go.Proofs.Ythncbkgklhbcjaa
open Go.RowKit F256
set_option linter.unusedVariables false
set_option linter.unusedSimpArgs false

set_option maxHeartbeats 8000000 in
theorem implPieces_any (b : ByteArray) (hb : b.size ≤ 1048576) (w : World) :
    Calls Try.prog 26 #[.string b, .int .i32 32] w fun e w' => ∃ v', e = .returned v' ∧ OwnS w' w.heap.size w'.heap.size v' (pieces b).length (lst (pieces b)) ∧ Below w.heap.size w w' := by
  go_enter Try.func26, Try.ntmps26
  go_wp2
  go_loopw [5, 6] (fun v x wr => ∃ p : Nat, p ≤ b.size ∧ wr.heap[w.heap.size + 1]? = some (.stringIter b p) ∧ x = .int .i64 ((pcs b p).2 : Int) ∧ OwnS wr w.heap.size wr.heap.size v (pcs b p).1.length (lst (pcs b p).1) ∧ Below w.heap.size w wr) (fun _ _ wr => b.size - wr.iterPos (w.heap.size + 1))
  case atStart =>
    have B0 : Below w.heap.size w (w.alloc (.cells #[] 9)) := (Below.refl _ _).alloc (Nat.le_refl _) _
    have hs : (w.alloc (.cells #[] 9)).heap.size = w.heap.size + 1 := by simp
    refine ⟨0, Nat.zero_le _, ?_, rfl, ?_, ?_⟩
    · have := World.iter_heap (w.alloc (.cells #[] 9)) b 0
      rw [hs] at this
      exact this
    · exact ((ownS_lit0 w (lst [])).alloc _).mono (by show _ ≤ ((w.alloc (.cells #[] 9)).alloc (.stringIter b 0)).heap.size; simp)
    · exact B0.alloc B0.size _
  case round =>
    obtain ⟨p, hp, hit, rfl, hown, hB⟩ := hrel
    obtain ⟨ao, cap, rfl⟩ := hown.slice
    have hfr := pcs_from_le b p
    have hln := pcs_len b p
    have zB := hB.size
    have hit' := hit
    have HI : Hid (wr.iterPos (w.heap.size + 1) = p) := iterPos_of hit'
    have zit : w.heap.size + 1 < wr.heap.size := (Array.getElem?_eq_some_iff.1 hit').1
    clear hit'
    by_cases hlt : p < b.size
    · have move : ∀ p', ∃ w2, w2 = wr.iterAt (w.heap.size + 1) b p' ∧ w2.heap[w.heap.size + 1]? = some (.stringIter b p') ∧ OwnS w2 w.heap.size w2.heap.size (.slice ao (pcs b p).1.length cap) (pcs b p).1.length (lst (pcs b p).1) ∧ Below w.heap.size w w2 ∧ w2.heap.size = wr.heap.size := fun p' =>
        ⟨_, rfl, Lib.iterAt_heap _ _ _ _ _ hit, (hown.iterAt hit).mono (Nat.le_of_eq (Lib.iterAt_size _ _ _ _).symm), Lib.below_iterAt hB (by omega) _ _, Lib.iterAt_size _ _ _ _⟩
      by_cases hy : strB b p < 128
      · obtain ⟨w2, hw2, it2, own2, B2, z2⟩ := move (p + 1)
        have hnx := fun ty => Lib.run_next_ascii_at (P := Try.prog) wr (w.heap.size + 1) b p ty hit hlt (by rw [strB_at]; exact hy)
        rw [strB_at, ← hw2] at hnx
        clear move hw2 hit hown hB
        by_cases h32 : strB b p = 32
        · have ST := pcs_space h32
          rw [h32] at hnx
          obtain ⟨L, hL⟩ : ∃ L, L = (pcs b p).1 := ⟨_, rfl⟩
          obtain ⟨fr, hf⟩ : ∃ fr, fr = (pcs b p).2 := ⟨_, rfl⟩
          rw [← hL, ← hf] at ST
          rw [← hL] at own2 hln ⊢
          rw [← hf] at hfr ⊢
          have E1 : Hid ((pcs b (p + 1)).1 = L ++ [b.extract fr p]) := by show _ = _; rw [ST]
          have E2 : Hid ((pcs b (p + 1)).2 = p + 1) := by show _ = _; rw [ST]
          have i1 : (0 : Int) ≤ (fr : Int) := by omega
          have i2 : (fr : Int) ≤ (p : Int) := by omega
          have i3 : (p : Int) ≤ (b.size : Int) := by omega
          have own3 := own2.snoc (b.extract fr p)
          have nit := own2.not_it it2
          have HNIT : Hid ((Value.slice ao L.length cap).ownBlock ≠ some (w.heap.size + 1)) := nit
          have HIT2 : Hid (w2.heap[w.heap.size + 1]? = some (.stringIter b (p + 1))) := it2
          clear ST hL hf h32 hy own2 nit it2
          go_wp2_with (at_builtin; refine wp_appendS_at rfl (.tmp 19) (.tmp 24) rfl w.heap.size w2.heap.size (.slice ao L.length cap) L.length (lst (L ++ [b.extract fr p])) ?c1 ?c2 w2.heap.size 1 ?c3 ?c4 ?c5 ?c6 ?_)
          case c1 => simp [Act.eval]
          case c2 => exact own3.alloc _
          case c3 => simp [Act.eval]
          case c4 => rw [lst_snoc_at]; simp
          case c5 => omega
          case c6 => simp; omega
          intro v' w3 hown3 hb3 hoth
          obtain ⟨ao', cap', rfl⟩ := hown3.slice
          have B3 : Below w.heap.size w w3 := (B2.alloc B2.size _).trans hb3
          have it3 : w3.heap[w.heap.size + 1]? = some (.stringIter b (p + 1)) := (hoth _ (by simp; omega) HNIT.out).trans (((Below.refl w2.heap.size w2).alloc (Nat.le_refl _) _).block _ (by omega) |>.trans HIT2.out)
          clear hb3 own3 hoth hnx
          go_wp2
          refine ⟨⟨p + 1, by omega, it3, by rw [E2.out]; go_num, by rw [E1.out, length_snoc]; exact hown3, B3⟩, ?_⟩
          rw [iterPos_of it3, HI.out]
          omega
        · have ST := pcs_other h32
          have HST : Hid (pcs b (p + 1) = pcs b p) := ST
          obtain ⟨y, hyy⟩ : ∃ y, y = strB b p := ⟨_, rfl⟩
          rw [← hyy] at hnx h32 hy
          have ty : ((y : Int) == 32) = false := by simp; omega
          have ty2 : decide ((y : Int) = 32) = false := by simp; omega
          have ty3 : decide (y = 32) = false := by simp; omega
          clear ST hyy h32 hy
          go_wp2
          refine ⟨⟨p + 1, by omega, it2, by rw [HST.out], by rw [HST.out]; exact own2, B2⟩, ?_⟩
          rw [iterPos_of it2, HI.out]
          omega
      · obtain ⟨d1, d2, d3, d4⟩ := decode_wide b p hlt (by omega)
        obtain ⟨w2, hw2, it2, own2, B2, z2⟩ := move (p + (Utf8.decode b p).2)
        have hnx := fun ty => Lib.run_next_any_at (P := Try.prog) wr (w.heap.size + 1) b p ty hit hlt
        rw [← hw2] at hnx
        have ST := pcs_skip (b := b) (i := p) _ d4
        obtain ⟨r, hr⟩ : ∃ r, r = (Utf8.decode b p).1 := ⟨_, rfl⟩
        obtain ⟨m, hm⟩ : ∃ m, m = (Utf8.decode b p).2 := ⟨_, rfl⟩
        rw [← hr] at hnx d1
        rw [← hm] at d2 d3 ST it2
        have HST : Hid (pcs b (p + m) = pcs b p) := ST
        have ty : ((r : Int) == 32) = false := by simp; omega
        have ty2 : decide ((r : Int) = 32) = false := by simp; omega
        have ty3 : decide (r = 32) = false := by simp; omega
        clear move hw2 hit hown hB ST hr hm d4 d1 hy
        go_wp2
        refine ⟨⟨p + m, d3, it2, by rw [HST.out], by rw [HST.out]; exact own2, B2⟩, ?_⟩
        rw [iterPos_of it2, HI.out]
        omega
    · have hpe : p = b.size := by omega
      have hnx := fun ty => Lib.run_next_end_at (P := Try.prog) wr (w.heap.size + 1) b p ty hit hlt
      subst hpe
      obtain ⟨L, hL⟩ : ∃ L, L = (pcs b b.size).1 := ⟨_, rfl⟩
      obtain ⟨fr, hf⟩ : ∃ fr, fr = (pcs b b.size).2 := ⟨_, rfl⟩
      have E1 : Hid (pieces b = L ++ [b.extract fr b.size]) := by show pieces b = _; rw [hL, hf]; rfl
      rw [← hL] at hown hln ⊢
      rw [← hf] at hfr ⊢
      have i1 : (0 : Int) ≤ (fr : Int) := by omega
      have i2 : (fr : Int) ≤ (b.size : Int) := by omega
      have own3 := hown.snoc (b.extract fr b.size)
      clear hL hf hlt hit hown
      go_wp2_with (at_builtin; refine wp_appendS_at rfl (.tmp 28) (.tmp 32) rfl w.heap.size wr.heap.size (.slice ao L.length cap) L.length (lst (L ++ [b.extract fr b.size])) ?c1 ?c2 wr.heap.size 1 ?c3 ?c4 ?c5 ?c6 ?_)
      case c1 => simp [Act.eval]
      case c2 => exact own3.alloc _
      case c3 => simp [Act.eval]
      case c4 => rw [lst_snoc_at]; simp
      case c5 => omega
      case c6 => simp; omega
      intro v' w3 hown3 hb3 hoth
      obtain ⟨ao', cap', rfl⟩ := hown3.slice
      have B3 : Below w.heap.size w w3 := (hB.alloc hB.size _).trans hb3
      clear hb3 own3 hoth hnx
      go_wp2
      go_ret
      exact ⟨_, rfl, by rw [E1.out, length_snoc]; exact hown3, B3⟩

theorem strsOf_lst (l : List ByteArray) : strsOf l.length (lst l) = l.map Value.string := by
  apply List.ext_getElem?
  intro i
  by_cases hi : i < l.length
  · rw [strsOf_get _ _ _ hi, lst_at l i hi]; simp [hi]
  · rw [List.getElem?_eq_none (by rw [strsOf_length]; omega), List.getElem?_eq_none (by simp; omega)]
theorem implBlank_any (x : ByteArray) (W : World) : Go.Proofs.FnGives Try.prog 27 #[] #[.string x] (.bool x.toList.isEmpty) W := by
  show Calls Try.prog 27 #[.string x] W _
  go_enter Try.func27, Try.ntmps27
  go_wp2
  go_ret
  exact ⟨rfl, 0, rfl⟩

set_option maxHeartbeats 8000000 in
theorem implWords_any (b : ByteArray) (hb : b.size ≤ 1048576) (w : World) :
    Calls Try.prog 12 #[.string b] w fun e w' => ∃ v', e = .returned v' ∧ OwnS w' w.heap.size w'.heap.size v' (words b).length (lst (words b)) ∧ Below w.heap.size w w' := by
  go_enter Try.func12, Try.ntmps12
  go_wp2_with fail
  refine (implPieces_any b hb w).mono ?_
  rintro e w1 ⟨v', rfl, o1, b1⟩
  have hne : (pieces b).length ≠ 0 := by simp [pieces]
  have o1' : w1.ownsRow w.heap.size 9 1 v' (pieces b).length ((pieces b).map Value.string) := by rw [← strsOf_lst]; exact o1.1
  obtain ⟨g, cap, rfl, hg1, hg2, hnc, hcm, -, hH⟩ := Lib.holds_of_ownsRow o1' (fun e => by obtain ⟨ao, cap, e2⟩ := o1.slice; rw [e2] at e; injection e with _ h2 _; exact hne h2)
  have hle := o1.le
  have eg : ∀ args w, (callFunc 27 args).run Try.prog w = .ok (.enter 27 args) w := enters_of Try.func27 (by kernel_rfl) rfl
  have hcon := shslices_DeleteFunc Value.string (fun _ => rfl) (fun x => x.toList.isEmpty) 27 #[] eg ByteArray.empty Try.zeroValue9 g 0 cap (pieces b).toArray w1 (fun W x _ => implBlank_any x W) (fun n os dk x _ => implBlank_any x _) hH (by simp; unfold maxLen at hle; omega) (by simpa using hnc)
  have hw : ((pieces b).toArray.toList.filter fun x => !x.toList.isEmpty) = words b := rfl
  rw [hw] at hcon
  have hsz : (pieces b).toArray.size = (pieces b).length := by simp
  rw [hsz] at hcon
  have HO : Hid (w1.ownsRow w.heap.size 9 1 (.slice (some ⟨g, 0, none⟩) (pieces b).length cap) (pieces b).length ((pieces b).map Value.string)) := o1'
  have hwl : (words b).length ≤ (pieces b).length := List.length_filter_le _ _
  have HWL : Hid ((words b).length ≤ (pieces b).length) := hwl
  have HB1 : Hid (Below w.heap.size w w1) := b1
  have HG : Hid (w.heap.size ≤ g ∧ g < w1.heap.size) := ⟨hg1, hg2⟩
  clear o1 o1' hH eg hw hsz hwl b1 hle hcm hnc hne hg1 hg2
  generalize hP : pieces b = PB at *
  generalize hW : words b = WB at *
  have HW : Hid (words b = WB) := hW
  clear hP hW
  go_wp2_with fail
  refine hcon.mono ?_
  rintro e w2 ⟨rfl, q, rfl⟩
  have ow := Lib.ownsRow_putRow (q := q) (k := WB.length) (ys := WB ++ List.replicate (PB.length - WB.length) ByteArray.empty) HO.out (by simp; have := HWL.out; omega) HWL.out
  rw [List.take_left] at ow
  have bw := Lib.below_putRow (q := q) (d := (WB ++ List.replicate (PB.length - WB.length) ByteArray.empty).toArray) (enc := Value.string) HB1.out HG.out.1
  have hlt := HG.out.2
  go_wp2
  go_ret
  refine ⟨.slice (some ⟨g, 0, none⟩) WB.length cap, rfl, ⟨by rw [HW.out, strsOf_lst]; exact ow, fun k hk => ?_⟩, bw⟩
  cases hk
  show g < (Go.Sort.putRow _ _ _ _ _).heap.size
  rw [Go.Sort.size_putRow]
  exact hlt
end Go.Proofs.Ythncbkgklhbcjaa
