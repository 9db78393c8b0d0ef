/- The walk of the specification's BytesOfHex. -/
import Derived.Test.YthncbkgklhbcjaaDigA
namespace Go.Proofs.Ythncbkgklhbcjaa
open Go.RowKit F256
set_option linter.unusedVariables false
set_option linter.unusedSimpArgs false

/-- the struct that the specification fills, k bytes of it filled -/
def GS (w wr : World) (f : Nat → Nat) (k : Nat) (ao : Option Addr) (cap : Nat) : Prop :=
  Own wr (w.heap.size + 2) wr.heap.size (.slice ao k cap) k f ∧ Box wr (w.heap.size + 1) #[.int .i64 0, .slice ao k cap] 24 ∧ Box wr w.heap.size #[.int .i64 0, .slice none 0 0] 24 ∧ Below w.heap.size w wr
theorem GS.start (w : World) (f : Nat → Nat) : GS w ((w.alloc (.cells #[.int .i64 0, .slice none 0 0] 24)).alloc (.cells #[.int .i64 0, .slice none 0 0] 24)) f 0 none 0 :=
  ⟨own_nil _ _ _ _, by have h := box_new (w.alloc (.cells #[.int .i64 0, .slice none 0 0] 24)) #[.int .i64 0, .slice none 0 0] 24; simpa using h, (Below.heap_alloc _ _ _ (by simp)).trans (box_new w #[.int .i64 0, .slice none 0 0] 24), ((Below.refl _ _).alloc (Nat.le_refl _) _).alloc (by simp) _⟩
theorem GS.next {w wr w1 : World} {f : Nat → Nat} {k : Nat} {ao ao' : Option Addr} {cap cap' : Nat} {o : Obj} (h : GS w wr f k ao cap)
    (hown : Own w1 (w.heap.size + 2) w1.heap.size (.slice ao' (k + 1) cap') (k + 1) f) (hb : Below (w.heap.size + 2) (wr.alloc o) w1) :
    GS w (w1.setCell ⟨w.heap.size + 1, 1, none⟩ (.slice ao' (k + 1) cap')) f (k + 1) ao' cap' := by
  obtain ⟨h1, h2, h3, h4⟩ := h
  have l2 := h2.lt
  have bx : ∀ b, b < w.heap.size + 2 → w1.heap[b]? = wr.heap[b]? := fun b hbb => by rw [hb.block b hbb]; exact Below.heap_alloc wr o b (by omega)
  have b2 : w1.heap[w.heap.size + 1]? = some (.cells #[.int .i64 0, .slice ao k cap] 24 (0, 0)) := (bx _ (by omega)).trans h2
  have hsz : wr.heap.size ≤ w1.heap.size := by have := hb.size; simp at this; omega
  refine ⟨?_, ?_, ?_, ?_⟩
  · have o1 := out_store w1 (w.heap.size + 1) (w.heap.size + 2) (w.heap.size + 1) 1 (.slice ao' (k + 1) cap') (Nat.le_refl _) (by omega)
    exact (hown.out o1 (.inr (Nat.le_refl _))).weaken (Nat.le_refl _) (Nat.le_of_eq o1.size.symm)
  · exact heap_setCell_same w1 (w.heap.size + 1) 1 _ _ _ b2
  · exact (heap_setCell_other w1 ⟨w.heap.size + 1, 1, none⟩ w.heap.size _ (by show w.heap.size ≠ w.heap.size + 1; omega)).trans ((bx _ (by omega)).trans h3)
  · refine ⟨hb.os.trans h4.os, hb.tape.trans h4.tape, hb.output.trans h4.output, by simp; have := h4.size; omega, fun b hbb => ?_⟩
    exact (heap_setCell_other w1 ⟨w.heap.size + 1, 1, none⟩ b _ (by show b ≠ w.heap.size + 1; omega)).trans ((bx _ (by omega)).trans (h4.block b hbb))

/-- what is told of a text of even length -/
def BohP (b : ByteArray) (w : World) (e : Ending) (w' : World) : Prop :=
  (AllD b b.size ∧ ∃ v', e = .returned (bytesR 0 v') ∧ Own w' w.heap.size w'.heap.size v' (b.size / 2) (hexV b) ∧ Below w.heap.size w w') ∨
  (¬ AllD b b.size ∧ ∃ v', e = .returned (bytesR 5 v') ∧ Own w' w.heap.size w'.heap.size v' 0 (hexV b) ∧ Below w.heap.size w w')

/-- the same of the specification, whose lists beside a code are none -/
def BohQ (b : ByteArray) (w : World) (e : Ending) (w' : World) : Prop :=
  (AllD b b.size ∧ ∃ v', e = .returned (bytesR 0 v') ∧ Own w' w.heap.size w'.heap.size v' (b.size / 2) (hexV b) ∧ Below w.heap.size w w') ∨
  (¬ AllD b b.size ∧ e = .returned (bytesR 5 (.slice none 0 0)) ∧ Below w.heap.size w w')
theorem BohQ.toP {b : ByteArray} {w w' : World} {e : Ending} (h : BohQ b w e w') : BohP b w e w' := by
  rcases h with h | ⟨h, rfl, k⟩
  · exact .inl h
  · exact .inr ⟨h, _, rfl, own_nil _ _ _ _, k⟩

set_option maxHeartbeats 4000000 in
theorem specBoh_many0 (b : ByteArray) (h : 80 < b.size) (hb : b.size ≤ 1048576) (w : World) :
    Calls Try.prog 6 #[.string b] w fun e w' => e = .returned (bytesR 2 (.slice none 0 0)) ∧ Below w.heap.size w w' := by
  go_enter Try.func6, Try.ntmps6
  go_wp2
  exact bodyPost_ret (v := bytesR 2 (.slice none 0 0)) (by simp [results, Try.results6, go_sem, bytesR]) rfl ⟨rfl, (Below.refl _ _).alloc (Nat.le_refl _) _⟩

set_option maxHeartbeats 4000000 in
theorem specBoh_odd0 (b : ByteArray) (h : b.size ≤ 80) (ho : b.size % 2 = 1) (w : World) :
    Calls Try.prog 6 #[.string b] w fun e w' => e = .returned (bytesR 5 (.slice none 0 0)) ∧ Below w.heap.size w w' := by
  have t1 : decide ((80 : Int) < (b.size : Int)) = false := by simp; omega
  have t2 : ((b.size : Int) % 2) = 1 := by omega
  go_enter Try.func6, Try.ntmps6
  go_wp2
  exact bodyPost_ret (v := bytesR 5 (.slice none 0 0)) (by simp [results, Try.results6, go_sem, bytesR]) rfl ⟨rfl, (Below.refl _ _).alloc (Nat.le_refl _) _⟩

set_option maxHeartbeats 4000000 in
theorem specBoh_many (b : ByteArray) (h : 80 < b.size) (hb : b.size ≤ 1048576) (f : Nat → Nat) (w : World) :
    Calls Try.prog 6 #[.string b] w fun e w' => ∃ v', e = .returned (bytesR 2 v') ∧ Own w' w.heap.size w'.heap.size v' 0 f ∧ Below w.heap.size w w' := by
  go_enter Try.func6, Try.ntmps6
  go_wp2
  exact bodyPost_ret (v := bytesR 2 (.slice none 0 0)) (by simp [results, Try.results6, go_sem, bytesR]) rfl ⟨_, rfl, own_nil _ _ _ _, (Below.refl _ _).alloc (Nat.le_refl _) _⟩

set_option maxHeartbeats 4000000 in
theorem specBoh_odd (b : ByteArray) (h : b.size ≤ 80) (ho : b.size % 2 = 1) (f : Nat → Nat) (w : World) :
    Calls Try.prog 6 #[.string b] w fun e w' => ∃ v', e = .returned (bytesR 5 v') ∧ Own w' w.heap.size w'.heap.size v' 0 f ∧ Below w.heap.size w w' := by
  have t1 : decide ((80 : Int) < (b.size : Int)) = false := by simp; omega
  have t2 : ((b.size : Int) % 2) = 1 := by omega
  go_enter Try.func6, Try.ntmps6
  go_wp2
  exact bodyPost_ret (v := bytesR 5 (.slice none 0 0)) (by simp [results, Try.results6, go_sem, bytesR]) rfl ⟨_, rfl, own_nil _ _ _ _, (Below.refl _ _).alloc (Nat.le_refl _) _⟩

set_option maxHeartbeats 8000000 in
theorem specBoh_even0 (b : ByteArray) (h : b.size ≤ 80) (ho : b.size % 2 = 0) (w : World) :
    Calls Try.prog 6 #[.string b] w (BohQ b w) := by
  have t1 : decide ((80 : Int) < (b.size : Int)) = false := by simp; omega
  have t2 : ((b.size : Int) % 2) = 0 := by omega
  have HO : Hid (b.size % 2 = 0) := ho
  clear ho
  go_enter Try.func6, Try.ntmps6
  go_wp2
  clear t2
  go_loopw [4] (fun i wr => ∃ k : Nat, 2 * k ≤ b.size ∧ i = .int .i64 ((2 * k : Nat) : Int) ∧ Hid (AllD b (2 * k)) ∧ ∃ ao cap, GS w wr (hexV b) k ao cap) (fun i _ => b.size - (intOf i).toNat)
  case atStart => exact ⟨0, Nat.zero_le _, rfl, (show AllD b (2 * 0) from fun i hi => by omega), none, 0, GS.start w _⟩
  case round =>
    obtain ⟨k, hk, rfl, hA, ao, cap, hcs⟩ := hrel
    obtain ⟨J, hJ⟩ : ∃ J, J = 2 * k := ⟨_, rfl⟩
    rw [← hJ] at hA hk ⊢
    have HJ : Hid (J = 2 * k) := hJ
    clear hJ
    obtain ⟨hown, hbx, hbr, hbel⟩ := id hcs
    obtain ⟨c0, c1, z0, z1⟩ := res_cells hbx
    obtain ⟨d0, d1, y0, y1⟩ := res_cells hbr
    have hz := hbx.lt
    by_cases hlt : J < b.size
    · have hl2 : J + 1 < b.size := by have := HJ.out; have := HO.out; omega
      have I1 := index_str b J hlt
      have I2 := index_str b (J + 1) hl2
      have e2 : ((J + 1 : Nat) : Int) = (J : Int) + 1 := by omega
      rw [e2] at I2
      clear e2
      have C1 := l14Digit_any (strB b J) (strB_lt b J)
      have C2 := l14Digit_any (strB b (J + 1)) (strB_lt b (J + 1))
      by_cases g1 : dgt (strB b J) < 16
      · rw [digI_pos g1] at C1
        by_cases g2 : dgt (strB b (J + 1)) < 16
        · rw [digI_pos g2] at C2
          have hval : hexV b k = 16 * dgt (strB b J) + dgt (strB b (J + 1)) := by unfold hexV; rw [HJ.out]
          have HN : Hid (AllD b (J + 2)) := fun i hi => by
            rcases Nat.lt_or_ge i J with h | h
            · exact hA.out i h
            · rcases Nat.lt_or_ge i (J + 1) with h' | h'
              · rw [show i = J by omega]; exact g1
              · rw [show i = J + 1 by omega]; exact g2
          have hkk : k < 41 := by have := HJ.out; omega
          obtain ⟨p, hp⟩ : ∃ p, p = dgt (strB b J) := ⟨_, rfl⟩
          obtain ⟨q, hq⟩ : ∃ q, q = dgt (strB b (J + 1)) := ⟨_, rfl⟩
          rw [← hp] at C1 g1 hval
          rw [← hq] at C2 g2 hval
          have hw : IntKind.u8.wrap (16 * (p : Int) + (q : Int)) = ((hexV b k : Nat) : Int) := by rw [show IntKind.u8.wrap (16 * (p : Int) + (q : Int)) = (16 * (p : Int) + (q : Int)) % 256 from rfl, hval]; omega
          have HV : Hid (hexV b k = 16 * p + q) := hval
          clear hval hp hq hA
          go_wp2_with fail
          refine (C1 _).mono ?_
          rintro e w1 ⟨rfl, hw1⟩
          obtain rfl := hw1.symm
          go_wp2_with fail
          refine (C2 _).mono ?_
          rintro e w1 ⟨rfl, hw1⟩
          obtain rfl := hw1.symm
          go_wp2_with (at_builtin; refine wp_appendB rfl (.tmp 40) (.tmp 46) rfl (w.heap.size + 2) wr.heap.size (.slice ao k cap) k (hexV b) ?c1 ?c2 wr.heap.size 1 ?c3 ?c4 ?c5 ?c6 ?_)
          case c1 => simp [Act.eval]
          case c2 => exact hown.alloc _
          case c3 => simp [Act.eval]
          case c4 => simp
          case c5 => omega
          case c6 => simp; omega
          intro v' w3 hown3 hb3
          obtain ⟨ao', cap', rfl⟩ := hown3.slice
          have q1 : w3.cell? ⟨w.heap.size + 1, 1, none⟩ = some (.slice ao k cap) := (hb3.cell (p := ⟨w.heap.size + 1, 1, none⟩) (Nat.lt_succ_self _)).trans ((cell_alloc_old _ _ _ _ hz).trans c1)
          have q2 : w3.frozen? ⟨w.heap.size + 1, 1, none⟩ = false := (hb3.frozen (p := ⟨w.heap.size + 1, 1, none⟩) (Nat.lt_succ_self _)).trans ((frozen_alloc_old _ _ _ _ hz).trans z1)
          have N := GS.next hcs hown3 hb3
          clear hown3 hb3 hown hcs c0 c1 z0 z1 hbx hbr hbel d0 d1 y0 y1
          go_wp2
          go_roundw
          case rel => exact ⟨k + 1, by have := HJ.out; omega, by have := HJ.out; rw [show 2 * (k + 1) = J + 2 by omega]; go_num, by have := HJ.out; rw [show 2 * (k + 1) = J + 2 by omega]; exact HN, ao', cap', N⟩
          case measure => simp [intOf]; omega
        · rw [digI_neg g2] at C2
          have HN : Hid (¬ AllD b b.size) := fun hall => g2 (hall _ hl2)
          have ND : decide ((dgt (strB b J) : Int) < 0) = false := decide_eq_false (by omega)
          clear hA g2
          go_wp2_with fail
          refine (C1 _).mono ?_
          rintro e w1 ⟨rfl, hw1⟩
          obtain rfl := hw1.symm
          go_wp2_with fail
          refine (C2 _).mono ?_
          rintro e w1 ⟨rfl, hw1⟩
          obtain rfl := hw1.symm
          go_wp2
          refine bodyPost_ret (v := bytesR 5 (.slice none 0 0)) (by simp [results, Try.results6, go_sem, bytesR, d0, d1]) rfl (.inr ⟨HN.out, rfl, (hbel.setCell (Nat.le_refl _) _).setCell (Nat.le_refl _) _⟩)
      · rw [digI_neg g1] at C1
        have HN : Hid (¬ AllD b b.size) := fun hall => g1 (hall _ hlt)
        clear hA g1
        go_wp2_with fail
        refine (C1 _).mono ?_
        rintro e w1 ⟨rfl, hw1⟩
        obtain rfl := hw1.symm
        go_wp2_with fail
        refine (C2 _).mono ?_
        rintro e w1 ⟨rfl, hw1⟩
        obtain rfl := hw1.symm
        go_wp2
        refine bodyPost_ret (v := bytesR 5 (.slice none 0 0)) (by simp [results, Try.results6, go_sem, bytesR, d0, d1]) rfl (.inr ⟨HN.out, rfl, (hbel.setCell (Nat.le_refl _) _).setCell (Nat.le_refl _) _⟩)
    · have hJ2 : J = b.size := by omega
      have HA : AllD b b.size := by rw [← hJ2]; exact hA.out
      have hk2 : k = b.size / 2 := by have := HJ.out; omega
      have HK : Hid (k = b.size / 2) := hk2
      clear hk2 hJ2
      go_wp2
      refine bodyPost_ret (v := bytesR 0 (.slice ao k cap)) (by simp [results, Try.results6, go_sem, bytesR, d0, d1]) rfl (.inl ⟨HA, _, rfl, ?_, (hbel.setCell (Nat.le_refl _) _).setCell (Nat.le_refl _) _⟩)
      have o1 := out_store wr w.heap.size (w.heap.size + 1) w.heap.size 0 (.int .i64 0) (Nat.le_refl _) (by omega)
      have o2 := out_store (wr.setCell ⟨w.heap.size, 0, none⟩ (.int .i64 0)) w.heap.size (w.heap.size + 1) w.heap.size 1 (.slice ao k cap) (Nat.le_refl _) (by omega)
      rw [← HK.out]
      exact (hown.out (o1.trans o2) (.inr (by omega))).weaken (by omega) (Nat.le_of_eq (o1.trans o2).size.symm)
theorem specBoh_even (b : ByteArray) (h : b.size ≤ 80) (ho : b.size % 2 = 0) (w : World) :
    Calls Try.prog 6 #[.string b] w (BohP b w) := (specBoh_even0 b h ho w).mono fun _ _ h => h.toP
end Go.Proofs.Ythncbkgklhbcjaa
