/- Walks of the two CauchyG. -/
import Derived.Test.YtoadjpacchhleahWPow
import Derived.Test.YtoadjpacchhleahWBytes
import Derived.Deep.RegionLaw
namespace Go.Proofs.Ytoadjpacchhleah
open Go.RowKit F256
set_option linter.unusedSimpArgs false

/-- the byte in the place t, in rows of C -/
def cau (C t : Nat) : Nat := powN ((128 + t / C) ^^^ (t % C)) 254
theorem cau_at (C j i : Nat) (hi : i < C) : cau C (j * C + i) = powN ((128 + j) ^^^ i) 254 := by
  unfold cau
  have h1 : (j * C + i) / C = j := by rw [Nat.add_comm, Nat.mul_comm, Nat.add_mul_div_left _ _ (by omega), Nat.div_eq_of_lt hi, Nat.zero_add]
  have h2 : (j * C + i) % C = i := by rw [Nat.add_comm, Nat.mul_comm, Nat.add_mul_mod_self_left, Nat.mod_eq_of_lt hi]
  rw [h1, h2]

theorem l1Cauchy_any (j i : Nat) (hj : j < 16) (hi : i < 16) (w : World) :
    Calls Try.prog 41 #[.int .i64 j, .int .i64 i] w fun e w' => e = .returned (.int .u8 (powN ((128 + j) ^^^ i) 254)) ∧ w' = w := by
  have hx : bits .xor .u8 (128 + (j : Int)) (i : Int) = (((128 + j) ^^^ i : Nat) : Int) := u8_xor_nat (128 + j) i (by omega) (by omega)
  have hl : (128 + j) ^^^ i < 256 := xor_lt (by omega) (by omega)
  obtain ⟨y, hy⟩ : ∃ y, y = (128 + j) ^^^ i := ⟨_, rfl⟩
  rw [← hy] at hx hl ⊢
  clear hy
  go_enter Try.func41, Try.ntmps41
  go_wp2_with (go_at_call 63; refine (specInv_any y hl _).mono ?_; rintro e w1 ⟨rfl, rfl⟩)
  go_ret
  exact ⟨rfl, rfl⟩

theorem l1In_yes (v a b : Int) (h1 : a ≤ v) (h2 : v ≤ b) (w : World) :
    Calls Try.prog 40 #[.int .i64 v, .int .i64 a, .int .i64 b] w fun e w' => e = .returned (.bool true) ∧ w' = w := by
  go_enter Try.func40, Try.ntmps40
  go_wp2
  go_ret
  exact ⟨rfl, rfl⟩
theorem l1In_no (v a b : Int) (h : v < a ∨ b < v) (w : World) :
    Calls Try.prog 40 #[.int .i64 v, .int .i64 a, .int .i64 b] w fun e w' => e = .returned (.bool false) ∧ w' = w := by
  by_cases h1 : v < a
  · have hd : decide (a ≤ v) = false := by simp; omega
    go_enter Try.func40, Try.ntmps40
    go_wp2
    go_ret
    exact ⟨rfl, rfl⟩
  · have h2 : b < v := by omega
    have h3 : a ≤ v := by omega
    have hd : decide (v ≤ b) = false := by simp; omega
    go_enter Try.func40, Try.ntmps40
    go_wp2
    go_ret
    exact ⟨rfl, rfl⟩

/-- the struct that the specification fills, k bytes of it filled -/
def CS (w wr : World) (C k : Nat) (ao : Option Addr) (cap : Nat) : Prop :=
  Own wr (w.heap.size + 2) wr.heap.size (.slice ao k cap) k (cau C) ∧ Box wr (w.heap.size + 1) #[.int .i64 0, .slice ao k cap] 26 ∧ Box wr w.heap.size #[.int .i64 0, .slice none 0 0] 26 ∧ Below w.heap.size w wr
theorem CS.start (w : World) (C : Nat) : CS w ((w.alloc (.cells #[.int .i64 0, .slice none 0 0] 26)).alloc (.cells #[.int .i64 0, .slice none 0 0] 26)) C 0 none 0 :=
  ⟨own_nil _ _ _ _, heap_alloc2_new w _ _, heap_alloc2_old w _ _, ((Below.refl _ _).alloc (Nat.le_refl _) _).alloc (by simp) _⟩
theorem CS.next {w wr w1 wd : World} {C k : Nat} {ao ao' : Option Addr} {cap cap' : Nat} {o : Obj} (h : CS w wr C k ao cap) (hd : wd.heap = (wr.alloc o).heap) (ho : wd.os = wr.os) (ht : wd.tape = wr.tape) (hp : wd.output = wr.output)
    (hown : Own w1 (w.heap.size + 2) w1.heap.size (.slice ao' (k + 1) cap') (k + 1) (cau C)) (hb : Below (w.heap.size + 2) wd w1) :
    CS w (w1.setCell ⟨w.heap.size + 1, 1, none⟩ (.slice ao' (k + 1) cap')) C (k + 1) ao' cap' := by
  obtain ⟨h1, h2, h3, h4⟩ := h
  have l2 := h2.lt
  have bx : ∀ b, b < w.heap.size + 2 → w1.heap[b]? = wr.heap[b]? := fun b hbb => by rw [hb.block b hbb, hd]; exact Below.heap_alloc wr o b (by omega)
  have b2 : w1.heap[w.heap.size + 1]? = some (.cells #[.int .i64 0, .slice ao k cap] 26 (0, 0)) := (bx _ (by omega)).trans h2
  have hsz : wr.heap.size ≤ w1.heap.size := by have := hb.size; rw [hd] at this; simp at this; omega
  refine ⟨?_, ?_, ?_, ?_⟩
  · have o1 := out_store w1 (w.heap.size + 1) (w.heap.size + 2) (w.heap.size + 1) 1 (.slice ao' (k + 1) cap') (Nat.le_refl _) (by omega)
    exact (hown.out o1 (.inr (Nat.le_refl _))).weaken (Nat.le_refl _) (Nat.le_of_eq o1.size.symm)
  · exact heap_setCell_same w1 (w.heap.size + 1) 1 _ _ _ b2
  · exact (heap_setCell_other w1 ⟨w.heap.size + 1, 1, none⟩ w.heap.size _ (by show w.heap.size ≠ w.heap.size + 1; omega)).trans ((bx _ (by omega)).trans h3)
  · refine ⟨(hb.os.trans ho).trans h4.os, (hb.tape.trans ht).trans h4.tape, (hb.output.trans hp).trans h4.output, by simp; have := h4.size; omega, fun b hbb => ?_⟩
    exact (heap_setCell_other w1 ⟨w.heap.size + 1, 1, none⟩ b _ (by show b ≠ w.heap.size + 1; omega)).trans ((bx _ (by omega)).trans (h4.block b hbb))

set_option maxHeartbeats 2000000 in
theorem specCauchy_ok (R C : Nat) (hR : R ≤ 16) (hC1 : 1 ≤ C) (hC : C ≤ 16) (w : World) :
    Calls Try.prog 21 #[.int .i64 R, .int .i64 C] w fun e w' => ∃ v', e = .returned (bytesR 0 v') ∧ Own w' w.heap.size w'.heap.size v' (R * C) (cau C) ∧ Below w.heap.size w w' := by
  go_enter Try.func21, Try.ntmps21
  go_wp2_with (go_at_call 40; refine (l1In_yes _ _ _ (by omega) (by omega) _).mono ?_; rintro e w1 ⟨rfl, hw1⟩; obtain rfl := hw1.symm)
  go_loopw [6, 7] (fun j _ wr => ∃ k : Nat, k ≤ R ∧ j = .int .i64 k ∧ ∃ ao cap, CS w wr C (k * C) ao cap) (fun j _ _ => R - (intOf j).toNat)
  case atStart => exact ⟨0, Nat.zero_le _, rfl, none, 0, by rw [Nat.zero_mul]; exact CS.start w C⟩
  case round =>
    obtain ⟨k, hk, rfl, ao, cap, hcs⟩ := hrel
    by_cases hlt : k < R
    · go_wp2
      go_loopw [7] (fun i wq => ∃ m : Nat, m ≤ C ∧ i = .int .i64 m ∧ ∃ ao cap, CS w wq C (k * C + m) ao cap) (fun i _ => C - (intOf i).toNat)
      case atStart => exact ⟨0, Nat.zero_le _, rfl, ao, cap, hcs⟩
      case round =>
        clear hcs ao cap
        obtain ⟨m, hm, rfl, ao, cap, hcs⟩ := hrel
        by_cases hlm : m < C
        · have hkm : k * C ≤ 15 * 16 := Nat.mul_le_mul (by omega) hC
          have hval : powN ((128 + k) ^^^ m) 254 = cau C (k * C + m) := (cau_at C k m hlm).symm
          have hown := hcs.1
          obtain ⟨c0, c1, z0, z1⟩ := res_cells hcs.2.1
          have hz := hcs.2.1.lt
          go_wp2
          go_region_law (first | (refine step_appendB rfl (.tmp 29) (.tmp 33) rfl (w.heap.size + 2) wr.heap.size (.slice ao (k * C + m) cap) (k * C + m) (cau C) ?_ ?_ wr.heap.size 1 ?_ ?_ ?_ ?_ ?_; (simp [Act.eval]); exact hown.alloc _; (simp [Act.eval]); simp; omega; (simp; omega); intro v' w1 hown1 hb1; obtain ⟨ao', cap', rfl⟩ := hown1.slice; have q1 : w1.cell? ⟨w.heap.size + 1, 1, none⟩ = some (.slice ao (k * C + m) cap) := (hb1.cell (p := ⟨w.heap.size + 1, 1, none⟩) (Nat.lt_succ_self _)).trans ((cell_alloc_old _ _ _ _ hz).trans c1); have q2 : w1.frozen? ⟨w.heap.size + 1, 1, none⟩ = false := (hb1.frozen (p := ⟨w.heap.size + 1, 1, none⟩) (Nat.lt_succ_self _)).trans ((frozen_alloc_old _ _ _ _ hz).trans z1)) | (refine step_call rfl 41 _ _ rfl #[.int .i64 k, .int .i64 m] ?_ Try.func41 (by kernel_rfl) (by kernel_rfl) (l1Cauchy_any k m (by omega) (by omega) _) ?_; (simp [Act.eval, Act.put]); rintro e wx ⟨rfl, hwx⟩; obtain rfl := hwx.symm; refine ⟨_, rfl, ?_⟩))
          all_goals
            have N := CS.next (wd := (wr.alloc (.cells #[.int .u8 (cau C (k * C + m))] 5)).drew) (o := .cells #[.int .u8 (cau C (k * C + m))] 5) hcs rfl rfl rfl rfl hown1 hb1
            clear hown1 hb1 hown hcs c0 c1 z0 z1
            go_wp2
            go_roundw
            case rel => exact ⟨m + 1, by omega, by go_num, ao', cap', N⟩
            case measure => simp [intOf]; omega
        · have hmC : m = C := by omega
          subst hmC
          go_wp2
          go_roundw
          case rel => exact ⟨k + 1, by omega, by go_num, ao, cap, by rw [Nat.succ_mul]; exact hcs⟩
          case measure => simp [intOf]; omega
    · have hkR : k = R := by omega
      subst hkR
      obtain ⟨hown, hbx, hbr, hbel⟩ := hcs
      obtain ⟨c0, c1, z0, z1⟩ := res_cells hbx
      obtain ⟨d0, d1, y0, y1⟩ := res_cells hbr
      go_wp2
      refine bodyPost_ret (v := bytesR 0 (.slice ao (k * C) cap)) (by simp [results, Try.results21, go_sem, bytesR, d0, d1]) rfl ⟨_, rfl, ?_, (hbel.setCell (Nat.le_refl _) _).setCell (Nat.le_refl _) _⟩
      have o1 := out_store wr w.heap.size (w.heap.size + 1) w.heap.size 0 (.int .i64 0) (Nat.le_refl _) (by omega)
      have o2 := out_store (wr.setCell ⟨w.heap.size, 0, none⟩ (.int .i64 0)) w.heap.size (w.heap.size + 1) w.heap.size 1 (.slice ao (k * C) cap) (Nat.le_refl _) (by omega)
      exact (hown.out (o1.trans o2) (.inr (by omega))).weaken (by omega) (Nat.le_of_eq (o1.trans o2).size.symm)

theorem specCauchy_range (R C : Int) (hR : R < 0 ∨ 16 < R ∨ C < 1 ∨ 16 < C) (w : World) :
    Calls Try.prog 21 #[.int .i64 R, .int .i64 C] w fun e w' => ∃ v', e = .returned (bytesR 3 v') ∧ Own w' w.heap.size w'.heap.size v' 0 (fun _ => 0) ∧ Below w.heap.size w w' := by
  by_cases h1 : R < 0 ∨ 16 < R
  · go_enter Try.func21, Try.ntmps21
    go_wp2_with (go_at_call 40; refine (l1In_no _ _ _ h1 _).mono ?_; rintro e w1 ⟨rfl, hw1⟩; obtain rfl := hw1.symm)
    exact bodyPost_ret (v := bytesR 3 (.slice none 0 0)) (by simp [results, Try.results21, go_sem, bytesR]) rfl ⟨_, rfl, own_nil _ _ _ _, (Below.refl _ _).alloc (Nat.le_refl _) _⟩
  · have h2 : C < 1 ∨ 16 < C := by omega
    have h3 : 0 ≤ R := by omega
    have h4 : R ≤ 16 := by omega
    clear hR h1
    go_enter Try.func21, Try.ntmps21
    go_wp2_with fail
    refine (l1In_yes R 0 16 h3 h4 _).mono ?_
    rintro e w1 ⟨rfl, hw1⟩
    obtain rfl := hw1.symm
    go_wp2_with fail
    refine (l1In_no C 1 16 h2 _).mono ?_
    rintro e w1 ⟨rfl, hw1⟩
    obtain rfl := hw1.symm
    go_wp2
    exact bodyPost_ret (v := bytesR 3 (.slice none 0 0)) (by simp [results, Try.results21, go_sem, bytesR]) rfl ⟨_, rfl, own_nil _ _ _ _, (Below.refl _ _).alloc (Nat.le_refl _) _⟩

set_option maxHeartbeats 2000000 in
theorem implCauchy_range (R C : Int) (hR : R < 0 ∨ 16 < R ∨ C < 1 ∨ 16 < C) (w : World) :
    Calls Try.prog 22 #[.int .i64 R, .int .i64 C] w fun e w' => ∃ v', e = .returned (bytesR 3 v') ∧ Own w' w.heap.size w'.heap.size v' 0 (fun _ => 0) ∧ Below w.heap.size w w' := by
  by_cases h1 : R < 0
  · go_enter Try.func22, Try.ntmps22
    go_wp2
    exact bodyPost_ret (v := bytesR 3 (.slice none 0 0)) (by simp [results, Try.results22, go_sem, bytesR]) rfl ⟨_, rfl, own_nil _ _ _ _, (Below.refl _ _).alloc (Nat.le_refl _) _⟩
  have d1 : decide (R < 0) = false := by simpa using h1
  by_cases h2 : 16 < R
  · go_enter Try.func22, Try.ntmps22
    go_wp2
    exact bodyPost_ret (v := bytesR 3 (.slice none 0 0)) (by simp [results, Try.results22, go_sem, bytesR]) rfl ⟨_, rfl, own_nil _ _ _ _, (Below.refl _ _).alloc (Nat.le_refl _) _⟩
  have d2 : decide (16 < R) = false := by simpa using h2
  by_cases h3 : C < 1
  · go_enter Try.func22, Try.ntmps22
    go_wp2
    exact bodyPost_ret (v := bytesR 3 (.slice none 0 0)) (by simp [results, Try.results22, go_sem, bytesR]) rfl ⟨_, rfl, own_nil _ _ _ _, (Below.refl _ _).alloc (Nat.le_refl _) _⟩
  have d3 : decide (C < 1) = false := by simpa using h3
  have h4 : 16 < C := by omega
  clear hR
  go_enter Try.func22, Try.ntmps22
  go_wp2
  exact bodyPost_ret (v := bytesR 3 (.slice none 0 0)) (by simp [results, Try.results22, go_sem, bytesR]) rfl ⟨_, rfl, own_nil _ _ _ _, (Below.refl _ _).alloc (Nat.le_refl _) _⟩

set_option maxHeartbeats 2000000 in
theorem implCauchy_ok (R C : Nat) (hR : R ≤ 16) (hC1 : 1 ≤ C) (hC : C ≤ 16) (w : World) :
    Calls Try.prog 22 #[.int .i64 R, .int .i64 C] w fun e w' => ∃ v', e = .returned (bytesR 0 v') ∧ Own w' w.heap.size w'.heap.size v' (R * C) (cau C) ∧ Below w.heap.size w w' := by
  have hRC : R * C ≤ 256 := Nat.le_trans (Nat.mul_le_mul hR hC) (by omega)
  have hmul : (R : Int) * (C : Int) = ((R * C : Nat) : Int) := by simp
  obtain ⟨N, hN⟩ : ∃ N, N = R * C := ⟨_, rfl⟩
  rw [← hN] at hmul hRC
  have HN : Hid (N = R * C) := hN
  clear hN
  go_enter Try.func22, Try.ntmps22
  go_wp2_with (at_make; refine wp_makeB0 _ rfl _ _ rfl _ N rfl rfl (by first | rfl | omega | simp [hmul]) (by omega) ?_; intro w1 hown1 hb1 hz1)
  have hown2 : Own w1 (w.heap.size + 1) w1.heap.size (.slice (some ⟨w.heap.size + 1, 0, none⟩) 0 N) 0 (cau C) := by simpa using hown1 (cau C)
  have hbx : Box w1 w.heap.size #[.int .i64 0, .slice none 0 0] 26 := (box_new w _ _).below hb1 (by simp)
  have hbel := bnew hb1
  clear hown1 hz1 hb1
  go_loopw [5, 6, 7, 28, 31, 32] (fun v _ _ j _ _ wr => ∃ k : Nat, k ≤ R ∧ j = .int .i64 k ∧ Own wr (w.heap.size + 1) wr.heap.size v (k * C) (cau C) ∧ Box wr w.heap.size #[.int .i64 0, .slice none 0 0] 26 ∧ Below w.heap.size w wr) (fun _ _ _ j _ _ _ => R - (intOf j).toNat)
  case atStart => exact ⟨0, Nat.zero_le _, rfl, by rw [Nat.zero_mul]; exact hown2, hbx, hbel⟩
  case round =>
    clear hown2 hbx hbel
    obtain ⟨k, hk, rfl, hown, hbx, hbel⟩ := hrel
    by_cases hlt : k < R
    · go_wp2
      go_loopw [5, 7, 32] (fun v _ i wq => ∃ m : Nat, m ≤ C ∧ i = .int .i64 m ∧ Own wq (w.heap.size + 1) wq.heap.size v (k * C + m) (cau C) ∧ Box wq w.heap.size #[.int .i64 0, .slice none 0 0] 26 ∧ Below w.heap.size w wq) (fun _ _ i _ => C - (intOf i).toNat)
      case atStart => exact ⟨0, Nat.zero_le _, rfl, hown, hbx, hbel⟩
      case round =>
        clear hown hbx hbel
        obtain ⟨m, hm, rfl, hown, hbx, hbel⟩ := hrel
        by_cases hlm : m < C
        · have hkm : k * C ≤ 15 * 16 := Nat.mul_le_mul (by omega) hC
          obtain ⟨y, hy⟩ : ∃ y, y = (128 + k) ^^^ m := ⟨_, rfl⟩
          have hx : bits .xor .i64 (128 + (k : Int)) (m : Int) = (y : Int) := by rw [hy]; exact i64_xor_nat (128 + k) m (by omega) (by omega)
          have hl : y < 256 := by rw [hy]; exact xor_lt (by omega) (by omega)
          have hval : powN y 254 = cau C (k * C + m) := by rw [cau_at C k m hlm, hy]
          have HV : Hid (powN y 254 = cau C (k * C + m)) := hval
          have hsz := hbel.size
          have hbl := hbx.lt
          clear hy hval
          go_wp2_with (first | (go_at_call 42; refine (implInv_any y hl _).mono ?_; rintro e w2 ⟨rfl, hb2⟩; have hz2 := hb2.size) | (at_builtin; refine wp_appendB rfl (.tmp 35) (.tmp 42) rfl (w.heap.size + 1) wr.heap.size u5 (k * C + m) (cau C) ?_ ?_ w2.heap.size 1 ?_ ?_ ?_ ?_ ?_; (simp [Act.eval]); exact (hown.below hb2 (Nat.le_refl _)).alloc _; (simp [Act.eval]); (simp [HV.out]); omega; (simp; omega); intro v' w3 hown3 hb3))
          have B2 : Below w.heap.size w (w2.alloc (.cells #[.int .u8 (powN y 254)] 5)) := (bthen hbel hb2).alloc (by omega) _
          have X2 : Box (w2.alloc (.cells #[.int .u8 (powN y 254)] 5)) w.heap.size #[.int .i64 0, .slice none 0 0] 26 := (Below.heap_alloc w2 _ _ (by omega)).trans (hbx.below hb2 hbl)
          have B3 : Below w.heap.size w w3 := B2.trans (hb3.mono (by omega))
          have X3 : Box w3 w.heap.size #[.int .i64 0, .slice none 0 0] 26 := X2.below hb3 (by omega)
          clear B2 X2 hb2 hb3 hown hbx hbel
          go_wp2
          go_roundw
          case rel => exact ⟨m + 1, by omega, by go_num, hown3, X3, B3⟩
          case measure => simp [intOf]; omega
        · have hmC : m = C := by omega
          subst hmC
          go_wp2
          go_roundw
          case rel => exact ⟨k + 1, by omega, by go_num, by rw [Nat.succ_mul]; exact hown, hbx, hbel⟩
          case measure => simp [intOf]; omega
    · have hkR : k = R := by omega
      subst hkR
      obtain ⟨d0, d1, y0, y1⟩ := res_cells hbx
      obtain ⟨ao, cap, rfl⟩ := hown.slice
      go_wp2
      refine bodyPost_ret (v := bytesR 0 (.slice ao (k * C) cap)) (by simp [results, Try.results22, go_sem, bytesR, d0, d1]) rfl ⟨_, rfl, ?_, (hbel.setCell (Nat.le_refl _) _).setCell (Nat.le_refl _) _⟩
      have o1 := out_store wr w.heap.size (w.heap.size + 1) w.heap.size 0 (.int .i64 0) (Nat.le_refl _) (by omega)
      have o2 := out_store (wr.setCell ⟨w.heap.size, 0, none⟩ (.int .i64 0)) w.heap.size (w.heap.size + 1) w.heap.size 1 (.slice ao (k * C) cap) (Nat.le_refl _) (by omega)
      exact (hown.out (o1.trans o2) (.inr (by omega))).weaken (by omega) (Nat.le_of_eq (o1.trans o2).size.symm)
end Go.Proofs.Ytoadjpacchhleah
