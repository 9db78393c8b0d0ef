/- Walk of the specification's SolveG. -/
import Derived.Test.YteelhafnkkfcbaaWSolveS
namespace Go.Proofs.Yteelhafnkkfcbaa
open Go.RowKit F256
set_option linter.unusedVariables false
set_option linter.unusedSimpArgs false

set_option maxHeartbeats 8000000 in
theorem specSolve_any (v1 v2 : Value) (R m : Nat) (n : Nat → Nat) (f : Mat) (c : Nat → Nat) (l1 h1 l2 h2 : Nat) (w : World) (o1 : OwnM w l1 h1 v1 R n f) (o2 : Own w l2 h2 v2 m c) (hh1 : h1 ≤ w.heap.size) (hh2 : h2 ≤ w.heap.size) (kf : Byt f) (kc : ∀ i, c i < 256) :
    Calls Try.prog 13 #[v1, v2] w fun ee w' => ∃ x v', ee = .returned (bytesR x v') ∧ SolveAns R m n f c x ∧ Own w' w.heap.size w'.heap.size v' (if x = 0 then R else 0) (if x = 0 then (fun i => (gaussM R (aug R f c) R).1 i R) else fun _ => 0) ∧ Below w.heap.size w w' := by
  obtain ⟨gA, cA, e, r1⟩ := o1
  have hm : R ≤ maxLen := by obtain ⟨_, _, _, _, h, _⟩ := r1.rd; exact h
  have hm2 := o2.le
  unfold maxLen at hm hm2
  obtain rfl := r1.val
  obtain ⟨ao2, cap2, rfl⟩ := o2.slice
  have hb0 : Below w.heap.size w (w.alloc (.cells #[.int .i64 0, .slice none 0 0] 36)) := (Below.refl _ _).alloc (Nat.le_refl _) _
  have HA : Hid (OwnE w l1 h1 (.slice (some ⟨gA, 0, none⟩) R cA) R n f gA cA e) := r1
  have H2 : Hid (Own w l2 h2 (.slice ao2 m cap2) m c) := o2
  have hgw : gA < w.heap.size := by have := r1.high; omega
  clear r1 o2
  by_cases hbig : 16 < R
  · go_enter Try.func13, Try.ntmps13
    go_wp2
    exact bodyPost_ret (v := bytesR 2 (.slice none 0 0)) (by simp [results, Try.results13, go_sem, bytesR]) rfl ⟨2, _, rfl, .inl ⟨rfl, hbig⟩, own_nil _ _ _ _, (Below.refl _ _).alloc (Nat.le_refl _) _⟩
  by_cases hR0 : R = 0
  · subst hR0
    go_enter Try.func13, Try.ntmps13
    go_wp2
    exact bodyPost_ret (v := bytesR 1 (.slice none 0 0)) (by simp [results, Try.results13, go_sem, bytesR]) rfl ⟨1, _, rfl, .inr (.inl ⟨rfl, by omega, .inl rfl⟩), own_nil _ _ _ _, (Below.refl _ _).alloc (Nat.le_refl _) _⟩
  have t0 : ((R : Int) == 0) = false := by simp; omega
  by_cases hmR : m = R
  · subst hmR
    go_enter Try.func13, Try.ntmps13
    go_wp2
    go_loop [5] (fun i => ∃ k : Nat, k ≤ m ∧ i = .int .i64 k ∧ ∀ i, i < k → n i = m) (fun i => m - (intOf i).toNat)
    case atStart => exact ⟨0, Nat.zero_le _, rfl, fun i hi => by omega⟩
    case round =>
      obtain ⟨k, hk, rfl, hall⟩ := hrel
      have HALL : Hid (∀ i, i < k → n i = m) := hall
      clear hall
      by_cases hlt : k < m
      · obtain ⟨aok, capk, hsk⟩ := (HA.out.each k hlt).slice
        have hle := (HA.out.each k hlt).le
        unfold maxLen at hle
        have hck := HA.out.cell k hlt
        rw [hsk] at hck
        obtain ⟨nk, hnk⟩ : ∃ x, x = n k := ⟨_, rfl⟩
        have HK : Hid (nk = n k) := hnk
        rw [← hnk] at hck hle
        clear hnk hsk
        by_cases hl : nk = m
        · subst hl
          go_wp2
          go_round
          case rel => exact ⟨k + 1, by omega, by go_num, fun i hi => by
                        by_cases cc : i = k
                        · rw [cc, ← HK.out]
                        · exact HALL.out i (by omega)⟩
          case measure => simp [intOf]; omega
        · have tn : ((nk : Int) != (m : Int)) = true := by simp; omega
          go_wp2
          exact bodyPost_ret (v := bytesR 1 (.slice none 0 0)) (by simp [results, Try.results13, go_sem, bytesR]) rfl ⟨1, _, rfl, .inr (.inl ⟨rfl, by omega, .inr (.inr ⟨k, hlt, by rw [← HK.out]; exact hl⟩)⟩), own_nil _ _ _ _, (Below.refl _ _).alloc (Nat.le_refl _) _⟩
      · have hkn : k = m := by omega
        subst hkn
        have E1 : OwnE (w.alloc (.cells #[.int .i64 0, .slice none 0 0] 36)) l1 h1 (.slice (some ⟨gA, 0, none⟩) k cA) k (fun _ => k) f gA cA e := (HA.out.below hb0 hh1).congrN (fun i hi => HALL.out i hi)
        have RD := l1Solve_any _ _ k f c l1 h1 gA cA l2 h2 e _ E1 (H2.out.below hb0 hh2) (by simp; omega) (by simp; omega) (by omega) (by omega) kf kc
        clear E1
        go_wp2_with fail
        refine RD.mono ?_
        rintro ee w4 ⟨v', b, kk, xx, rfl, hp, ho, hbel⟩
        have HP : Hid (SolvP k f c b kk xx) := hp
        have B4 : Below w.heap.size w w4 := bnew hbel
        have X4 : Box w4 w.heap.size #[.int .i64 0, .slice none 0 0] 36 := (box_new w _ _).below hbel (by simp)
        obtain ⟨x0, x1, y0, y1⟩ := res_cells X4
        have hl4 := X4.lt
        obtain ⟨ao, cap, rfl⟩ := ho.slice
        have HO : Hid (Own w4 (w.heap.size + 1) w4.heap.size (.slice ao kk cap) kk xx) := ho.weaken (by simp) (Nat.le_refl _)
        clear hp ho hbel RD X4
        cases b with
        | false =>
          go_wp2
          exact bodyPost_ret (v := bytesR 4 (.slice none 0 0)) (by simp [results, Try.results13, go_sem, bytesR, x0, x1]) rfl ⟨4, _, rfl, .inr (.inr ⟨by omega, hR0, rfl, HALL.out, .inl ⟨rfl, (HP.out.2 rfl).1⟩⟩), own_nil _ _ _ _, (B4.setCell (Nat.le_refl _) _).setCell (Nat.le_refl _) _⟩
        | true =>
          obtain ⟨p1, p2, p3⟩ := HP.out.1 rfl
          subst p2
          have P1 : Hid ((gaussM kk (aug kk f c) kk).2 = kk) := p1
          have P3 : Hid (xx = fun i => (gaussM kk (aug kk f c) kk).1 i kk) := p3
          clear p1 p3 HP
          go_wp2
          refine bodyPost_ret (v := bytesR 0 (.slice ao kk cap)) (by simp [results, Try.results13, go_sem, bytesR, x0, x1]) rfl ⟨0, _, rfl, .inr (.inr ⟨by omega, hR0, rfl, HALL.out, .inr ⟨rfl, P1.out⟩⟩), ?_, (B4.setCell (Nat.le_refl _) _).setCell (Nat.le_refl _) _⟩
          have o1 := out_store w4 w.heap.size (w.heap.size + 1) w.heap.size 0 (.int .i64 0) (Nat.le_refl _) (by omega)
          have o2 := out_store (w4.setCell ⟨w.heap.size, 0, none⟩ (.int .i64 0)) w.heap.size (w.heap.size + 1) w.heap.size 1 (.slice ao kk cap) (Nat.le_refl _) (by omega)
          simp only [if_pos]
          rw [← P3.out]
          exact (HO.out.out (o1.trans o2) (.inr (by omega))).weaken (by omega) (by rw [(o1.trans o2).size]; exact Nat.le_refl _)
  · have t1 : ((m : Int) != (R : Int)) = true := by simp; omega
    go_enter Try.func13, Try.ntmps13
    go_wp2
    exact bodyPost_ret (v := bytesR 1 (.slice none 0 0)) (by simp [results, Try.results13, go_sem, bytesR]) rfl ⟨1, _, rfl, .inr (.inl ⟨rfl, by omega, .inr (.inl hmR)⟩), own_nil _ _ _ _, (Below.refl _ _).alloc (Nat.le_refl _) _⟩
end Go.Proofs.Yteelhafnkkfcbaa
