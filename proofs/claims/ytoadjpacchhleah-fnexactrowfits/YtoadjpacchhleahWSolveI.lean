/- Walk of the program's SolveG. -/
import Derived.Test.YtoadjpacchhleahWRankI
import Derived.Test.YtoadjpacchhleahGaussT
namespace Go.Proofs.Ytoadjpacchhleah
open Go.RowKit F256
set_option linter.unusedVariables false
set_option linter.unusedSimpArgs false

/-- right[k:k+1] -/
theorem run_slice_one (gr N cap k : Nat) (h1 : k < N) (h2 : N ≤ cap) (w : World) :
    (Instr.slice 23 (.slice (some ⟨gr, 0, none⟩) N cap) (some (.int .i64 (k : Int))) (some (.int .i64 ((k : Int) + 1))) none).run Try.prog w = .ok (.slice (some ⟨gr, k, none⟩) 1 (cap - k)) w := by
  have e1 : (0 : Int) ≤ (k : Int) + 1 ∧ (k : Int) + 1 ≤ (cap : Int) := by omega
  have e2 : ((k : Int) + 1).toNat = k + 1 := by omega
  have e3 : (0 : Int) ≤ (k : Int) ∧ (k : Int) ≤ (k : Int) + 1 := by omega
  have e4 : ¬ cap = k := by omega
  have e5 : k + 1 - k = 1 := by omega
  simp [Instr.slice, run_underlying Try.underlying23, Instr.sliceBounds, Instr.sliceBound, asIntOf, go_sem, e1, e2, e3, e4, e5]

/-- the answers of SolveG -/
def SolveAns (R m : Nat) (n : Nat → Nat) (f : Mat) (c : Nat → Nat) (x : Int) : Prop :=
  (x = 2 ∧ 16 < R) ∨ (x = 1 ∧ R ≤ 16 ∧ (R = 0 ∨ m ≠ R ∨ ∃ i, i < R ∧ n i ≠ R)) ∨ (R ≤ 16 ∧ R ≠ 0 ∧ m = R ∧ (∀ i, i < R → n i = R) ∧ ((x = 4 ∧ (gaussM R (aug R f c) R).2 < R) ∨ (x = 0 ∧ (gaussM R (aug R f c) R).2 = R)))
theorem SolveAns.one {R m : Nat} {n : Nat → Nat} {f : Mat} {c : Nat → Nat} {x y : Int} (h : SolveAns R m n f c x) (k : SolveAns R m n f c y) : x = y := by
  rcases h with ⟨rfl, h1⟩ | ⟨rfl, h1, h2⟩ | ⟨h1, h2, h3, h4, h5⟩ <;> rcases k with ⟨rfl, k1⟩ | ⟨rfl, k1, k2⟩ | ⟨k1, k2, k3, k4, k5⟩
  · rfl
  · omega
  · omega
  · omega
  · rfl
  · rcases h2 with h2 | h2 | ⟨i, hi, h2⟩
    · omega
    · omega
    · exact absurd (k4 i hi) h2
  · omega
  · rcases k2 with k2 | k2 | ⟨i, hi, k2⟩
    · omega
    · omega
    · exact absurd (h4 i hi) k2
  · rcases h5 with ⟨rfl, h5⟩ | ⟨rfl, h5⟩ <;> rcases k5 with ⟨rfl, k5⟩ | ⟨rfl, k5⟩
    · rfl
    · omega
    · omega
    · rfl

set_option maxHeartbeats 8000000 in
theorem implSolve_any (v1 v2 : Value) (R m : Nat) (n : Nat → Nat) (f : Mat) (c : Nat → Nat) (l1 h1 l2 h2 : Nat) (w : World) (o1 : OwnM w l1 h1 v1 R n f) (o2 : Own w l2 h2 v2 m c) (hh1 : h1 ≤ w.heap.size) (hh2 : h2 ≤ w.heap.size) (kf : Byt f) (kc : ∀ i, c i < 256) :
    Calls Try.prog 24 #[v1, v2] w fun ee w' => ∃ x v', ee = .returned (bytesR x v') ∧ SolveAns R m n f c x ∧ Own w' w.heap.size w'.heap.size v' (if x = 0 then R else 0) (if x = 0 then (fun i => (gaussM R (aug R f c) R).1 i R) else fun _ => 0) ∧ Below w.heap.size w w' := by
  obtain ⟨gA, cA, e, r1⟩ := o1
  have hm : R ≤ maxLen := by obtain ⟨_, _, _, _, h, _⟩ := r1.rd; exact h
  have hm2 := o2.le
  unfold maxLen at hm hm2
  obtain rfl := r1.val
  obtain ⟨ao2, cap2, rfl⟩ := o2.slice
  have hb0 : Below w.heap.size w (w.alloc (.cells #[.int .i64 0, .slice none 0 0] 26)) := (Below.refl _ _).alloc (Nat.le_refl _) _
  have HA : Hid (OwnE w l1 h1 (.slice (some ⟨gA, 0, none⟩) R cA) R n f gA cA e) := r1
  have H2 : Hid (Own w l2 h2 (.slice ao2 m cap2) m c) := o2
  have CE := equallyLong_any _ R n f h1 _ (r1.rd.below hb0 hh1)
  have hgw : gA < w.heap.size := by have := r1.high; omega
  clear r1 o2
  by_cases hbig : 16 < R
  · clear CE
    go_enter Try.func24, Try.ntmps24
    go_wp2
    exact bodyPost_ret (v := bytesR 2 (.slice none 0 0)) (by simp [results, Try.results24, go_sem, bytesR]) rfl ⟨2, _, rfl, .inl ⟨rfl, hbig⟩, own_nil _ _ _ _, (Below.refl _ _).alloc (Nat.le_refl _) _⟩
  by_cases hR0 : R = 0
  · subst hR0
    clear CE
    go_enter Try.func24, Try.ntmps24
    go_wp2
    exact bodyPost_ret (v := bytesR 1 (.slice none 0 0)) (by simp [results, Try.results24, go_sem, bytesR]) rfl ⟨1, _, rfl, .inr (.inl ⟨rfl, by omega, .inl rfl⟩), own_nil _ _ _ _, (Below.refl _ _).alloc (Nat.le_refl _) _⟩
  have t0 : ((R : Int) == 0) = false := by simp; omega
  by_cases hmR : m = R
  · subst hmR
    obtain ⟨N, hN⟩ : ∃ N, N = n 0 := ⟨_, rfl⟩
    have hN2 := (HA.out.each 0 (by omega)).le
    unfold maxLen at hN2
    have HN : Hid (N = n 0) := hN
    obtain ⟨aoz, capz, hsz⟩ := (HA.out.each 0 (by omega)).slice
    have hz0 : w.cell? ⟨gA, 0, none⟩ = some (.slice aoz N capz) := by rw [hN, ← hsz]; exact HA.out.cell 0 (by omega)
    rw [← hN] at hN2
    clear hsz hN
    go_enter Try.func24, Try.ntmps24
    go_wp2_with fail
    refine CE.mono ?_
    rintro ee w1 ⟨bb, rfl, hbb, hb1⟩
    clear CE
    have HBB : Hid (bb = true ↔ ∀ i, i < m → n i = n 0) := hbb
    clear hbb
    have hbel : Below w.heap.size w w1 := bnew hb1
    have hbx : Box w1 w.heap.size #[.int .i64 0, .slice none 0 0] 26 := (box_new w _ _).below hb1 (by simp)
    have hz1 : w1.cell? ⟨gA, 0, none⟩ = some (.slice aoz N capz) := (hbel.cell (p := ⟨gA, 0, none⟩) hgw).trans hz0
    obtain ⟨x0, x1, y0, y1⟩ := res_cells hbx
    have hl1 := hbx.lt
    clear hb1 hb0 hz0
    cases bb with
    | false =>
      have hno : ∃ i, i < m ∧ n i ≠ m := Classical.byContradiction fun hno => absurd (HBB.out.mpr fun i hi => by
        have q1 : n i = m := Classical.byContradiction fun h => hno ⟨i, hi, h⟩
        have q2 : n 0 = m := Classical.byContradiction fun h => hno ⟨0, by omega, h⟩
        omega) (by simp)
      have HNO : Hid (∃ i, i < m ∧ n i ≠ m) := hno
      clear hno HBB
      go_wp2
      exact bodyPost_ret (v := bytesR 1 (.slice none 0 0)) (by simp [results, Try.results24, go_sem, bytesR, x0, x1]) rfl ⟨1, _, rfl, .inr (.inl ⟨rfl, by omega, .inr (.inr HNO.out)⟩), own_nil _ _ _ _, (hbel.setCell (Nat.le_refl _) _).setCell (Nat.le_refl _) _⟩
    | true =>
      have HALL : Hid (∀ i, i < m → n i = n 0) := HBB.out.mp rfl
      clear HBB
      by_cases hNm : N = m
      · subst hNm
        have HSH : Hid (∀ i, i < N → n i = N) := fun i hi => by rw [HALL.out i hi, ← HN.out]
        obtain ⟨gr, capr, hgr, hr1, hr2, hr3, hr4⟩ := H2.out.form (by omega)
        simp only [Value.slice.injEq] at hgr
        obtain ⟨rfl, _, rfl⟩ := hgr
        clear HALL
        go_wp2_with (at_make; refine wp_makeM _ rfl _ _ rfl _ _ N rfl rfl rfl rfl (by omega) ?_; intro w2 hown2 hb2 hz2)
        clear x0 x1 y0 y1 hz1
        go_loopw [7, 40] (fun _ i wr => ∃ k : Nat, k ≤ N ∧ i = .int .i64 k ∧ ∃ e', Cpy w1 wr N k (fun _ => N + 1) (aug N f c) e') (fun _ i _ => N - (intOf i).toNat)
        case atStart => exact ⟨0, Nat.zero_le _, rfl, fun _ => nilS, by rw [valsOf_eq (g := fun _ => nilS) (fun i hi => by simp)]; exact hown2, fun i hi => by omega, ⟨fun i hi => by omega, fun i j hi => by omega⟩, hb2, hz2⟩
        case round =>
          clear hown2 hb2 hz2
          obtain ⟨k, hk, rfl, e', hcp⟩ := hrel
          have hbw1 : Below w.heap.size w wr := bthen hbel hcp.bel
          by_cases hlt : k < N
          · have hrk : Rd wr h1 (e k) N (f k) := by
              have := ((HA.out.each k hlt).below hbw1 hh1).rd
              rw [HSH.out k hlt] at this
              exact this
            have hck : wr.cell? ⟨gA, k, none⟩ = some (e k) := (hbw1.cell (p := ⟨gA, k, none⟩) hgw).trans (HA.out.cell k hlt)
            have hrt : Rd (wr.drewN 1) h2 (.slice (some ⟨gr, k, none⟩) 1 (cap2 - k)) 1 (fun _ => c k) := ⟨_, _, rfl, by unfold maxLen; omega, fun _ => ⟨gr, k, rfl, hr2, fun i hi => by
              have hi0 : i = 0 := by omega
              subst hi0
              have := H2.out.1.cellAt k (by omega)
              rw [cellsOf_get _ _ _ hlt] at this
              exact (hbw1.cell (p := ⟨gr, k + 0, none⟩) (by show gr < w.heap.size; omega)).trans this⟩⟩
            have C := joined_some (e k) (.slice (some ⟨gr, k, none⟩) 1 (cap2 - k)) N 1 (f k) (fun _ => c k) (aug N f c k) h1 h2 (wr.drewN 1) hrk hrt (Nat.le_trans hh1 hbw1.size) (Nat.le_trans hh2 hbw1.size) (by omega) (by omega) (by omega) (fun i hi => rfl)
            obtain ⟨ek, hek⟩ : ∃ x, x = e k := ⟨_, rfl⟩
            rw [← hek] at hck C
            obtain ⟨ao3, cap3, hsl, hmm, hcc⟩ := hrk
            rw [← hek] at hsl
            subst hsl
            have hl := hcp.lt
            have HCP : Hid (Cpy w1 wr N k (fun _ => N + 1) (aug N f c) e') := hcp
            have Q1 : ∀ w3, Below wr.heap.size wr w3 → w3.cell? ⟨w1.heap.size, k, none⟩ = some nilS ∧ w3.frozen? ⟨w1.heap.size, k, none⟩ = false := fun w3 hb => by
              refine ⟨?_, (hb.frozen (p := ⟨w1.heap.size, k, none⟩) hl).trans (hcp.row.frozenAt k)⟩
              rw [hb.cell (p := ⟨w1.heap.size, k, none⟩) hl, hcp.row.cellAt k (by omega), valsOf_get _ _ _ hlt, if_neg (Nat.lt_irrefl k)]
            have hsl1 : IntKind.i64.wrap ((k : Int) + 1) = (k : Int) + 1 := by rw [IntKind.wrap_i64]; omega
            have hsl2 : ((k : Int) + 1).toNat = k + 1 := by omega
            have hsl3 : ((k : Int) + 1 ≤ (cap2 : Int)) := by omega
            have hsl4 : ¬ cap2 = k := by omega
            have hsl5 : k + 1 - k = 1 := by omega
            have hsl6 : (0 : Int) ≤ (k : Int) + 1 := by omega
            clear hcc hek hrt hcp
            go_wp2
            go_region_with (go_at_call 44; refine C.mono ?_; rintro ee w3 ⟨v3, rfl, ho3, hb3⟩; obtain ⟨ao5, cap5, rfl⟩ := ho3.slice; have q1 := (Q1 _ (undrewN' hb3)).1; have q2 := (Q1 _ (undrewN' hb3)).2)
            all_goals
              have N1 := HCP.out.next hlt (undrewN' hb3) ho3
              clear HCP hb3 ho3 q1 q2 hbw1 C Q1
              go_wp2
              go_roundw
              case rel => exact ⟨k + 1, by omega, by go_num, _, N1⟩
              case measure => simp [intOf]; omega
          · have hkn : k = N := by omega
            subst hkn
            obtain ⟨gg, cc, e2, hE⟩ := hcp.done
            have hv := hE.val
            simp only [Value.slice.injEq, Option.some.injEq, Addr.mk.injEq, and_true, true_and] at hv
            obtain ⟨rfl, rfl⟩ := hv
            have RD := reduceRows_any _ k (k + 1) k (aug k f c) w1.heap.size w1.heap.size k e2 (by omega) (by omega) (by omega) (aug_byt kf kc) wr hE
            have X3 : Box wr w.heap.size #[.int .i64 0, .slice none 0 0] 26 := hbx.below hcp.bel hl1
            clear hE
            go_wp2_with fail
            refine RD.mono ?_
            rintro ee w4 ⟨rfl, ⟨e4, hE4⟩, hb4⟩
            have B4 : Below w.heap.size w w4 := hbw1.trans (hb4.mono (by omega))
            have X4 : Box w4 w.heap.size #[.int .i64 0, .slice none 0 0] 26 := X3.below hb4 hl1
            obtain ⟨x0, x1, y0, y1⟩ := res_cells X4
            have hle := (gaussM_le (R := k) (M := aug k f c) k).1
            obtain ⟨G, hG⟩ : ∃ G, G = gaussM k (aug k f c) k := ⟨_, rfl⟩
            have HG : Hid (G = gaussM k (aug k f c) k) := hG
            rw [← hG] at hle hE4 ⊢
            obtain ⟨rk, hrk⟩ : ∃ rk, rk = G.2 := ⟨_, rfl⟩
            have HRK : Hid (rk = G.2) := hrk
            rw [← hrk] at hle ⊢
            clear hG hrk hb4 X3 RD hcp hbw1
            by_cases hfull : rk < k
            · go_wp2
              exact bodyPost_ret (v := bytesR 4 (.slice none 0 0)) (by simp [results, Try.results24, go_sem, bytesR, x0, x1]) rfl ⟨4, _, rfl, .inr (.inr ⟨by omega, hR0, rfl, HSH.out, .inl ⟨rfl, by rw [← HG.out, ← HRK.out]; exact hfull⟩⟩), own_nil _ _ _ _, (B4.setCell (Nat.le_refl _) _).setCell (Nat.le_refl _) _⟩
            · go_wp2_with (at_make; refine wp_makeB _ rfl _ _ rfl _ _ k rfl rfl rfl rfl (by omega) ?_; intro w5 hown5 hb5 hz5)
              have B5 : Below w.heap.size w w5 := bthen B4 hb5
              have X5 : Box w5 w.heap.size #[.int .i64 0, .slice none 0 0] 26 := X4.below hb5 X4.lt
              have E5 := hE4.below hb5 (Nat.le_refl _)
              have h14 : w1.heap.size ≤ w4.heap.size := by have := hE4.low; have := hE4.high; omega
              clear x0 x1 y0 y1 B4 X4 hE4 hb5
              go_loopw [9, 66] (fun _ i wr => ∃ q : Nat, q ≤ k ∧ i = .int .i64 q ∧ Own wr w4.heap.size w5.heap.size (.slice (some ⟨w4.heap.size, 0, none⟩) k k) k (fun i => if i < q then G.1 i k else 0) ∧ Out w4.heap.size w5.heap.size w5 wr) (fun _ i _ => k - (intOf i).toNat)
              case atStart => exact ⟨0, Nat.zero_le _, rfl, hown5, Out.refl _ _ _⟩
              case round =>
                clear hown5
                obtain ⟨q, hq, rfl, hown, hout⟩ := hrel
                by_cases hqk : q < k
                · have cq : wr.cell? ⟨w1.heap.size, q, none⟩ = some (e4 q) := (World.cell?_of_block (w := w5) (hout.block _ (.inl (by have := E5.high; omega)))).trans (E5.cell q hqk)
                  obtain ⟨gq, capq, heq, hg1, hg2, hg3, _⟩ := (E5.each q hqk).form (by omega)
                  have cv : wr.cell? ⟨gq, k, none⟩ = some (.int .u8 (G.1 q k)) := by
                    have h5 := (E5.each q hqk).1
                    rw [heq] at h5
                    exact (World.cell?_of_block (w := w5) (hout.block gq (.inl hg2))).trans ((h5.cellAt k (by omega)).trans (cellsOf_get _ _ _ (by omega)))
                  rw [heq] at cq
                  have hco : wr.cell? ⟨w4.heap.size, q, none⟩ = some (.int .u8 (0 : Nat)) := by
                    have := hown.1.cellAt q (by omega)
                    rw [this, cellsOf_get _ _ _ hqk, if_neg (Nat.lt_irrefl q)]
                  have hfo : wr.frozen? ⟨w4.heap.size, q, none⟩ = false := hown.1.frozenAt q
                  obtain ⟨y, hy⟩ : ∃ y, y = G.1 q k := ⟨_, rfl⟩
                  have RW : Own (wr.setCell ⟨w4.heap.size, q, none⟩ (.int .u8 y)) w4.heap.size w5.heap.size (.slice (some ⟨w4.heap.size, 0, none⟩) k k) k (fun i => if i < q + 1 then G.1 i k else 0) :=
                    hown.store q y hqk (fun i _ => by
                      by_cases c1 : i = q
                      · subst c1; simp [hy]
                      · by_cases c2 : i < q
                        · have c3 : i < q + 1 := by omega
                          simp [c1, c2, c3]
                        · have c3 : ¬ i < q + 1 := by omega
                          simp [c1, c2, c3])
                  have RO : Out w4.heap.size w5.heap.size w5 (wr.setCell ⟨w4.heap.size, q, none⟩ (.int .u8 y)) := hout.trans (out_store wr _ _ _ q _ (Nat.le_refl _) hz5)
                  rw [← hy] at cv
                  clear hown hout hy heq
                  go_wp2
                  go_roundw
                  case rel => exact ⟨q + 1, by omega, by go_num, RW, RO⟩
                  case measure => simp [intOf]; omega
                · have hqn : q = k := by omega
                  subst hqn
                  have B6 : Below w.heap.size w wr := B5.trans (hout.below.mono (by omega))
                  have X6 : Box wr w.heap.size #[.int .i64 0, .slice none 0 0] 26 := (hout.block _ (.inl (by omega))).trans X5
                  obtain ⟨x0, x1, y0, y1⟩ := res_cells X6
                  have hown6 : Own wr w4.heap.size w5.heap.size (.slice (some ⟨w4.heap.size, 0, none⟩) q q) q (fun i => G.1 i q) := hown.congr (fun i hi => by simp [hi])
                  have hsz6 := hout.size
                  clear hown hout B5 X5 E5 X6
                  go_wp2
                  refine bodyPost_ret (v := bytesR 0 (.slice (some ⟨w4.heap.size, 0, none⟩) q q)) (by simp [results, Try.results24, go_sem, bytesR, x0, x1]) rfl ⟨0, _, rfl, .inr (.inr ⟨by omega, hR0, rfl, HSH.out, .inr ⟨rfl, by rw [← HG.out, ← HRK.out]; omega⟩⟩), ?_, (B6.setCell (Nat.le_refl _) _).setCell (Nat.le_refl _) _⟩
                  have o1 := out_store wr w.heap.size (w.heap.size + 1) w.heap.size 0 (.int .i64 0) (Nat.le_refl _) (by omega)
                  have o2 := out_store (wr.setCell ⟨w.heap.size, 0, none⟩ (.int .i64 0)) w.heap.size (w.heap.size + 1) w.heap.size 1 (.slice (some ⟨w4.heap.size, 0, none⟩) q q) (Nat.le_refl _) (by omega)
                  simp only [if_pos]
                  rw [← HG.out]
                  exact (hown6.out (o1.trans o2) (.inr (by omega))).weaken (by omega) (by rw [(o1.trans o2).size, hsz6]; exact Nat.le_refl _)
      · have tN : ((N : Int) != (m : Int)) = true := by simp; omega
        go_wp2
        exact bodyPost_ret (v := bytesR 1 (.slice none 0 0)) (by simp [results, Try.results24, go_sem, bytesR, x0, x1]) rfl ⟨1, _, rfl, .inr (.inl ⟨rfl, by omega, .inr (.inr ⟨0, by omega, by rw [← HN.out]; exact hNm⟩)⟩), own_nil _ _ _ _, (hbel.setCell (Nat.le_refl _) _).setCell (Nat.le_refl _) _⟩
  · have t1 : ((m : Int) != (R : Int)) = true := by simp; omega
    clear CE
    go_enter Try.func24, Try.ntmps24
    go_wp2
    exact bodyPost_ret (v := bytesR 1 (.slice none 0 0)) (by simp [results, Try.results24, go_sem, bytesR]) rfl ⟨1, _, rfl, .inr (.inl ⟨rfl, by omega, .inr (.inl hmR)⟩), own_nil _ _ _ _, (Below.refl _ _).alloc (Nat.le_refl _) _⟩
end Go.Proofs.Ytoadjpacchhleah
