/- Slices of bytes of the call's own, each in its own block or all of four behind one another in one; the laws' helpers for a result that has them. -/
import Derived.Test.YtoadjpacchhleahWFlat
namespace Go.Proofs.Ytoadjpacchhleah
open Go.RowKit F256
set_option linter.unusedVariables false
set_option linter.unusedSimpArgs false

/-- slices of the call's own, or nil: each in its own block, or rows of four behind one another -/
def OwnG (w : World) (lo hi : Nat) (v : Value) (R : Nat) (n : Nat → Nat) (f : Mat) : Prop := OwnB w lo hi v R n f ∨ (n = fun _ => 4) ∧ ∃ g cap h C, FlatE w lo hi v R f g cap h C
theorem OwnG.none (w : World) (lo hi : Nat) (n : Nat → Nat) (f : Mat) : OwnG w lo hi nilS 0 n f := .inl (OwnB.none _ _ _ _ _)
theorem OwnG.rd {w : World} {lo hi : Nat} {v : Value} {R : Nat} {n : Nat → Nat} {f : Mat} (h : OwnG w lo hi v R n f) : RdM w hi v R n f := by
  rcases h with h | ⟨rfl, g, cap, h, C, H⟩
  · exact h.rd
  · exact H.rd
theorem OwnG.below {w w' : World} {lo hi B : Nat} {v : Value} {R : Nat} {n : Nat → Nat} {f : Mat} (h : OwnG w lo hi v R n f) (hb : Below B w w') (hB : hi ≤ B) : OwnG w' lo hi v R n f := by
  rcases h with h | ⟨hn, g, cap, h, C, H⟩
  · exact .inl (h.below hb hB)
  · exact .inr ⟨hn, g, cap, h, C, H.below hb hB⟩
theorem OwnG.chg {w w' : World} {lo hi lo' hi' : Nat} {v : Value} {R : Nat} {n : Nat → Nat} {f : Mat} (h : OwnG w lo hi v R n f) (hb : Chg lo' hi' w w') (hB : hi ≤ lo' ∨ hi' ≤ lo) : OwnG w' lo hi v R n f := by
  rcases h with h | ⟨hn, g, cap, h, C, H⟩
  · exact .inl (h.chg hb hB)
  · exact .inr ⟨hn, g, cap, h, C, H.chg hb hB⟩
theorem OwnG.weaken {w : World} {lo hi lo' hi' : Nat} {v : Value} {R : Nat} {n : Nat → Nat} {f : Mat} (h : OwnG w lo hi v R n f) (h1 : lo' ≤ lo) (h2 : hi ≤ hi') : OwnG w lo' hi' v R n f := by
  rcases h with h | ⟨hn, g, cap, h, C, H⟩
  · exact .inl (h.weaken h1 h2)
  · exact .inr ⟨hn, g, cap, h, C, H.weaken h1 h2⟩
theorem OwnG.alloc {w : World} {lo hi : Nat} {v : Value} {R : Nat} {n : Nat → Nat} {f : Mat} (h : OwnG w lo hi v R n f) (o : Obj) : OwnG (w.alloc o) lo hi v R n f := by
  rcases h with h | ⟨hn, g, cap, h, C, H⟩
  · exact .inl (h.alloc o)
  · exact .inr ⟨hn, g, cap, h, C, H.alloc o⟩
theorem OwnG.slice {w : World} {lo hi : Nat} {v : Value} {R : Nat} {n : Nat → Nat} {f : Mat} (h : OwnG w lo hi v R n f) : ∃ ao cap, v = .slice ao R cap := by
  rcases h with h | ⟨hn, g, cap, h, C, H⟩
  · exact h.slice
  · exact ⟨_, _, H.val⟩

/-- rows on the way to their marks: the first k have them -/
def mkN (j k : Nat) (f : Mat) : Mat := fun i c => if i < k then marksM j (fun _ => 4) i c else f i c
theorem sum4 (k : Nat) : sumN (fun _ => 4) k = 4 * k := by
  induction k with
  | zero => rfl
  | succ k ih => rw [sumN, ih]; omega
theorem mkN_step {j k : Nat} {f : Mat} (t : Nat) : joinN (mkN j (k + 1) f) t = if 4 * k ≤ t ∧ t < 4 * k + 4 then marks (j + 4 * k) (t - 4 * k) else joinN (mkN j k f) t := by
  unfold joinN mkN
  by_cases c : 4 * k ≤ t ∧ t < 4 * k + 4
  · rw [if_pos c, if_pos (by omega)]
    unfold marksM
    rw [sum4, show t / 4 = k by omega, show t % 4 = t - 4 * k by omega]
  · rw [if_neg c]
    by_cases c2 : t / 4 < k
    · rw [if_pos (by omega), if_pos c2]
    · rw [if_neg (by omega), if_neg c2]

set_option maxHeartbeats 2000000 in
theorem markByteSS_flat (v : Value) (R : Nat) (f : Mat) (lo hi : Nat) (j : Nat) (hj : j ≤ 100000000) (hR : R ≤ 10000000) (w : World) (g cap h C : Nat) (H : FlatE w lo hi v R f g cap h C) :
    Calls Try.prog 17 #[v, .int .i64 j] w fun e w' => e = .returned (.int .i64 ((j + 4 * R : Nat) : Int)) ∧ FlatE w' lo hi v R (marksM j (fun _ => 4)) g cap h C ∧ Chg lo hi w w' := by
  obtain rfl := H.val
  have hl1 := H.hlow
  have hl2 := H.hhigh
  have H0 : FlatE w lo hi (.slice (some ⟨g, 0, none⟩) R cap) R (mkN j 0 f) g cap h C := H
  clear H
  go_enter Try.func17, Try.ntmps17
  go_wp2
  go_loopw [1, 5] (fun x i wr => ∃ k : Nat, k ≤ R ∧ i = .int .i64 k ∧ x = .int .i64 ((j + 4 * k : Nat) : Int) ∧ FlatE wr lo hi (.slice (some ⟨g, 0, none⟩) R cap) R (mkN j k f) g cap h C ∧ Chg lo hi w wr) (fun _ i _ => R - (intOf i).toNat)
  case atStart => exact ⟨0, Nat.zero_le _, rfl, rfl, H0, Chg.refl' _ _ _⟩
  case round =>
    clear H0
    obtain ⟨k, hk, rfl, rfl, hF, hch⟩ := hrel
    by_cases hlt : k < R
    · obtain ⟨A, hA⟩ : ∃ A, A = 4 * k := ⟨_, rfl⟩
      have hck : wr.cell? ⟨g, k, none⟩ = some (.slice (some ⟨h, A, none⟩) 4 4) := by rw [hA]; exact hF.cell k hlt
      have C1 := markByteS_at h C (4 * R) A 4 4 (joinN (mkN j k f)) h (h + 1) (j + 4 * k) (by omega) (by omega) wr hF.flat (by omega) (Nat.le_refl _) (Nat.lt_succ_self _)
      have HF : Hid (FlatE wr lo hi (.slice (some ⟨g, 0, none⟩) R cap) R (mkN j k f) g cap h C) := hF
      have HA : Hid (A = 4 * k) := hA
      obtain ⟨J, hJ⟩ : ∃ J, J = j + 4 * k := ⟨_, rfl⟩
      rw [← hJ] at C1 ⊢
      have HJ : Hid (J = j + 4 * k) := hJ
      clear hF hA hJ
      go_wp2_with fail
      refine C1.mono ?_
      rintro ee w2 ⟨rfl, ho2, hout⟩
      have F2 : FlatE w2 lo hi (.slice (some ⟨g, 0, none⟩) R cap) R (mkN j (k + 1) f) g cap h C := HF.out.set (ho2.congr (fun t _ => by rw [mkN_step, HA.out, HJ.out])) hout.chg
      have N3 : Chg lo hi w w2 := hch.trans (hout.chg.widen hl1 (by omega))
      clear ho2 hout hch HF C1
      go_wp2
      go_roundw
      case rel => exact ⟨k + 1, by omega, by go_num, val_eq (by have := HJ.out; omega), F2, N3⟩
      case measure => simp [intOf]; omega
    · obtain rfl : k = R := by omega
      have F9 : FlatE wr lo hi (.slice (some ⟨g, 0, none⟩) k cap) k (marksM j (fun _ => 4)) g cap h C :=
        ⟨hF.val, hF.low, hF.high, hF.row, hF.flat.congr (fun t ht => by unfold joinN mkN; rw [if_pos (by omega)]), hF.hlow, hF.hhigh, hF.ne⟩
      clear hF
      go_wp2
      go_ret
      exact ⟨rfl, F9, hch⟩

theorem markBlocksG_any (c : Int) (v : Value) (R : Nat) (n : Nat → Nat) (f : Mat) (lo hi : Nat) (j : Nat) (hj : j ≤ 100000000) (hR : R ≤ 10000000) (hs : sumN n R ≤ 100000000) (w : World) (h : OwnG w lo hi v R n f) (hhi : hi ≤ w.heap.size) :
    Calls Try.prog 31 #[bytesR c v, .int .i64 j] w fun e w' => e = .returned (.int .i64 ((j + sumN n R : Nat) : Int)) ∧ OwnG w' lo hi v R n (marksM j n) ∧ Chg lo hi w w' := by
  rcases h with h | ⟨rfl, g, cap, h, C, H⟩
  · exact (markBlocksR_any c v R n f lo hi j hj (by omega) hs w h hhi).mono fun e w' ⟨he, ho, hc⟩ => ⟨he, .inl ho, hc⟩
  · unfold bytesR
    have c0 : Chg lo hi w (w.alloc (.cells #[.int .i64 c, v] 44)) := Below.chg ((Below.refl _ _).alloc (Nat.le_refl _) _) lo hi
    have C1 := markByteSS_flat v R f lo hi j hj hR _ g cap h C (H.alloc (.cells #[.int .i64 c, v] 44))
    rw [sum4]
    obtain rfl := H.val
    obtain ⟨J, hJ⟩ : ∃ x, x = j + 4 * R := ⟨_, rfl⟩
    rw [← hJ] at C1 ⊢
    clear hJ H
    go_enter Try.func31, Try.ntmps31
    go_wp2_with fail
    refine C1.mono ?_
    rintro e w2 ⟨rfl, ho, hout⟩
    have HO : Hid (OwnG w2 lo hi (.slice (some ⟨g, 0, none⟩) R cap) R (fun _ => 4) (marksM j (fun _ => 4))) := .inr ⟨rfl, g, cap, h, C, ho⟩
    clear C1 ho
    go_wp2
    go_ret
    exact ⟨rfl, HO.out, c0.trans hout⟩
end Go.Proofs.Ytoadjpacchhleah
