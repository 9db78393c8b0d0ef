/- Walk of the specification's l2Encode: the blocks of a row. -/
import Derived.Test.YtoadjpacchhleahWRowA
import Derived.Test.YtoadjpacchhleahWAppend
namespace Go.Proofs.Ytoadjpacchhleah
open Go.RowKit F256
set_option linter.unusedVariables false
set_option linter.unusedSimpArgs false

/-- the bytes of a row in blocks of four -/
def cutN (b : Nat → Nat) : Mat := fun i j => b (4 * i + j)
/-- the blocks of a row with d data blocks: those, then the spare ones -/
def encN (d : Nat) (b : Nat → Nat) : Mat := fun i j => if i < d then cutN b i j else mixN (cutN b) (genN d i 0) d j
theorem mixN_congr {f g : Mat} {c : Nat → Nat} : ∀ {k : Nat} {j : Nat}, (∀ i, i < k → f i j = g i j) → mixN f c k j = mixN g c k j
  | 0, _, _ => rfl
  | k + 1, j, h => by rw [mixN, mixN, mixN_congr (fun i hi => h i (by omega)), h k (by omega)]
theorem encN_byt {d : Nat} {b : Nat → Nat} (kb : ∀ i, b i < 256) : Byt (encN d b) := fun i j => by
  unfold encN
  split
  · exact kb _
  · exact mixN_lt _ _ (genN_lt d i 0) _ _
theorem vals_put (k : Nat) (e : Nat → Value) (x : Value) : valsOf k e ++ [x] = valsOf (k + 1) (fun i => if i = k then x else e i) := by
  rw [← valsOf_snoc]
  simp only [if_pos]
  rw [valsOf_eq (e := e) (g := fun i => if i = k then x else e i) (fun i hi => by simp [show ¬ i = k by omega])]
theorem encN_spare {d : Nat} {b : Nat → Nat} {k j : Nat} (hk : d ≤ k) : mixN (encN d b) (genN d k 0) d j = encN d b k j := by
  have h1 : ¬ k < d := by omega
  rw [mixN_congr (g := cutN b) (fun i hi => by simp [encN, hi])]
  simp [encN, h1]
theorem one_of_own {w : World} {lo hi : Nat} {v : Value} {n : Nat} {f : Nat → Nat} (h : Own w lo hi v n f) : v.oneCell' = true := by
  obtain ⟨ao, cap, rfl⟩ := h.slice
  rfl

set_option maxHeartbeats 4000000 in
theorem l2Encode_any (d s : Nat) (hd1 : 1 ≤ d) (hd : d ≤ 3) (hs : s ≤ 2) (vb : Value) (b : Nat → Nat) (h1 : Nat) (w : World) (rb : Rd w h1 vb (4 * d) b) (hcap : ∀ ao cap, vb = .slice ao (4 * d) cap → 4 * d ≤ cap) (hh : h1 ≤ w.heap.size) (kb : ∀ i, b i < 256) :
    Calls Try.prog 49 #[.int .i64 d, .int .i64 s, vb] w fun e w' => ∃ v', e = .returned v' ∧ OwnM w' w.heap.size w'.heap.size v' (d + s) (fun _ => 4) (encN d b) ∧ Below w.heap.size w w' := by
  obtain ⟨aob, capb, rfl, hmb, hcb⟩ := rb
  obtain ⟨bb, off, rfl, hbb, hcell⟩ := hcb (by omega)
  have hcp := hcap _ _ rfl
  clear hcap
  have HCB : Hid (∀ i, i < 4 * d → w.cell? ⟨bb, off + i, none⟩ = some (.int .u8 (b i))) := hcell
  have hbw : bb < w.heap.size := by omega
  clear hcb hcell
  go_enter Try.func49, Try.ntmps49
  go_wp2
  have hstart : Bld w (w.alloc (.cells #[] 23)) w.heap.size (.slice (some ⟨w.heap.size, 0, none⟩) 0 0) 0 (fun _ => 4) (encN d b) (fun _ => nilS) := by
    have hl := World.ownsRow_lit (base := w.heap.size) (e := 23) (size := 1) w #[] 0 (Nat.le_refl _) (Nat.zero_le _) rfl
    exact ⟨hl, by simp, fun i hi => by omega, fun i j hi => by omega, (Below.refl _ _).alloc (Nat.le_refl _) _, by simp⟩
  go_loopw [7, 8] (fun v i wr => ∃ m : Nat, m ≤ d ∧ i = .int .i64 m ∧ ∃ e, Bld w wr w.heap.size v m (fun _ => 4) (encN d b) e) (fun _ i _ => d - (intOf i).toNat)
  case atStart => exact ⟨0, Nat.zero_le _, rfl, _, hstart⟩
  case round =>
    clear hstart
    obtain ⟨m, hm1, rfl, e, hB⟩ := hrel
    have hbelw : Below w.heap.size w wr := hB.bel
    by_cases hlt : m < d
    · obtain ⟨A, hA⟩ : ∃ A, A = 4 * m := ⟨_, rfl⟩
      have rA : Rd wr w.heap.size (.slice (some ⟨bb, off + A, none⟩) 4 (capb - A)) 4 (encN d b m) := ⟨_, _, rfl, by unfold maxLen; omega, fun _ => ⟨bb, off + A, rfl, hbw, fun i hi => by
        have := HCB.out (4 * m + i) (by omega)
        have e1 : off + (4 * m + i) = off + A + i := by omega
        rw [e1] at this
        rw [(hbelw.cell (p := ⟨bb, off + A + i, none⟩) hbw).trans this]
        simp [encN, hlt, cutN]⟩⟩
      have HRA : Hid (Rd wr w.heap.size (.slice (some ⟨bb, off + A, none⟩) 4 (capb - A)) 4 (encN d b m)) := rA
      have HBB : Hid (Bld w wr w.heap.size u7 m (fun _ => 4) (encN d b) e) := hB
      have hszr := hB.le
      have a1 : IntKind.i64.wrap ((m : Int) * 4) = (A : Int) := by rw [IntKind.wrap_i64]; omega
      have a2 : IntKind.i64.wrap ((m : Int) + 1) = (m : Int) + 1 := by rw [IntKind.wrap_i64]; omega
      have a3 : IntKind.i64.wrap (((m : Int) + 1) * 4) = (A : Int) + 4 := by rw [IntKind.wrap_i64]; omega
      have a4 : (m : Int) * 4 = (A : Int) := by omega
      have a5 : ((m : Int) + 1) * 4 = (A : Int) + 4 := by omega
      clear hA rA hB
      have a6 : (A : Int) + 4 ≤ (capb : Int) := by omega
      go_wp2_with (first | (at_builtin; refine wp_appendX rfl (.tmp 18) (.tmp 25) rfl wr.heap.size (wr.heap.size + 1) (.slice (some ⟨wr.heap.size, 0, none⟩) 0 0) 0 (encN d b m) ?_ ?_ w.heap.size (.slice (some ⟨bb, off + A, none⟩) 4 (capb - A)) 4 (encN d b m) ?_ ?_ (by omega) (fun i _ => by rw [Nat.zero_add]) (by omega) ?_ ?_; (simp [Act.eval]); exact (own_lit0 wr _).weaken (Nat.le_refl _) (by simp); (simp [Act.eval]); exact HRA.out.below ((Below.refl w.heap.size wr).alloc hszr _) (Nat.le_refl _); simp; intro v2 w2 ho2 hg2; obtain ⟨ao2, cap2, rfl⟩ := ho2.slice; have hb2 : Below wr.heap.size wr w2 := ((Below.refl wr.heap.size wr).alloc (Nat.le_refl _) _).grown hg2 (by simp) (fun k hk => by simp [Value.ownBlock] at hk; omega)) | (at_builtin; refine wp_appendM rfl (.tmp 17) (.tmp 27) rfl w.heap.size u7 m e ?_ ?_ w2.heap.size 1 (.slice ao2 (0 + 4) cap2) ?_ ?_ rfl (by omega) ?_ ?_; (simp [Act.eval]); exact (row_kept HBB.out.row fun b hb' => hb2.block b (HBB.out.row.lt b hb').2).alloc _; (simp [Act.eval]); simp; (simp; have := hb2.size; omega); intro v4 w4 hr4 hg4 hn4))
      have NX := HBB.out.next hb2 ho2 hr4 hg4 hn4
      clear hb2 ho2 hr4 hg4 hn4 HBB HRA
      go_roundw
      case rel => exact ⟨m + 1, by omega, by go_num, _, NX⟩
      case measure => simp [intOf]; omega
    · obtain rfl : m = d := by omega
      obtain ⟨wA, hwA⟩ : ∃ wA, wA = wr := ⟨_, rfl⟩
      rw [← hwA] at hB hbelw ⊢
      clear hwA
      have hsA := hB.le
      obtain ⟨gP, cP, eP, hE⟩ := hB.done
      have hv := hE.val
      subst hv
      have HP : Hid (OwnE wA w.heap.size wA.heap.size (.slice (some ⟨gP, 0, none⟩) m cP) m (fun _ => 4) (encN m b) gP cP eP) := hE
      have HBA : Hid (Below w.heap.size w wA) := hbelw
      have hgP := hE.high
      clear hE hB hbelw
      go_wp2_with (at_builtin; refine wp_appendRows rfl (.tmp 29) (.tmp 30) rfl wA.heap.size (.slice (some ⟨wA.heap.size, 0, none⟩) 0 0) 0 eP ?_ ?_ gP 0 m cP ?_ ?_ ?_ (by omega) ?_ ?_; (simp [Act.eval]); exact World.ownsRow_lit (base := wA.heap.size) (e := 23) (size := 1) wA #[] 0 (Nat.le_refl _) (Nat.zero_le _) rfl; (simp [Act.eval]); (intro i hi; simp only [Nat.zero_add]; exact (cell_alloc_old wA _ gP i hgP).trans (HP.out.cell i hi)); (intro i hi; simp only [Nat.zero_add]; exact one_of_own (HP.out.each i hi)); simp; intro v5 w5 hr5 hg5 hn5)
      simp only [Nat.zero_add] at hr5
      have B5 : Below wA.heap.size wA w5 := ((Below.refl wA.heap.size wA).alloc (Nat.le_refl _) _).grown hg5 (by simp) (fun k hk => by simp [Value.ownBlock] at hk; omega)
      have s5 := B5.size
      have hnn5 : v5 ≠ nilS := fun h => by have := (hn5.mp h).1; cases this
      have R0 : BldR w5 w.heap.size w5.heap.size v5 m (fun _ => 4) (encN m b) eP := ⟨row_weaken hr5 hsA, hnn5, fun b hb => (hr5.lt b hb).2, fun i hi => ((HP.out.each i hi).below B5 (Nat.le_refl _)).mono s5, HP.out.apart.2, by omega, Nat.le_refl _⟩
      clear hg5 hn5 hnn5
      go_loopw [9, 10] (fun v j wr => ∃ k : Nat, k ≤ s ∧ j = .int .i64 k ∧ ∃ e, BldR wr w.heap.size wr.heap.size v (m + k) (fun _ => 4) (encN m b) e ∧ wr.ownsRow wA.heap.size 23 1 v (m + k) (valsOf (m + k) e) ∧ Below wA.heap.size wA wr) (fun _ j _ => s - (intOf j).toNat)
      case atStart => exact ⟨0, Nat.zero_le _, rfl, eP, R0, hr5, B5⟩
      case round =>
        clear R0 hr5 B5
        obtain ⟨k, hk, rfl, e2, hB, hrow, hbA⟩ := hrel
        have szr := hbA.size
        by_cases hlt2 : k < s
        · have D := l2Gen_any m (m + k) 0 (by omega) (by omega) wr
          have eRp : ((m + k : Nat) : Int) = (m : Int) + (k : Int) := by simp
          have e0 : ((0 : Nat) : Int) = 0 := rfl
          rw [eRp, e0] at D
          have HB : Hid (BldR wr w.heap.size wr.heap.size u9 (m + k) (fun _ => 4) (encN m b) e2) := hB
          have HROW : Hid (wr.ownsRow wA.heap.size 23 1 u9 (m + k) (valsOf (m + k) e2)) := hrow
          have HBW : Hid (Below wA.heap.size wA wr) := hbA
          have HF : Hid (∀ j, j < 4 → mixN (encN m b) (genN m (m + k) 0) m j = encN m b (m + k) j) := fun j _ => encN_spare (by omega)
          clear hB hrow hbA eRp e0
          go_wp2_with (first | (go_at_call 68; refine D.mono ?_; rintro ee w6 ⟨v6, rfl, o6, b6⟩; obtain ⟨ao6, cap6, rfl⟩ := o6.slice) | (go_at_call 36; refine (l1Mix_any _ _ m 4 (fun _ => 4) (encN m b) (genN m (m + k) 0) wA.heap.size w6.heap.size w6 ((HP.out.rd.below HBW.out (Nat.le_refl _)).below (b6.mono szr) (Nat.le_refl _)) o6.rd (Nat.le_trans szr b6.size) (Nat.le_refl _) (by omega) (fun _ _ => rfl) (by omega) (encN_byt kb) (genN_lt m (m + k) 0)).mono ?_; rintro ee w7 ⟨v7, rfl, o7, b7⟩; obtain ⟨ao7, cap7, rfl⟩ := o7.slice; have hb7 : Below wr.heap.size wr w7 := b6.trans (b7.mono b6.size)) | (at_builtin; refine wp_appendM rfl (.tmp 37) (.tmp 45) rfl wA.heap.size u9 (m + k) e2 ?_ ?_ w7.heap.size 1 (.slice ao7 4 cap7) ?_ ?_ rfl (by omega) ?_ ?_; (simp [Act.eval]); exact (row_kept HROW.out fun b hb' => hb7.block b (HROW.out.lt b hb').2).alloc _; (simp [Act.eval]); simp; (simp; have := hb7.size; omega); intro v4 w4 hr4 hg4 hn4))
          have s6 := b6.size
          have s7 := hb7.size
          have NX := (HB.out.kept (w2 := w7) (fun b _ h2 => hb7.block b h2) s7).next (n' := fun _ => 4) (f' := encN m b) (o7.congr HF.out) s6 (fun _ _ => rfl) (fun _ _ => rfl) (row_weaken hr4 hsA) hg4 hn4
          rw [vals_put] at hr4
          have B4 : Below wA.heap.size wA w4 := (HBW.out.trans (hb7.mono szr)).trans (((Below.refl wA.heap.size w7).alloc (by omega) _).grown hg4 (by simp; omega) (fun q hq => (HROW.out.lt q hq).1))
          clear b6 b7 hb7 o6 o7 hg4 hn4 HB HROW HBW D
          go_wp2
          go_roundw
          case rel => exact ⟨k + 1, by omega, by go_num, _, NX, hr4, B4⟩
          case measure => simp [intOf]; omega
        · obtain rfl : k = s := by omega
          obtain ⟨g9, c9, hE9⟩ := hB.done
          have hB9 : Below w.heap.size w wr := HBA.out.trans (hbA.mono hsA)
          clear hB hrow hbA
          go_wp2
          go_ret
          exact ⟨_, rfl, ⟨_, _, _, hE9⟩, hB9⟩
end Go.Proofs.Ytoadjpacchhleah
