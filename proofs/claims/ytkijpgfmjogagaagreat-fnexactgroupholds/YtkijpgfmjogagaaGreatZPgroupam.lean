/- Walk of the specification's l2Encode: the blocks of a row. -/
import Derived.Test.YtkijpgfmjogagaaGreatZPgroupad
import Derived.Test.YtkijpgfmjogagaaGreatZPgroupac
import Derived.Test.YtkijpgfmjogagaaGreatZPgroupaa
import Derived.Test.YtkijpgfmjogagaaGreatZPgroupal
import Derived.Test.YtkijpgfmjogagaaGreatZPgroupah
set_option linter.unusedVariables false
set_option linter.unusedSimpArgs false
namespace Go.Proofs.YtkijpgfmjogagaaGreat
open Go.RowKit F256
def cutN (b : Nat → Nat) : Mat := fun i j => b (4 * i + j)
def encN (d : Nat) (b : Nat → Nat) : Mat := fun i j => if i < d then cutN b i j else mixN (cutN b) (genN d i 0) d j
theorem mixN_congr {f g : Mat} {c : Nat → Nat} : ∀ {k : Nat} {j : Nat}, (∀ i, i < k → f i j = g i j) → mixN f c k j = mixN g c k j
  | 0, _, _ => rfl
  | k + 1, j, h => by rw [mixN, mixN, mixN_congr (fun i hi => h i (by omega)), h k (by omega)]
theorem encN_byt {d : Nat} {b : Nat → Nat} (kb : ∀ i, b i < 256) : Byt (encN d b) := fun i j => by
  unfold encN
  split
  · exact kb _
  · exact mixN_lt _ _ (genN_lt d i 0) _ _
theorem vals_put (k : Nat) (e : Nat → Value) (x : Value) : valsOf k e ++ [x] = valsOf (k + 1) (fun i => if i = k then x else e i) := by
  rw [← valsOf_snoc]
  simp only [if_pos]
  rw [valsOf_eq (e := e) (g := fun i => if i = k then x else e i) (fun i hi => by simp [show ¬ i = k by omega])]
theorem encN_spare {d : Nat} {b : Nat → Nat} {k j : Nat} (hk : d ≤ k) : mixN (encN d b) (genN d k 0) d j = encN d b k j := by
  have h1 : ¬ k < d := by omega
  rw [mixN_congr (g := cutN b) (fun i hi => by simp [encN, hi])]
  simp [encN, h1]
theorem one_of_own {w : World} {lo hi : Nat} {v : Value} {n : Nat} {f : Nat → Nat} (h : Own w lo hi v n f) : v.oneCell' = true := by
  obtain ⟨ao, cap, rfl⟩ := h.slice
  rfl
set_option maxHeartbeats 4000000 in
theorem l2Encode_any (d s : Nat) (hd1 : 1 ≤ d) (hd : d ≤ 3) (hs : s ≤ 2) (vb : Value) (b : Nat → Nat) (h1 : Nat) (w : World) (rb : Rd w h1 vb (4 * d) b) (hcap : ∀ ao cap, vb = .slice ao (4 * d) cap → 4 * d ≤ cap) (hh : h1 ≤ w.heap.size) (kb : ∀ i, b i < 256) :
    Calls Tryz.prog 59 #[.int .i64 d, .int .i64 s, vb] w fun e w' => ∃ v', e = .returned v' ∧ OwnM w' w.heap.size w'.heap.size v' (d + s) (fun _ => 4) (encN d b) ∧ Below w.heap.size w w' := by
  obtain ⟨aob, capb, rfl, hmb, hcb⟩ := rb
  obtain ⟨bb, off, rfl, hbb, hcell⟩ := hcb (by omega)
  have hcp := hcap _ _ rfl
  clear hcap
  have HCB : Hid (∀ i, i < 4 * d → w.cell? ⟨bb, off + i, none⟩ = some (.int .u8 (b i))) := hcell
  have hbw : bb < w.heap.size := by omega
  clear hcb hcell
  go_enter Tryz.func59, Tryz.ntmps59
  go_wp2
  have hstart : Bld w (w.alloc (.cells #[] 91)) w.heap.size (.slice (some ⟨w.heap.size, 0, none⟩) 0 0) 0 (fun _ => 4) (encN d b) (fun _ => nilS) := by
    have hl := World.ownsRow_lit (base := w.heap.size) (e := 91) (size := 1) w #[] 0 (Nat.le_refl _) (Nat.zero_le _) rfl
    exact ⟨hl, by simp, fun i hi => by omega, fun i j hi => by omega, (Below.refl _ _).alloc (Nat.le_refl _) _, by simp⟩
  go_loopw [7, 8] (fun v i wr => ∃ m : Nat, m ≤ d ∧ i = .int .i64 m ∧ ∃ e, Bld w wr w.heap.size v m (fun _ => 4) (encN d b) e) (fun _ i _ => d - (intOf i).toNat)
  case atStart => exact ⟨0, Nat.zero_le _, rfl, _, hstart⟩
  case round =>
    clear hstart
    obtain ⟨m, hm1, rfl, e, hB⟩ := hrel
    have hbelw : Below w.heap.size w wr := hB.bel
    by_cases hlt : m < d
    · obtain ⟨A, hA⟩ : ∃ A, A = 4 * m := ⟨_, rfl⟩
      have rA : Rd wr w.heap.size (.slice (some ⟨bb, off + A, none⟩) 4 (capb - A)) 4 (encN d b m) := ⟨_, _, rfl, by unfold maxLen; omega, fun _ => ⟨bb, off + A, rfl, hbw, fun i hi => by
        have := HCB.out (4 * m + i) (by omega)
        have e1 : off + (4 * m + i) = off + A + i := by omega
        rw [e1] at this
        rw [(hbelw.cell (p := ⟨bb, off + A + i, none⟩) hbw).trans this]
        simp [encN, hlt, cutN]⟩⟩
      have HRA : Hid (Rd wr w.heap.size (.slice (some ⟨bb, off + A, none⟩) 4 (capb - A)) 4 (encN d b m)) := rA
      have HBB : Hid (Bld w wr w.heap.size u7 m (fun _ => 4) (encN d b) e) := hB
      have hszr := hB.le
      have a1 : IntKind.i64.wrap ((m : Int) * 4) = (A : Int) := by rw [IntKind.wrap_i64]; omega
      have a2 : IntKind.i64.wrap ((m : Int) + 1) = (m : Int) + 1 := by rw [IntKind.wrap_i64]; omega
      have a3 : IntKind.i64.wrap (((m : Int) + 1) * 4) = (A : Int) + 4 := by rw [IntKind.wrap_i64]; omega
      have a4 : (m : Int) * 4 = (A : Int) := by omega
      have a5 : ((m : Int) + 1) * 4 = (A : Int) + 4 := by omega
      clear hA rA hB
      have a6 : (A : Int) + 4 ≤ (capb : Int) := by omega
      go_wp2_with (first | (at_builtin; refine wp_appendX rfl (.tmp 18) (.tmp 25) rfl wr.heap.size (wr.heap.size + 1) (.slice (some ⟨wr.heap.size, 0, none⟩) 0 0) 0 (encN d b m) ?_ ?_ w.heap.size (.slice (some ⟨bb, off + A, none⟩) 4 (capb - A)) 4 (encN d b m) ?_ ?_ (by omega) (fun i _ => by rw [Nat.zero_add]) (by omega) ?_ ?_; (simp [Act.eval]); exact (own_lit0 wr _).weaken (Nat.le_refl _) (by simp); (simp [Act.eval]); exact HRA.out.below ((Below.refl w.heap.size wr).alloc hszr _) (Nat.le_refl _); simp; intro v2 w2 ho2 hg2; obtain ⟨ao2, cap2, rfl⟩ := ho2.slice; have hb2 : Below wr.heap.size wr w2 := ((Below.refl wr.heap.size wr).alloc (Nat.le_refl _) _).grown hg2 (by simp) (fun k hk => by simp [Value.ownBlock] at hk; omega)) | (at_builtin; refine wp_appendM rfl (.tmp 17) (.tmp 27) rfl w.heap.size u7 m e ?_ ?_ w2.heap.size 1 (.slice ao2 (0 + 4) cap2) ?_ ?_ rfl (by omega) ?_ ?_; (simp [Act.eval]); exact (row_kept HBB.out.row fun b hb' => hb2.block b (HBB.out.row.lt b hb').2).alloc _; (simp [Act.eval]); simp; (simp; have := hb2.size; omega); intro v4 w4 hr4 hg4 hn4))
      have NX := HBB.out.next hb2 ho2 hr4 hg4 hn4
      clear hb2 ho2 hr4 hg4 hn4 HBB HRA
      go_roundw
      case rel => exact ⟨m + 1, by omega, by go_num, _, NX⟩
      case measure => simp [intOf]; omega
    · obtain rfl : m = d := by omega
      obtain ⟨wA, hwA⟩ : ∃ wA, wA = wr := ⟨_, rfl⟩
      rw [← hwA] at hB hbelw ⊢
      clear hwA
      have hsA := hB.le
      obtain ⟨gP, cP, eP, hE⟩ := hB.done
      have hv := hE.val
      subst hv
      have HP : Hid (OwnE wA w.heap.size wA.heap.size (.slice (some ⟨gP, 0, none⟩) m cP) m (fun _ => 4) (encN m b) gP cP eP) := hE
      have HBA : Hid (Below w.heap.size w wA) := hbelw
      have hgP := hE.high
      clear hE hB hbelw
      go_wp2_with (at_builtin; refine wp_appendRows rfl (.tmp 29) (.tmp 30) rfl wA.heap.size (.slice (some ⟨wA.heap.size, 0, none⟩) 0 0) 0 eP ?_ ?_ gP 0 m cP ?_ ?_ ?_ (by omega) ?_ ?_; (simp [Act.eval]); exact World.ownsRow_lit (base := wA.heap.size) (e := 91) (size := 1) wA #[] 0 (Nat.le_refl _) (Nat.zero_le _) rfl; (simp [Act.eval]); (intro i hi; simp only [Nat.zero_add]; exact (cell_alloc_old wA _ gP i hgP).trans (HP.out.cell i hi)); (intro i hi; simp only [Nat.zero_add]; exact one_of_own (HP.out.each i hi)); simp; intro v5 w5 hr5 hg5 hn5)
      simp only [Nat.zero_add] at hr5
      have B5 : Below wA.heap.size wA w5 := ((Below.refl wA.heap.size wA).alloc (Nat.le_refl _) _).grown hg5 (by simp) (fun k hk => by simp [Value.ownBlock] at hk; omega)
      have s5 := B5.size
      have hnn5 : v5 ≠ nilS := fun h => by have := (hn5.mp h).1; cases this
      have R0 : BldR w5 w.heap.size w5.heap.size v5 m (fun _ => 4) (encN m b) eP := ⟨row_weaken hr5 hsA, hnn5, fun b hb => (hr5.lt b hb).2, fun i hi => ((HP.out.each i hi).below B5 (Nat.le_refl _)).mono s5, HP.out.apart.2, by omega, Nat.le_refl _⟩
      clear hg5 hn5 hnn5
      go_loopw [9, 10] (fun v j wr => ∃ k : Nat, k ≤ s ∧ j = .int .i64 k ∧ ∃ e, BldR wr w.heap.size wr.heap.size v (m + k) (fun _ => 4) (encN m b) e ∧ wr.ownsRow wA.heap.size 91 1 v (m + k) (valsOf (m + k) e) ∧ Below wA.heap.size wA wr) (fun _ j _ => s - (intOf j).toNat)
      case atStart => exact ⟨0, Nat.zero_le _, rfl, eP, R0, hr5, B5⟩
      case round =>
        clear R0 hr5 B5
        obtain ⟨k, hk, rfl, e2, hB, hrow, hbA⟩ := hrel
        have szr := hbA.size
        by_cases hlt2 : k < s
        · have D := l2Gen_any m (m + k) 0 (by omega) (by omega) wr
          have eRp : ((m + k : Nat) : Int) = (m : Int) + (k : Int) := by simp
          have e0 : ((0 : Nat) : Int) = 0 := rfl
          rw [eRp, e0] at D
          have HB : Hid (BldR wr w.heap.size wr.heap.size u9 (m + k) (fun _ => 4) (encN m b) e2) := hB
          have HROW : Hid (wr.ownsRow wA.heap.size 91 1 u9 (m + k) (valsOf (m + k) e2)) := hrow
          have HBW : Hid (Below wA.heap.size wA wr) := hbA
          have HF : Hid (∀ j, j < 4 → mixN (encN m b) (genN m (m + k) 0) m j = encN m b (m + k) j) := fun j _ => encN_spare (by omega)
          clear hB hrow hbA eRp e0
          go_wp2_with (first | (go_at_call 93; refine D.mono ?_; rintro ee w6 ⟨v6, rfl, o6, b6⟩; obtain ⟨ao6, cap6, rfl⟩ := o6.slice) | (go_at_call 92; refine (l1Mix_any _ _ m 4 (fun _ => 4) (encN m b) (genN m (m + k) 0) wA.heap.size w6.heap.size w6 ((HP.out.rd.below HBW.out (Nat.le_refl _)).below (b6.mono szr) (Nat.le_refl _)) o6.rd (Nat.le_trans szr b6.size) (Nat.le_refl _) (by omega) (fun _ _ => rfl) (by omega) (encN_byt kb) (genN_lt m (m + k) 0)).mono ?_; rintro ee w7 ⟨v7, rfl, o7, b7⟩; obtain ⟨ao7, cap7, rfl⟩ := o7.slice; have hb7 : Below wr.heap.size wr w7 := b6.trans (b7.mono b6.size)) | (at_builtin; refine wp_appendM rfl (.tmp 37) (.tmp 45) rfl wA.heap.size u9 (m + k) e2 ?_ ?_ w7.heap.size 1 (.slice ao7 4 cap7) ?_ ?_ rfl (by omega) ?_ ?_; (simp [Act.eval]); exact (row_kept HROW.out fun b hb' => hb7.block b (HROW.out.lt b hb').2).alloc _; (simp [Act.eval]); simp; (simp; have := hb7.size; omega); intro v4 w4 hr4 hg4 hn4))
          have s6 := b6.size
          have s7 := hb7.size
          have NX := (HB.out.kept (w2 := w7) (fun b _ h2 => hb7.block b h2) s7).next (n' := fun _ => 4) (f' := encN m b) (o7.congr HF.out) s6 (fun _ _ => rfl) (fun _ _ => rfl) (row_weaken hr4 hsA) hg4 hn4
          rw [vals_put] at hr4
          have B4 : Below wA.heap.size wA w4 := (HBW.out.trans (hb7.mono szr)).trans (((Below.refl wA.heap.size w7).alloc (by omega) _).grown hg4 (by simp; omega) (fun q hq => (HROW.out.lt q hq).1))
          clear b6 b7 hb7 o6 o7 hg4 hn4 HB HROW HBW D
          go_wp2
          go_roundw
          case rel => exact ⟨k + 1, by omega, by go_num, _, NX, hr4, B4⟩
          case measure => simp [intOf]; omega
        · obtain rfl : k = s := by omega
          obtain ⟨g9, c9, hE9⟩ := hB.done
          have hB9 : Below w.heap.size w wr := HBA.out.trans (hbA.mono hsA)
          clear hB hrow hbA
          go_wp2
          go_ret
          exact ⟨_, rfl, ⟨_, _, _, hE9⟩, hB9⟩
end Go.Proofs.YtkijpgfmjogagaaGreat
namespace Go.Proofs.YtkijpgfmjogagaaGreat
open F256
def blockN (D : Nat) (n : Nat → Nat) (R : Nat) (f : Mat) (want : Nat) : Nat → Nat := mixN (fun k => f (nthN n R k)) (weightsN D 0 (nthN n R) want) D
def decN (D : Nat) (n : Nat → Nat) (R : Nat) (f : Mat) : Nat → Nat := fun t => blockN D n R f (t / 4) (t % 4)
theorem decN_at (D : Nat) (n : Nat → Nat) (R : Nat) (f : Mat) (k i : Nat) (hi : i < 4) : decN D n R f (4 * k + i) = blockN D n R f k i := by
  unfold decN
  rw [show (4 * k + i) / 4 = k by omega, show (4 * k + i) % 4 = i by omega]
end Go.Proofs.YtkijpgfmjogagaaGreat
namespace Go.Proofs.YtkijpgfmjogagaaGreat
open Go.RowKit F256
theorem wp_appendIt {ops : Array Oper} {rest : List Oper} {o : Oper} {a : Act} {w : World} {Q : Exit → Act → World → Prop}
    (hg : o.guard = none) (s x : Operand) (hop : o.op = Op.call { callee := Callee.builtin Builtin.append, args := #[s, x], argTypes := #[25, 25] })
    (lo hi : Nat) (v : Value) (n : Nat) (f : Nat → Int) (hs : a.eval s = v) (hown : OwnI w lo hi v n f) (b c : Nat) (hx : a.eval x = .slice (some ⟨b, 0, none⟩) 1 c) (hcell : w.cell? ⟨b, 0, none⟩ = some (.int .i64 (f n)))
    (hn : n + 1 ≤ 1000000) (hlo : lo ≤ w.heap.size)
    (hK : ∀ v' w', OwnI w' lo w'.heap.size v' (n + 1) f → w.grownBy w' v.ownBlock → wpList Tryz.prog ops Q rest (a.put o.dst v') w') : wpList Tryz.prog ops Q (o :: rest) a w := by
  obtain ⟨i0, hi0, hz0, hz1, hz2⟩ := info_parts info_i64
  refine wpList_append_own w hg s x 25 hop lo 2 i0 (.int .i64 0) 1 8 Tryz.underlying25 hi0 hz0 hz1 hz2 rfl (by decide) v n (intsOf n f) hs hown.1 ⟨b, 0, none⟩ 1 c [.int .i64 (f n)] hx rfl ?_ ?_ (by unfold maxLen; omega) (by omega) hlo ?_
  · intro j u hj
    match j, hj with
    | 0, hj => simp at hj; subst hj; simpa [Addr.add] using hcell
  · intro u hu
    simp at hu
    subst hu
    rfl
  · intro v' w' h1 h2 _
    rw [intsOf_snoc] at h1
    exact hK v' w' ⟨h1, fun k hk => (h1.lt k hk).2⟩ h2
theorem two_types {w : World} {lo lo' hi : Nat} {v x : Value} {k n : Nat} {xs : List Value} {f : Nat → Int} (h : w.ownsRow lo 91 1 v k xs) (ho : OwnI w lo' hi x n f) (b : Nat) (hb : v.ownBlock = some b) : x.ownBlock ≠ some b := by
  intro hx
  rcases h.2 with ⟨rfl, _⟩ | ⟨g, cap, cur, rfl, _, hg, _⟩
  · cases hb
  · rcases ho.1.2 with ⟨rfl, _⟩ | ⟨g', cap', cur', rfl, _, hg', _⟩
    · cases hx
    · simp [Value.ownBlock] at hb hx
      subst hb
      subst hx
      rw [hg] at hg'
      simp at hg'
theorem OwnI.kept {w w' : World} {lo hi : Nat} {v : Value} {n : Nat} {f : Nat → Int} (h : OwnI w lo hi v n f) (hk : ∀ g, v.ownBlock = some g → w'.heap[g]? = w.heap[g]?) : OwnI w' lo hi v n f := by
  refine ⟨⟨h.1.1, ?_⟩, h.2⟩
  rcases h.1.2 with hn | ⟨g, cap, cur, rfl, hbg, hgg, rest⟩
  · exact .inl hn
  · exact .inr ⟨g, cap, cur, rfl, hbg, (hk g rfl).trans hgg, rest⟩
end Go.Proofs.YtkijpgfmjogagaaGreat
namespace Go.Proofs.YtkijpgfmjogagaaGreat
open Go.RowKit F256
def BlkP (D : Nat) (n : Nat → Nat) (R : Nat) (f : Mat) (want : Nat) (w : World) (ee : Ending) (w' : World) : Prop :=
  ∃ v' b, ee = .returned (.tuple #[v', .bool b]) ∧ (b = true ↔ D ≤ cntN n R) ∧ Own w' w.heap.size w'.heap.size v' (if b = true then 4 else 0) (blockN D n R f want) ∧ Below w.heap.size w w'
set_option maxHeartbeats 4000000 in
theorem l2Block_any (D want : Nat) (v : Value) (R : Nat) (n : Nat → Nat) (f : Mat) (h1 : Nat) (w : World) (r : RdM w h1 v R n f) (hh : h1 ≤ w.heap.size) (hD1 : 1 ≤ D) (hD : D ≤ 3) (hR : R ≤ D + 2) (hw : want < D + 2) (h4 : ∀ i, i < R → n i = 0 ∨ n i = 4) (kf : Byt f) :
    Calls Tryz.prog 114 #[.int .i64 D, v, .int .i64 want] w (BlkP D n R f want w) := by
  obtain ⟨ao, cap, e, rfl, hm, hc, he⟩ := r
  have HHE : Hid (∀ i, i < R → Rd w h1 (e i) (n i) (f i)) := he
  have HHC : Hid (R ≠ 0 → ∃ b off, ao = some ⟨b, off, none⟩ ∧ b < h1 ∧ ∀ i, i < R → w.cell? ⟨b, off + i, none⟩ = some (e i)) := hc
  have HH4 : Hid (∀ i, i < R → n i = 0 ∨ n i = 4) := h4
  clear hc he h4
  go_enter Tryz.func114, Tryz.ntmps114
  go_wp2
  have S0 : ((w.alloc (.cells #[] 2)).alloc (.cells #[] 91)).heap.size = w.heap.size + 2 := by simp
  have I0 : OwnI ((w.alloc (.cells #[] 2)).alloc (.cells #[] 91)) w.heap.size ((w.alloc (.cells #[] 2)).alloc (.cells #[] 91)).heap.size (.slice (some ⟨w.heap.size, 0, none⟩) 0 0) 0 (fun t => (nthN n R t : Int)) := ((ownI_lit0 w _).alloc _).weaken (Nat.le_refl _) (by simp)
  have M0 : ((w.alloc (.cells #[] 2)).alloc (.cells #[] 91)).ownsRow w.heap.size 91 1 (.slice (some ⟨w.heap.size + 1, 0, none⟩) 0 0) 0 (valsOf 0 fun t => e (nthN n R t)) := by
    have hl := World.ownsRow_lit (base := w.heap.size) (e := 91) (size := 1) (w.alloc (.cells #[] 2)) #[] 0 (by simp) (Nat.zero_le _) rfl
    have hz : (w.alloc (.cells #[] 2)).heap.size = w.heap.size + 1 := by simp
    rw [hz] at hl
    exact hl
  go_loopw [8, 9, 10] (fun vh vm i wr => ∃ c k : Nat, k ≤ R ∧ i = .int .i64 k ∧ c = cntN n k ∧ c ≤ D ∧ OwnI wr w.heap.size wr.heap.size vh c (fun t => (nthN n R t : Int)) ∧ wr.ownsRow w.heap.size 91 1 vm c (valsOf c fun t => e (nthN n R t)) ∧ Below w.heap.size w wr) (fun _ _ i _ => R - (intOf i).toNat)
  case atStart => exact ⟨0, 0, Nat.zero_le _, rfl, rfl, Nat.zero_le _, I0, M0, ((Below.refl _ _).alloc (Nat.le_refl _) _).alloc (by simp) _⟩
  case round =>
    clear I0 M0 S0
    obtain ⟨c, k, hk, rfl, hck, hcD, hI, hM, hb⟩ := hrel
    have HCK : Hid (c = cntN n k) := hck
    have HI : Hid (OwnI wr w.heap.size wr.heap.size u8 c (fun t => (nthN n R t : Int))) := hI
    have HM : Hid (wr.ownsRow w.heap.size 91 1 u9 c (valsOf c fun t => e (nthN n R t))) := hM
    have HB : Hid (Below w.heap.size w wr) := hb
    obtain ⟨ao8, cap8, hs8⟩ := hI.slice
    subst hs8
    have szr := hb.size
    clear hck
    by_cases hlt : k < R
    · by_cases hcd : c < D
      · obtain ⟨b, off, hao, hblt, hcell⟩ := HHC.out (by omega)
        subst hao
        have c1 : wr.cell? ⟨b, off + k, none⟩ = some (e k) := (hb.cell (p := ⟨b, off + k, none⟩) (by show b < w.heap.size; omega)).trans (hcell k hlt)
        obtain ⟨aok, capk, hsk, hmk, hqk⟩ := HHE.out k hlt
        unfold maxLen at hmk
        obtain ⟨nk, hnk⟩ : ∃ x, x = n k := ⟨_, rfl⟩
        have HNK : Hid (nk = n k) := hnk
        have HEK : Hid (e k = .slice aok nk capk) := by show e k = _; rw [hsk, hnk]
        rw [hsk, ← hnk] at c1
        rw [← hnk] at hmk
        clear hnk hsk hqk hcell hI hM hb
        by_cases e1 : nk = 0
        · have HN0 : Hid (nk = 0) := e1
          have t1 : decide ((0 : Int) < (nk : Int)) = false := by simp; omega
          have t1n : decide (0 < nk) = false := by simp; omega
          clear e1
          go_wp2
          go_roundw
          case rel => exact ⟨c, k + 1, by omega, by go_num, by rw [cntN, if_pos (by rw [← HNK.out]; exact HN0.out)]; exact HCK.out, hcD, HI.out, HM.out, HB.out⟩
          case measure => simp [intOf]; omega
        · have hnt : nthN n R c = k := by rw [HCK.out]; exact nthN_is hlt (by rw [← HNK.out]; exact e1)
          have HNT : Hid (nthN n R c = k) := hnt
          have HN0 : Hid (nk ≠ 0) := e1
          have t1 : (0 : Int) < (nk : Int) := by omega
          have hbw : b < w.heap.size := by omega
          clear e1 hnt
          go_wp2_with (first | (at_builtin; refine wp_appendIt rfl (.tmp 31) (.tmp 33) rfl w.heap.size wr.heap.size (.slice ao8 c cap8) c (fun t => (nthN n R t : Int)) ?_ ?_ wr.heap.size 1 ?_ ?_ (by omega) ?_ ?_; (simp [Act.eval]); exact HI.out.alloc _; (simp [Act.eval]); (rw [HNT.out]; simp); (simp; omega); intro v2 w2 o2 g2; have b2 : Below w.heap.size wr w2 := ((Below.refl w.heap.size wr).alloc szr _).grown g2 (by simp; omega) (fun q hq => (HI.out.1.lt q hq).1); have c2 : w2.cell? ⟨b, off + k, none⟩ = some (.slice aok nk capk) := (b2.cell (p := ⟨b, off + k, none⟩) hbw).trans c1; have m2 : w2.ownsRow w.heap.size 91 1 u9 c (valsOf c fun t => e (nthN n R t)) := row_kept HM.out (fun q hq => (g2.block q (by have := (HM.out.lt q hq).2; simp; omega) (fun hhh => two_types HM.out HI.out q hq hhh.symm)).trans (Below.heap_alloc wr _ q (HM.out.lt q hq).2)); have s2 : wr.heap.size + 1 ≤ w2.heap.size := (by have := g2.size; simpa using this); obtain ⟨ao2, cap2, rfl⟩ := o2.slice) | (at_builtin; refine wp_appendM rfl (.tmp 35) (.tmp 40) rfl w.heap.size u9 c (fun t => e (nthN n R t)) ?_ ?_ w2.heap.size 1 (.slice aok nk capk) ?_ ?_ rfl (by omega) ?_ ?_; (simp [Act.eval]); exact m2.alloc _; (simp [Act.eval]); simp; (simp; omega); intro v4 w4 hr4 hg4 hn4))
          have hr5 : w4.ownsRow w.heap.size 91 1 v4 (c + 1) (valsOf (c + 1) fun t => e (nthN n R t)) := by
            rw [← valsOf_snoc, HNT.out, HEK.out]
            exact hr4
          have s4 : w2.heap.size + 1 ≤ w4.heap.size := by have := hg4.size; simpa using this
          have o5 : OwnI w4 w.heap.size w4.heap.size (.slice ao2 (c + 1) cap2) (c + 1) (fun t => (nthN n R t : Int)) := (o2.kept fun q hq => (hg4.block q (by have := (o2.1.lt q hq).2; simp; omega) (fun hhh => two_types m2 o2 q hhh.symm hq)).trans (Below.heap_alloc w2 _ q (o2.1.lt q hq).2)).mono (by omega)
          have b5 : Below w.heap.size w w4 := (HB.out.trans b2).trans (((Below.refl w.heap.size w2).alloc (by omega) _).grown hg4 (by simp; omega) (fun q hq => (m2.lt q hq).1))
          clear hr4 hg4 hn4 o2 g2 b2 m2 c1 c2 HI HM
          go_wp2
          go_roundw
          case rel => exact ⟨c + 1, k + 1, by omega, by go_num, by rw [cntN, if_neg (by rw [← HNK.out]; exact HN0.out), ← HCK.out], by omega, o5, hr5, b5⟩
          case measure => simp [intOf]; omega
      · obtain rfl : c = D := by omega
        have hle : c ≤ cntN n R := by have := cntN_mono n hk; have := HCK.out; omega
        have hs : ∀ t, t < c → nthN n R t < R ∧ n (nthN n R t) = 4 := fun t ht => by
          have q := nthN_spec (n := n) (R := R) (k := t) (by omega)
          refine ⟨q.1, ?_⟩
          rcases HH4.out _ q.1 with e0 | e0
          · exact absurd e0 q.2.1
          · exact e0
        have HLE : Hid (c ≤ cntN n R) := hle
        have CW := l2Weights_row c want (.slice ao8 c cap8) (nthN n R) wr.heap.size wr HI.out.rd (Nat.le_refl _) hD1 hD (fun t ht => by have := (hs t ht).1; omega) (fun t ht => nthN_rise (by omega)) hw
        obtain ⟨g9, cap9, hv9, hg9⟩ : ∃ g cap, u9 = .slice (some ⟨g, 0, none⟩) c cap ∧ g < wr.heap.size := by
          rcases HM.out.2 with ⟨h, h2⟩ | ⟨g, cap, cur, h, _, h3, _⟩
          · omega
          · exact ⟨g, cap, h, (Array.getElem?_eq_some_iff.1 h3).1⟩
        subst hv9
        have RM : RdM wr wr.heap.size (.slice (some ⟨g9, 0, none⟩) c cap9) c (fun t => n (nthN n R t)) (fun t => f (nthN n R t)) := ⟨_, _, fun t => e (nthN n R t), rfl, by unfold maxLen; omega, fun _ => ⟨g9, 0, rfl, hg9, fun t ht => by
            rw [Nat.zero_add]
            exact (HM.out.cellAt t (by omega)).trans (valsOf_get _ _ _ ht)⟩, fun t ht => ((HHE.out _ (hs t ht).1).below HB.out hh).mono (by omega)⟩
        have HRM : Hid (RdM wr wr.heap.size (.slice (some ⟨g9, 0, none⟩) c cap9) c (fun t => n (nthN n R t)) (fun t => f (nthN n R t))) := RM
        have HS4 : Hid (∀ t, t < c → n (nthN n R t) = 4) := fun t ht => (hs t ht).2
        clear hle hs RM hI hM hb
        go_wp2_with fail
        refine CW.mono ?_
        rintro ee w5 ⟨v5, rfl, o5, b5⟩
        have CX := l1Mix_any (.slice (some ⟨g9, 0, none⟩) c cap9) v5 c 4 (fun t => n (nthN n R t)) (fun t => f (nthN n R t)) (weightsN c 0 (nthN n R) want) wr.heap.size w5.heap.size w5 (HRM.out.below b5 (Nat.le_refl _)) o5.rd b5.size (Nat.le_refl _) (by omega) HS4.out (by omega) (fun i j => kf _ _) (weightsN_lt c 0 (nthN n R) want)
        have B5 : Below w.heap.size w w5 := HB.out.trans (b5.mono szr)
        obtain ⟨ao5, cap5, rfl⟩ := o5.slice
        clear CW o5 b5
        go_wp2_with fail
        refine CX.mono ?_
        rintro ee w6 ⟨v6, rfl, o6, b6⟩
        have B6 : Below w.heap.size w w6 := B5.trans (b6.mono B5.size)
        have s5 := B5.size
        obtain ⟨ao6, cap6, rfl⟩ := o6.slice
        have HO6 : Hid (Own w6 w5.heap.size w6.heap.size (.slice ao6 4 cap6) 4 (blockN c n R f want)) := o6
        clear CX o6 b6 B5
        go_wp2
        go_ret2
        exact ⟨_, true, rfl, ⟨fun _ => HLE.out, fun _ => rfl⟩, by simp only [if_pos]; exact HO6.out.weaken s5 (Nat.le_refl _), B6⟩
    · obtain rfl : k = R := by omega
      by_cases hcd : c < D
      · have HNC : Hid (¬ D ≤ cntN n k) := by show ¬ D ≤ cntN n k; have := HCK.out; omega
        clear hI hM
        go_wp2
        go_ret2
        exact ⟨_, false, rfl, ⟨fun h => (by cases h), fun h => absurd h HNC.out⟩, own_nil _ _ _ _, hb⟩
      · obtain rfl : c = D := by omega
        have hle : c ≤ cntN n k := by have := cntN_mono n hk; have := HCK.out; omega
        have hs : ∀ t, t < c → nthN n k t < k ∧ n (nthN n k t) = 4 := fun t ht => by
          have q := nthN_spec (n := n) (R := k) (k := t) (by omega)
          refine ⟨q.1, ?_⟩
          rcases HH4.out _ q.1 with e0 | e0
          · exact absurd e0 q.2.1
          · exact e0
        have HLE : Hid (c ≤ cntN n k) := hle
        have CW := l2Weights_row c want (.slice ao8 c cap8) (nthN n k) wr.heap.size wr HI.out.rd (Nat.le_refl _) hD1 hD (fun t ht => by have := (hs t ht).1; omega) (fun t ht => nthN_rise (by omega)) hw
        obtain ⟨g9, cap9, hv9, hg9⟩ : ∃ g cap, u9 = .slice (some ⟨g, 0, none⟩) c cap ∧ g < wr.heap.size := by
          rcases HM.out.2 with ⟨h, h2⟩ | ⟨g, cap, cur, h, _, h3, _⟩
          · omega
          · exact ⟨g, cap, h, (Array.getElem?_eq_some_iff.1 h3).1⟩
        subst hv9
        have kM : RdM wr wr.heap.size (.slice (some ⟨g9, 0, none⟩) c cap9) c (fun t => n (nthN n k t)) (fun t => f (nthN n k t)) := ⟨_, _, fun t => e (nthN n k t), rfl, by unfold maxLen; omega, fun _ => ⟨g9, 0, rfl, hg9, fun t ht => by
            rw [Nat.zero_add]
            exact (HM.out.cellAt t (by omega)).trans (valsOf_get _ _ _ ht)⟩, fun t ht => ((HHE.out _ (hs t ht).1).below HB.out hh).mono (by omega)⟩
        have HRM : Hid (RdM wr wr.heap.size (.slice (some ⟨g9, 0, none⟩) c cap9) c (fun t => n (nthN n k t)) (fun t => f (nthN n k t))) := kM
        have HS4 : Hid (∀ t, t < c → n (nthN n k t) = 4) := fun t ht => (hs t ht).2
        clear hle hs kM hI hM hb
        go_wp2_with fail
        refine CW.mono ?_
        rintro ee w5 ⟨v5, rfl, o5, b5⟩
        have CX := l1Mix_any (.slice (some ⟨g9, 0, none⟩) c cap9) v5 c 4 (fun t => n (nthN n k t)) (fun t => f (nthN n k t)) (weightsN c 0 (nthN n k) want) wr.heap.size w5.heap.size w5 (HRM.out.below b5 (Nat.le_refl _)) o5.rd b5.size (Nat.le_refl _) (by omega) HS4.out (by omega) (fun i j => kf _ _) (weightsN_lt c 0 (nthN n k) want)
        have B5 : Below w.heap.size w w5 := HB.out.trans (b5.mono szr)
        obtain ⟨ao5, cap5, rfl⟩ := o5.slice
        clear CW o5 b5
        go_wp2_with fail
        refine CX.mono ?_
        rintro ee w6 ⟨v6, rfl, o6, b6⟩
        have B6 : Below w.heap.size w w6 := B5.trans (b6.mono B5.size)
        have s5 := B5.size
        obtain ⟨ao6, cap6, rfl⟩ := o6.slice
        have HO6 : Hid (Own w6 w5.heap.size w6.heap.size (.slice ao6 4 cap6) 4 (blockN c n k f want)) := o6
        clear CX o6 b6 B5
        go_wp2
        go_ret2
        exact ⟨_, true, rfl, ⟨fun _ => HLE.out, fun _ => rfl⟩, by simp only [if_pos]; exact HO6.out.weaken s5 (Nat.le_refl _), B6⟩
end Go.Proofs.YtkijpgfmjogagaaGreat
namespace Go.Proofs.YtkijpgfmjogagaaGreat
def AskP (d s : Int) (R : Nat) (n : Nat → Nat) (x : Int) : Prop := (x = 3 ∧ ¬ Shp d s) ∨ (x = 1 ∧ Shp d s ∧ ((R : Int) ≠ d + s ∨ ∃ i, i < R ∧ n i ≠ 0 ∧ n i ≠ 4)) ∨ (x = 0 ∧ Shp d s ∧ (R : Int) = d + s ∧ ∀ i, i < R → n i = 0 ∨ n i = 4)
theorem AskP.one {d s : Int} {R : Nat} {n : Nat → Nat} {x y : Int} (h : AskP d s R n x) (k : AskP d s R n y) : x = y := by
  rcases h with ⟨rfl, h⟩ | ⟨rfl, h, h2⟩ | ⟨rfl, h, h2, h3⟩ <;> rcases k with ⟨rfl, k⟩ | ⟨rfl, k, k2⟩ | ⟨rfl, k, k2, k3⟩
  · rfl
  · exact absurd k h
  · exact absurd k h
  · exact absurd h k
  · rfl
  · rcases h2 with h2 | ⟨i, hi, h4, h5⟩
    · exact absurd k2 h2
    · rcases k3 i hi with e | e
      · exact absurd e h4
      · exact absurd e h5
  · exact absurd h k
  · rcases k2 with k2 | ⟨i, hi, h4, h5⟩
    · exact absurd h2 k2
    · rcases h3 i hi with e | e
      · exact absurd e h4
      · exact absurd e h5
  · rfl
def DecAns (d s : Int) (R : Nat) (n : Nat → Nat) (x : Int) : Prop := (AskP d s R n x ∧ x ≠ 0) ∨ (AskP d s R n 0 ∧ ¬ d.toNat ≤ cntN n R ∧ x = 10) ∨ (AskP d s R n 0 ∧ d.toNat ≤ cntN n R ∧ x = 0)
theorem DecAns.one {d s : Int} {R : Nat} {n : Nat → Nat} {x y : Int} (h : DecAns d s R n x) (k : DecAns d s R n y) : x = y := by
  rcases h with ⟨h, h2⟩ | ⟨h, h2, rfl⟩ | ⟨h, h2, rfl⟩ <;> rcases k with ⟨k, k2⟩ | ⟨k, k2, rfl⟩ | ⟨k, k2, rfl⟩
  · exact h.one k
  · exact absurd (h.one k) h2
  · exact absurd (h.one k) h2
  · exact absurd (k.one h) k2
  · rfl
  · exact absurd k2 h2
  · exact absurd (k.one h) k2
  · exact absurd h2 k2
  · rfl
theorem AskP.ok {d s : Int} {R : Nat} {n : Nat → Nat} (h : AskP d s R n 0) : Shp d s ∧ (R : Int) = d + s ∧ ∀ i, i < R → n i = 0 ∨ n i = 4 := by
  rcases h with ⟨h, _⟩ | ⟨h, _⟩ | ⟨_, h⟩
  · omega
  · omega
  · exact h
def BofAns (d s : Int) (R : Nat) (n : Nat → Nat) (want : Int) (x : Int) : Prop := (AskP d s R n x ∧ x ≠ 0) ∨ (AskP d s R n 0 ∧ ¬ (0 ≤ want ∧ want ≤ d + s - 1) ∧ x = 3) ∨ (AskP d s R n 0 ∧ (0 ≤ want ∧ want ≤ d + s - 1) ∧ ¬ d.toNat ≤ cntN n R ∧ x = 10) ∨ (AskP d s R n 0 ∧ (0 ≤ want ∧ want ≤ d + s - 1) ∧ d.toNat ≤ cntN n R ∧ x = 0)
theorem BofAns.one {d s : Int} {R : Nat} {n : Nat → Nat} {want : Int} {x y : Int} (h : BofAns d s R n want x) (k : BofAns d s R n want y) : x = y := by
  rcases h with ⟨h, h2⟩ | ⟨h, h2, rfl⟩ | ⟨h, h2, h3, rfl⟩ | ⟨h, h2, h3, rfl⟩ <;> rcases k with ⟨k, k2⟩ | ⟨k, k2, rfl⟩ | ⟨k, k2, k3, rfl⟩ | ⟨k, k2, k3, rfl⟩ <;> first | rfl | exact h.one k | exact absurd (h.one k) h2 | exact absurd (k.one h) k2 | exact absurd k2 h2 | exact absurd h2 k2 | exact absurd k3 h3 | exact absurd h3 k3
end Go.Proofs.YtkijpgfmjogagaaGreat
namespace Go.Proofs.YtkijpgfmjogagaaGreat
open Go.RowKit F256
def OwnB (w : World) (lo hi : Nat) (v : Value) (R : Nat) (n : Nat → Nat) (f : Mat) : Prop := (v = nilS ∧ R = 0) ∨ OwnM w lo hi v R n f
theorem OwnB.none (w : World) (lo hi : Nat) (n : Nat → Nat) (f : Mat) : OwnB w lo hi nilS 0 n f := .inl ⟨rfl, rfl⟩
theorem OwnB.rd {w : World} {lo hi : Nat} {v : Value} {R : Nat} {n : Nat → Nat} {f : Mat} (h : OwnB w lo hi v R n f) : RdM w hi v R n f := by
  rcases h with ⟨rfl, rfl⟩ | h
  · exact ⟨_, _, fun _ => nilS, rfl, by unfold maxLen; omega, fun h => absurd rfl h, fun i hi => by omega⟩
  · exact h.rd
theorem OwnB.below {w w' : World} {lo hi B : Nat} {v : Value} {R : Nat} {n : Nat → Nat} {f : Mat} (h : OwnB w lo hi v R n f) (hb : Below B w w') (hB : hi ≤ B) : OwnB w' lo hi v R n f := by
  rcases h with h | h
  · exact .inl h
  · exact .inr (h.below hb hB)
theorem OwnB.chg {w w' : World} {lo hi lo' hi' : Nat} {v : Value} {R : Nat} {n : Nat → Nat} {f : Mat} (h : OwnB w lo hi v R n f) (hb : Chg lo' hi' w w') (hB : hi ≤ lo' ∨ hi' ≤ lo) : OwnB w' lo hi v R n f := by
  rcases h with h | h
  · exact .inl h
  · exact .inr (h.chg hb hB)
theorem OwnB.weaken {w : World} {lo hi lo' hi' : Nat} {v : Value} {R : Nat} {n : Nat → Nat} {f : Mat} (h : OwnB w lo hi v R n f) (h1 : lo' ≤ lo) (h2 : hi ≤ hi') : OwnB w lo' hi' v R n f := by
  rcases h with h | h
  · exact .inl h
  · exact .inr (h.weaken h1 h2)
theorem OwnB.alloc {w : World} {lo hi : Nat} {v : Value} {R : Nat} {n : Nat → Nat} {f : Mat} (h : OwnB w lo hi v R n f) (o : Obj) : OwnB (w.alloc o) lo hi v R n f := by
  rcases h with h | h
  · exact .inl h
  · exact .inr (h.alloc o)
theorem OwnB.slice {w : World} {lo hi : Nat} {v : Value} {R : Nat} {n : Nat → Nat} {f : Mat} (h : OwnB w lo hi v R n f) : ∃ ao cap, v = .slice ao R cap := by
  rcases h with ⟨rfl, rfl⟩ | ⟨g, cap, e, h⟩
  · exact ⟨_, _, rfl⟩
  · exact ⟨_, _, h.val⟩
theorem OwnM.out {w w' : World} {lo hi lo' hi' : Nat} {v : Value} {R : Nat} {n : Nat → Nat} {f : Mat} (h : OwnM w lo hi v R n f) (ho : Out lo' hi' w w') (hB : hi ≤ lo' ∨ hi' ≤ lo) : OwnM w' lo hi v R n f := h.chg ho.chg hB
end Go.Proofs.YtkijpgfmjogagaaGreat
namespace Go.Proofs.YtkijpgfmjogagaaGreat
open Go.RowKit F256
def EncAns (d s : Int) (n : Nat) (x : Int) : Prop := (x = 3 ∧ ¬ Shp d s) ∨ (x = 1 ∧ Shp d s ∧ (n : Int) ≠ d * 4) ∨ (x = 0 ∧ Shp d s ∧ (n : Int) = d * 4)
theorem EncAns.one {d s : Int} {n : Nat} {x y : Int} (h : EncAns d s n x) (k : EncAns d s n y) : x = y := by
  rcases h with ⟨rfl, h⟩ | ⟨rfl, h, h2⟩ | ⟨rfl, h, h2⟩ <;> rcases k with ⟨rfl, k⟩ | ⟨rfl, k, k2⟩ | ⟨rfl, k, k2⟩
  · rfl
  · exact absurd k h
  · exact absurd k h
  · exact absurd h k
  · rfl
  · exact absurd k2 h2
  · exact absurd h k
  · exact absurd h2 k2
  · rfl
end Go.Proofs.YtkijpgfmjogagaaGreat
namespace Go.Proofs.YtkijpgfmjogagaaGreat
open Go.RowKit F256
end Go.Proofs.YtkijpgfmjogagaaGreat
namespace Go.Proofs.YtkijpgfmjogagaaGreat
open Go.RowKit F256
def DcdP (D : Nat) (n : Nat → Nat) (R : Nat) (f : Mat) (w : World) (ee : Ending) (w' : World) : Prop :=
  ∃ v' b, ee = .returned (.tuple #[v', .bool b]) ∧ (b = true ↔ D ≤ cntN n R) ∧ Own w' w.heap.size w'.heap.size v' (if b = true then 4 * D else 0) (decN D n R f) ∧ Below w.heap.size w w'
set_option maxHeartbeats 4000000 in
theorem l2Decode_any (D : Nat) (v : Value) (R : Nat) (n : Nat → Nat) (f : Mat) (h1 : Nat) (w : World) (r : RdM w h1 v R n f) (hh : h1 ≤ w.heap.size) (hD1 : 1 ≤ D) (hD : D ≤ 3) (hR : R ≤ D + 2) (h4 : ∀ i, i < R → n i = 0 ∨ n i = 4) (kf : Byt f) :
    Calls Tryz.prog 91 #[.int .i64 D, v] w (DcdP D n R f w) := by
  have HR : Hid (RdM w h1 v R n f) := r
  obtain ⟨ao, cap, e, rfl, hm, hc, he⟩ := r
  have HH4 : Hid (∀ i, i < R → n i = 0 ∨ n i = 4) := h4
  clear hc he h4 hm
  go_enter Tryz.func91, Tryz.ntmps91
  go_wp2
  go_loopw [6, 7] (fun u i wr => ∃ k : Nat, k ≤ D ∧ i = .int .i64 k ∧ (0 < k → D ≤ cntN n R) ∧ Own wr w.heap.size wr.heap.size u (4 * k) (decN D n R f) ∧ Below w.heap.size w wr) (fun _ i _ => D - (intOf i).toNat)
  case atStart => exact ⟨0, Nat.zero_le _, rfl, fun h => by omega, own_lit0 w _, (Below.refl _ _).alloc (Nat.le_refl _) _⟩
  case round =>
    obtain ⟨k, hk, rfl, hcnt, hown, hb⟩ := hrel
    have HCN : Hid (0 < k → D ≤ cntN n R) := hcnt
    have HO : Hid (Own wr w.heap.size wr.heap.size u6 (4 * k) (decN D n R f)) := hown
    have HB : Hid (Below w.heap.size w wr) := hb
    have szr := hb.size
    by_cases hlt : k < D
    · have C := l2Block_any D k (.slice ao R cap) R n f h1 wr (HR.out.below hb hh) (Nat.le_trans hh szr) hD1 hD hR (by omega) HH4.out kf
      clear hcnt hown hb
      go_wp2_with fail
      refine C.mono ?_
      rintro ee w2 ⟨v2, b2, rfl, hb2, o2, b2'⟩
      have HB2 : Hid (b2 = true ↔ D ≤ cntN n R) := hb2
      have B2 : Below w.heap.size w w2 := HB.out.trans (b2'.mono szr)
      have s2 := b2'.size
      have HO2 : Hid (Own w2 w.heap.size wr.heap.size u6 (4 * k) (decN D n R f)) := HO.out.below b2' (Nat.le_refl _)
      clear C hb2 b2'
      cases b2 with
      | false =>
        have HNO : Hid (¬ D ≤ cntN n R) := fun h => by have := HB2.out.mpr h; cases this
        simp only [Bool.false_eq_true, if_false] at o2
        obtain ⟨ao2, cap2, rfl⟩ := o2.slice
        clear o2 HB2
        go_wp2
        go_ret2
        exact ⟨_, false, rfl, ⟨fun h => (by cases h), fun h => absurd h HNO.out⟩, own_nil _ _ _ _, B2⟩
      | true =>
        have HYES : Hid (D ≤ cntN n R) := HB2.out.mp rfl
        simp only [if_pos] at o2
        obtain ⟨ao2, cap2, rfl⟩ := o2.slice
        have HO3 : Hid (Own w2 wr.heap.size w2.heap.size (.slice ao2 4 cap2) 4 (blockN D n R f k)) := o2
        have hm4 : 4 * k + 4 ≤ 1000000 := by omega
        have sw2 : w.heap.size ≤ w2.heap.size := by omega
        clear o2 HB2
        go_wp2_with (at_builtin; refine wp_appendX rfl (.tmp 25) (.tmp 26) rfl w.heap.size wr.heap.size u6 (4 * k) (decN D n R f) ?_ HO2.out w2.heap.size (.slice ao2 4 cap2) 4 (blockN D n R f k) ?_ HO3.out.rd (by omega) (fun i hi => decN_at D n R f k i hi) hm4 sw2 ?_; (simp [Act.eval]); (simp [Act.eval]); intro v5 w5 o5 g5)
        have R5 : Below w.heap.size w w5 := B2.grown g5 sw2 (fun q hq => (HO2.out.1.lt q hq).1)
        have e4 : 4 * k + 4 = 4 * (k + 1) := by omega
        rw [e4] at o5
        clear g5 HO2 HO3 HO HB
        go_wp2
        go_roundw
        case rel => exact ⟨k + 1, by omega, by go_num, fun _ => HYES.out, o5, R5⟩
        case measure => simp [intOf]; omega
    · obtain rfl : k = D := by omega
      have HYES : Hid (k ≤ cntN n R) := hcnt (by omega)
      clear hcnt
      go_wp2
      go_ret2
      exact ⟨_, true, rfl, ⟨fun _ => HYES.out, fun _ => rfl⟩, by simp only [if_pos]; exact hown, hb⟩
end Go.Proofs.YtkijpgfmjogagaaGreat
namespace Go.Proofs.YtkijpgfmjogagaaGreat
open Go.RowKit F256
theorem rowInBounds_any (d s : Int) (w : World) :
    Calls Tryz.prog 121 #[.int .i64 d, .int .i64 s] w (BoolP (Shp d s) w) := by
  by_cases h1 : 1 ≤ d
  · by_cases h2 : d ≤ 3
    · by_cases h3 : 0 ≤ s
      · by_cases h4 : s ≤ 2
        · go_enter Tryz.func121, Tryz.ntmps121
          go_wp2
          go_ret
          exact boolYes rfl ⟨by omega, by omega, by omega, by omega⟩ (Below.refl _ _)
        · have e4 : decide (s ≤ 2) = false := by simp; omega
          have H : Hid (¬ Shp d s) := fun h => h4 h.2.2.2
          clear h4
          go_enter Tryz.func121, Tryz.ntmps121
          go_wp2
          go_ret
          exact boolNo rfl H.out (Below.refl _ _)
      · have e3 : decide (0 ≤ s) = false := by simp; omega
        have H : Hid (¬ Shp d s) := fun h => h3 h.2.2.1
        clear h3
        go_enter Tryz.func121, Tryz.ntmps121
        go_wp2
        go_ret
        exact boolNo rfl H.out (Below.refl _ _)
    · have e2 : decide (d ≤ 3) = false := by simp; omega
      have H : Hid (¬ Shp d s) := fun h => h2 h.2.1
      clear h2
      go_enter Tryz.func121, Tryz.ntmps121
      go_wp2
      go_ret
      exact boolNo rfl H.out (Below.refl _ _)
  · have e1 : decide (1 ≤ d) = false := by simp; omega
    have H : Hid (¬ Shp d s) := fun h => h1 h.1
    clear h1
    go_enter Tryz.func121, Tryz.ntmps121
    go_wp2
    go_ret
    exact boolNo rfl H.out (Below.refl _ _)
def ThereP (R : Nat) (n : Nat → Nat) (N : Int) : Prop := (R : Int) = N ∧ ∀ i, i < R → n i = 0 ∨ n i = 4
theorem thereOrNot_any (v : Value) (R : Nat) (n : Nat → Nat) (f : Nat → Nat → Nat) (hi : Nat) (N : Int) (w : World) (r : RdM w hi v R n f) :
    Calls Tryz.prog 122 #[.int .i64 N, v] w (BoolP (ThereP R n N) w) := by
  obtain ⟨ao, cap, e, rfl, hm, hc, he⟩ := r
  unfold maxLen at hm
  by_cases hN : (R : Int) = N
  · subst hN
    go_enter Tryz.func122, Tryz.ntmps122
    go_wp2
    go_loop [5, 12] (fun _ i => ∃ k : Nat, k ≤ R ∧ i = .int .i64 k ∧ ∀ i, i < k → n i = 0 ∨ n i = 4) (fun _ i => R - (intOf i).toNat)
    case atStart => exact ⟨0, Nat.zero_le _, rfl, fun i hi => by omega⟩
    case round =>
      obtain ⟨k, hk, rfl, hall⟩ := hrel
      have HALL : Hid (∀ i, i < k → n i = 0 ∨ n i = 4) := hall
      clear hall
      by_cases hlt : k < R
      · obtain ⟨b, off, rfl, hblt, hcell⟩ := hc (by omega)
        have hck : w.cell? ⟨b, off + k, none⟩ = some (e k) := hcell k hlt
        obtain ⟨aok, capk, hsk, hmk, hqk⟩ := he k hlt
        unfold maxLen at hmk
        rw [hsk] at hck
        obtain ⟨nk, hnk⟩ : ∃ x, x = n k := ⟨_, rfl⟩
        have HK : Hid (nk = n k) := hnk
        rw [← hnk] at hck hmk
        clear hc hcell he hsk hqk hnk
        by_cases heq : nk = 4
        · subst heq
          go_wp2
          go_round
          case rel => exact ⟨k + 1, by omega, by go_num, fun i hi => by
                        by_cases c : i = k
                        · right; rw [c, ← HK.out]
                        · exact HALL.out i (by omega)⟩
          case measure => simp [intOf]; omega
        · by_cases heq0 : nk = 0
          · subst heq0
            clear heq
            go_wp2
            go_round
            case rel => exact ⟨k + 1, by omega, by go_num, fun i hi => by
                          by_cases c : i = k
                          · left; rw [c, ← HK.out]
                          · exact HALL.out i (by omega)⟩
            case measure => simp [intOf]; omega
          · have tn : ((nk : Int) != 4) = true := by simp; omega
            have t0 : ((nk : Int) != 0) = true := by simp; omega
            have H : Hid (¬ ThereP R n (R : Int)) := fun h => by
              have := h.2 k hlt
              rw [← HK.out] at this
              omega
            clear heq heq0
            go_wp2
            go_ret
            exact boolNo rfl H.out (Below.refl _ _)
      · have hkn : k = R := by omega
        subst hkn
        go_wp2
        go_ret
        exact boolYes rfl ⟨rfl, HALL.out⟩ (Below.refl _ _)
  · have tN : ((R : Int) != N) = true := by simp [hN]
    have H : Hid (¬ ThereP R n N) := fun h => hN h.1
    clear hc he hN
    go_enter Tryz.func122, Tryz.ntmps122
    go_wp2
    go_ret
    exact boolNo rfl H.out (Below.refl _ _)
set_option maxHeartbeats 1000000 in
theorem factorsFrom_any (base n p F : Nat) (hF : F = 128 + base) (hb : base ≤ 64) (hn : n ≤ 16) (hp : p < n + 16) (w : World) :
    Calls Tryz.prog 118 #[.int .i64 F, .int .i64 n, .int .i64 p] w fun e w' => ∃ v', e = .returned v' ∧ Own w' w.heap.size w'.heap.size v' n (genN n p base) ∧ Below w.heap.size w w' := by
  by_cases hpn : p < n
  · have hd1 : decide ((p : Int) < (n : Int)) = true := by simp; omega
    go_enter Tryz.func118, Tryz.ntmps118
    have HG : Hid (∀ i, i < n → genN n p base i = if i = p then 1 else 0) := fun i hi => by simp [genN, show ¬ n ≤ p by omega]
    go_wp2_with (at_make; refine wp_makeB _ rfl _ _ rfl _ _ n rfl rfl rfl rfl (by omega) ?_; intro w1 hown1 hb1 hz1; have hco : w1.cell? ⟨w.heap.size, p, none⟩ = some (.int .u8 (0 : Nat)) := (by have := hown1.1.cellAt p (by omega); rw [this, cellsOf_get _ _ _ hpn]); have hfo : w1.frozen? ⟨w.heap.size, p, none⟩ = false := hown1.1.frozenAt p)
    have R := hown1.store p 1 hpn (g' := genN n p base) (fun i hi => HG.out i hi)
    have RB : Below w.heap.size w (w1.setCell ⟨w.heap.size, p, none⟩ (.int .u8 (1 : Nat))) := hb1.setCell (Nat.le_refl _) _
    go_ret
    exact ⟨_, rfl, R.mono (by simp), RB⟩
  · have hd1 : decide ((p : Int) < (n : Int)) = false := by simp; omega
    have hd2 : decide (p < n) = false := by simp; omega
    obtain ⟨s, hs⟩ : ∃ s, p = n + s := ⟨p - n, by omega⟩
    have hs16 : s < 16 := by omega
    obtain ⟨Q, hQ⟩ : ∃ Q, Q = F + s := ⟨_, rfl⟩
    have hQ2 : Q ≤ 128 + 80 := by omega
    have HG : Hid (∀ i, genN n p base i = powN (Q ^^^ i) 254) := fun i => by
      simp only [genN, if_pos (show n ≤ p by omega)]
      rw [show 128 + (base + p - n) = Q by omega]
    have hadd : IntKind.i64.wrap ((F : Int) + (p : Int)) = (F : Int) + (p : Int) := by rw [IntKind.wrap_i64]; omega
    have hsub : (F : Int) + (p : Int) - (n : Int) = (Q : Int) := by omega
    have HPS : Hid (p = n + s) := hs
    clear hpn hs hF hQ
    go_enter Tryz.func118, Tryz.ntmps118
    go_wp2_with (at_make; refine wp_makeB _ rfl _ _ rfl _ _ n rfl rfl rfl rfl (by omega) ?_; intro w1 hown1 hb1 hz1)
    go_loopw [8, 19] (fun _ i wr => ∃ k : Nat, k ≤ n ∧ i = .int .i64 k ∧ Own wr w.heap.size w1.heap.size (.slice (some ⟨w.heap.size, 0, none⟩) n n) n (fun i => if i < k then genN n p base i else 0) ∧ Below w.heap.size w wr ∧ w1.heap.size ≤ wr.heap.size) (fun _ i _ => n - (intOf i).toNat)
    case atStart => exact ⟨0, Nat.zero_le _, rfl, hown1, hb1, Nat.le_refl _⟩
    case round =>
      clear hown1 hb1
      obtain ⟨k, hk, rfl, hown, hbel, hz2⟩ := hrel
      by_cases hlt : k < n
      · obtain ⟨y, hy⟩ : ∃ y, y = Q ^^^ k := ⟨_, rfl⟩
        have hx : bits .xor .i64 (Q : Int) (k : Int) = (y : Int) := by rw [hy]; exact i64_xor_nat Q k (by omega) (by omega)
        have hl : y < 256 := by rw [hy]; exact xor_lt (by omega) (by omega)
        have HV : Hid (powN y 254 = genN n p base k) := by show powN y 254 = genN n p base k; rw [HG.out, hy]
        have HO : Hid (Own wr w.heap.size w1.heap.size (.slice (some ⟨w.heap.size, 0, none⟩) n n) n (fun i => if i < k then genN n p base i else 0)) := hown
        have szr := hbel.size
        have HBL : Hid (Below w.heap.size w wr) := hbel
        clear hy hown hbel
        go_wp2_with fail
        refine (implInv_any y hl _).mono ?_
        rintro e w2 ⟨rfl, hb2⟩
        have hz3 := hb2.size
        have hown2 := HO.out.below hb2 (by omega)
        have hco : w2.cell? ⟨w.heap.size, k, none⟩ = some (.int .u8 (0 : Nat)) := by
          have := hown2.1.cellAt k (by omega)
          rw [this, cellsOf_get _ _ _ hlt, if_neg (Nat.lt_irrefl k)]
        have hfo : w2.frozen? ⟨w.heap.size, k, none⟩ = false := hown2.1.frozenAt k
        have RW : Own (w2.setCell ⟨w.heap.size, k, none⟩ (.int .u8 (powN y 254))) w.heap.size w1.heap.size (.slice (some ⟨w.heap.size, 0, none⟩) n n) n (fun i => if i < k + 1 then genN n p base i else 0) :=
          hown2.store k _ hlt (fun i _ => by
            by_cases c1 : i = k
            · subst c1; simp [HV.out]
            · by_cases c2 : i < k
              · have c3 : i < k + 1 := by omega
                simp [c1, c2, c3]
              · have c3 : ¬ i < k + 1 := by omega
                simp [c1, c2, c3])
        have RB : Below w.heap.size w (w2.setCell ⟨w.heap.size, k, none⟩ (.int .u8 (powN y 254))) := (HBL.out.trans (hb2.mono szr)).setCell (Nat.le_refl _) _
        have RS : w1.heap.size ≤ (w2.setCell ⟨w.heap.size, k, none⟩ (.int .u8 (powN y 254))).heap.size := by simp; omega
        clear hown2 hb2 HO HBL
        go_wp2
        go_roundw
        case rel => exact ⟨k + 1, by omega, by go_num, RW, RB, RS⟩
        case measure => simp [intOf]; omega
      · have hkn : k = n := by omega
        subst hkn
        have h6 := hown.congr (g := genN k p base) (fun i hi => by simp [hi])
        clear hown
        go_wp2
        go_ret
        exact ⟨_, rfl, h6.weaken (Nat.le_refl _) hz2, hbel⟩
theorem factorsAt_any (n p : Nat) (hn : n ≤ 16) (hp : p < n + 16) (w : World) :
    Calls Tryz.prog 96 #[.int .i64 n, .int .i64 p] w fun e w' => ∃ v', e = .returned v' ∧ Own w' w.heap.size w'.heap.size v' n (genN n p 0) ∧ Below w.heap.size w w' := by
  go_enter Tryz.func96, Tryz.ntmps96
  go_wp2_with fail
  refine (factorsFrom_any 0 n p 128 rfl (by omega) hn hp _).mono ?_
  rintro e w1 ⟨v1, rfl, ho, hb⟩
  obtain ⟨ao, cap, rfl⟩ := ho.slice
  go_wp2
  go_ret
  exact ⟨_, rfl, ho, hb⟩
end Go.Proofs.YtkijpgfmjogagaaGreat
namespace Go.Proofs.YtkijpgfmjogagaaGreat
open Go.RowKit F256
theorem wp_makeI0 (w : World) {ops : Array Oper} {rest : List Oper} {o : Oper} {a : Act} {Q : Exit → Act → World → Prop}
    (hg : o.guard = none) (l c : Operand) (hop : o.op = Op.makeSlice 25 l c) (C : Int) (n : Nat) (hl : a.eval l = .int .i64 0) (hc : a.eval c = .int .i64 C) (hC : C = (n : Int)) (hn : n ≤ 1000000000)
    (hK : ∀ w', (∀ f, OwnI w' w.heap.size w'.heap.size (.slice (some ⟨w.heap.size, 0, none⟩) 0 n) 0 f) → Below w.heap.size w w' → w.heap.size < w'.heap.size → wpList Tryz.prog ops Q rest (a.put o.dst (.slice (some ⟨w.heap.size, 0, none⟩) 0 n)) w') :
    wpList Tryz.prog ops Q (o :: rest) a w := by
  obtain ⟨i0, hi0, hz0, hz1, hz2⟩ := info_parts info_i64
  refine wpList_make_own w hg l c 25 hop w.heap.size 2 i0 (.int .i64 0) 1 Tryz.underlying25 hi0 hz0 hz1 .i64 .i64 C n hl hc hC (by rw [hz2]; omega) (by unfold maxLen; omega) (Nat.le_refl _) ?_
  intro w' hown hgrow
  have hlt := (hown.lt _ rfl).2
  exact hK w' (fun f => ⟨hown, fun k hk => (hown.lt k hk).2⟩) (below_of_grown hgrow) hlt
def pickN (D : Nat) (n : Nat → Nat) (k : Nat) : Nat := if cntN n k < D then cntN n k else D
theorem pickN_zero (D : Nat) (n : Nat → Nat) : pickN D n 0 = 0 := by
  have h0 : cntN n 0 = 0 := rfl
  unfold pickN
  rw [h0]
  by_cases c : 0 < D
  · rw [if_pos c]
  · rw [if_neg c]; omega
theorem pickN_none {D : Nat} {n : Nat → Nat} {k : Nat} (h : n k = 0) : pickN D n (k + 1) = pickN D n k := by
  unfold pickN
  rw [cntN, if_pos h]
theorem pickN_more {D : Nat} {n : Nat → Nat} {k : Nat} (h : n k ≠ 0) (hl : pickN D n k < D) : pickN D n (k + 1) = pickN D n k + 1 ∧ pickN D n k = cntN n k := by
  unfold pickN at hl ⊢
  rw [cntN, if_neg h]
  by_cases c : cntN n k < D
  · rw [if_pos c]
    refine ⟨?_, rfl⟩
    split <;> omega
  · rw [if_neg c] at hl
    omega
theorem pickN_full {D : Nat} {n : Nat → Nat} {k : Nat} (hl : ¬ pickN D n k < D) : pickN D n (k + 1) = pickN D n k := by
  unfold pickN at hl ⊢
  by_cases c : cntN n k < D
  · rw [if_pos c] at hl
    omega
  · have := cntN_mono n (show k ≤ k + 1 by omega)
    rw [if_neg c, if_neg (by omega)]
theorem pickN_all {D : Nat} {n : Nat → Nat} {k : Nat} (h : D ≤ cntN n k) : pickN D n k = D := by
  unfold pickN
  rw [if_neg (by omega)]
theorem pickN_few {D : Nat} {n : Nat → Nat} {k : Nat} (h : ¬ D ≤ cntN n k) : pickN D n k < D := by
  unfold pickN
  rw [if_pos (by omega)]
  omega
set_option maxHeartbeats 2000000 in
theorem firstThere_any (D : Nat) (v : Value) (R : Nat) (n : Nat → Nat) (f : Nat → Nat → Nat) (h1 : Nat) (w : World) (r : RdM w h1 v R n f) (hh : h1 ≤ w.heap.size) (hD : D ≤ 1000) :
    Calls Tryz.prog 123 #[.int .i64 D, v] w fun e w' => ∃ v', e = .returned v' ∧ OwnI w' w.heap.size w'.heap.size v' (pickN D n R) (fun t => (nthN n R t : Int)) ∧ Below w.heap.size w w' := by
  obtain ⟨ao, cap, e, rfl, hm, hc, he⟩ := r
  unfold maxLen at hm
  have HHE : Hid (∀ i, i < R → Rd w h1 (e i) (n i) (f i)) := he
  have HHC : Hid (R ≠ 0 → ∃ b off, ao = some ⟨b, off, none⟩ ∧ b < h1 ∧ ∀ i, i < R → w.cell? ⟨b, off + i, none⟩ = some (e i)) := hc
  clear hc he
  go_enter Tryz.func123, Tryz.ntmps123
  go_wp2_with (at_make; refine wp_makeI0 _ rfl _ _ rfl _ D rfl rfl rfl (by omega) ?_; intro w1 hown1 hb1 hz1)
  have I0 := hown1 (fun t => (nthN n R t : Int))
  clear hown1
  go_loopw [5, 11] (fun vh i wr => ∃ c k : Nat, k ≤ R ∧ i = .int .i64 k ∧ c = pickN D n k ∧ OwnI wr w.heap.size wr.heap.size vh c (fun t => (nthN n R t : Int)) ∧ Below w.heap.size w wr) (fun _ i _ => R - (intOf i).toNat)
  case atStart => exact ⟨0, 0, Nat.zero_le _, rfl, (pickN_zero D n).symm, I0, hb1⟩
  case round =>
    clear I0 hb1 hz1
    obtain ⟨c, k, hk, rfl, hck, hI, hb⟩ := hrel
    have HCK : Hid (c = pickN D n k) := hck
    have HI : Hid (OwnI wr w.heap.size wr.heap.size u5 c (fun t => (nthN n R t : Int))) := hI
    have HB : Hid (Below w.heap.size w wr) := hb
    obtain ⟨ao8, cap8, hs8⟩ := hI.slice
    subst hs8
    have szr := hb.size
    have hcD : c ≤ D := by
      rw [hck]
      unfold pickN
      split <;> omega
    clear hck
    by_cases hlt : k < R
    · obtain ⟨b, off, hao, hblt, hcell⟩ := HHC.out (by omega)
      subst hao
      have c1 : wr.cell? ⟨b, off + k, none⟩ = some (e k) := (hb.cell (p := ⟨b, off + k, none⟩) (by show b < w.heap.size; omega)).trans (hcell k hlt)
      obtain ⟨aok, capk, hsk, hmk, hqk⟩ := HHE.out k hlt
      unfold maxLen at hmk
      obtain ⟨nk, hnk⟩ : ∃ x, x = n k := ⟨_, rfl⟩
      have HNK : Hid (nk = n k) := hnk
      rw [hsk, ← hnk] at c1
      rw [← hnk] at hmk
      clear hnk hsk hqk hcell hI hb
      by_cases e1 : nk = 0
      · have HN0 : Hid (nk = 0) := e1
        have t1 : decide ((0 : Int) < (nk : Int)) = false := by simp; omega
        have t1n : decide (0 < nk) = false := by simp; omega
        clear e1
        go_wp2
        go_roundw
        case rel => exact ⟨c, k + 1, by omega, by go_num, by rw [pickN_none (by rw [← HNK.out]; exact HN0.out)]; exact HCK.out, HI.out, HB.out⟩
        case measure => simp [intOf]; omega
      · have HN0 : Hid (nk ≠ 0) := e1
        have t1 : (0 : Int) < (nk : Int) := by omega
        have t1n : decide (0 < nk) = true := by simp; omega
        have hbw : b < w.heap.size := by omega
        clear e1
        by_cases hcd : c < D
        · have t2 : (c : Int) < (D : Int) := by omega
          have HPM := pickN_more (D := D) (n := n) (k := k) (by rw [← HNK.out]; exact HN0.out) (by rw [← HCK.out]; exact hcd)
          have HNT : Hid (nthN n R c = k) := by
            show nthN n R c = k
            rw [HCK.out, HPM.2]
            exact nthN_is hlt (by rw [← HNK.out]; exact HN0.out)
          have HP1 : Hid (pickN D n (k + 1) = c + 1) := by show pickN D n (k + 1) = c + 1; rw [HPM.1, ← HCK.out]
          clear HPM
          go_wp2_with (at_builtin; refine wp_appendIt rfl (.tmp 26) (.tmp 28) rfl w.heap.size wr.heap.size (.slice ao8 c cap8) c (fun t => (nthN n R t : Int)) ?_ ?_ wr.heap.size 1 ?_ ?_ (by omega) ?_ ?_; (simp [Act.eval]); exact HI.out.alloc _; (simp [Act.eval]); (rw [HNT.out]; simp); (simp; omega); intro v2 w2 o2 g2)
          have b2 : Below w.heap.size wr w2 := ((Below.refl w.heap.size wr).alloc szr _).grown g2 (by simp; omega) (fun q hq => (HI.out.1.lt q hq).1)
          have b5 : Below w.heap.size w w2 := HB.out.trans b2
          clear g2 b2 c1 HI HB
          go_wp2
          go_roundw
          case rel => exact ⟨c + 1, k + 1, by omega, by go_num, HP1.out.symm, o2, b5⟩
          case measure => simp [intOf]; omega
        · have t2 : decide ((c : Int) < (D : Int)) = false := by simp; omega
          have t2n : decide (c < D) = false := by simp; omega
          have HP1 : Hid (c = pickN D n (k + 1)) := by
            show c = pickN D n (k + 1)
            rw [pickN_full (by rw [← HCK.out]; exact hcd)]
            exact HCK.out
          clear hcd
          go_wp2
          go_roundw
          case rel => exact ⟨c, k + 1, by omega, by go_num, HP1.out, HI.out, HB.out⟩
          case measure => simp [intOf]; omega
    · obtain rfl : k = R := by omega
      have HI2 : Hid (OwnI wr w.heap.size wr.heap.size (.slice ao8 c cap8) (pickN D n k) (fun t => (nthN n k t : Int))) := by
        show OwnI wr w.heap.size wr.heap.size (.slice ao8 c cap8) (pickN D n k) (fun t => (nthN n k t : Int))
        rw [← HCK.out]; exact hI
      clear hI
      go_wp2
      go_ret
      exact ⟨_, rfl, HI2.out, hb⟩
end Go.Proofs.YtkijpgfmjogagaaGreat
namespace Go.Proofs.YtkijpgfmjogagaaGreat
open F256
theorem Sol.to_swap {R r a : Nat} {M : Mat} {x : Nat → Nat} (hr : r < R) (ha : a < R) (h : Sol R M x) : Sol R (swapM M r a) x := fun i hi => by
  unfold swapM
  split
  · exact h a ha
  · split
    · exact h r hr
    · exact h i hi
theorem Sol.to_scale {R r c : Nat} {M : Mat} {x : Nat → Nat} (kM : Byt M) (kx : ∀ j, x j < 256) (h : Sol R M x) : Sol R (scaleM M r c) x := fun i hi => by
  by_cases e : i = r
  · subst e
    simp only [scaleM, if_pos]
    rw [dotN_scale (powN_lt _) (kM i) kx, h i hi]
  · simp only [scaleM, if_neg e]
    exact h i hi
theorem Sol.to_clear {R r c : Nat} {M : Mat} {x : Nat → Nat} (kM : Byt M) (kx : ∀ j, x j < 256) (hr : r < R) (h : Sol R M x) : Sol R (clearM M r c R) x := fun i hi => by
  by_cases e : i < R ∧ i ≠ r
  · simp only [clearM, if_pos e]
    rw [dotN_add (kM i) (fun j => mulN_lt (kM i c)), dotN_scale (kM i c) (kM r) kx, h i hi, h r hr]
  · simp only [clearM, if_neg e]
    exact h i hi
theorem Sol.to_step {R c : Nat} {s : Mat × Nat} {x : Nat → Nat} (kM : Byt s.1) (kx : ∀ j, x j < 256) (hr : s.2 ≤ R) (h : Sol R s.1 x) : Sol R (stepM R s c).1 x := by
  have hl := lead_is s.1 c R s.2 hr
  unfold stepM
  by_cases e : lead s.1 c R s.2 = R
  · rw [if_pos e]; exact h
  · rw [if_neg e]
    have h1 := hl.1
    have h2 := hl.2.1
    have hrR : s.2 < R := by omega
    have k1 := swapM_byt kM s.2 (lead s.1 c R s.2)
    exact Sol.to_clear (scaleM_byt k1 s.2 c) kx hrR (Sol.to_scale k1 kx (Sol.to_swap hrR (by omega) h))
theorem Sol.to_gauss {R : Nat} {M : Mat} {x : Nat → Nat} (kM : Byt M) (kx : ∀ j, x j < 256) (h : Sol R M x) : ∀ k, Sol R (gaussM R M k).1 x
  | 0 => h
  | k + 1 => Sol.to_step (gaussM_byt kM k) kx (gaussM_le k).1 (Sol.to_gauss kM kx h k)
theorem gaussM_only {R : Nat} {M : Mat} {x : Nat → Nat} (kM : Byt M) (kx : ∀ j, x j < 256) (hf : (gaussM R M R).2 = R) (h : Sol R M x) (i : Nat) (hi : i < R) : (gaussM R M R).1 i R = x i := by
  have h1 := Sol.to_gauss kM kx h R i hi
  have u := gaussM_unit kM R (Nat.le_refl _) hf
  rw [dotN_unit (i := i) kx R (fun j hj => u i j hi hj), if_pos hi] at h1
  exact h1.symm
theorem weights_unit {n base k0 : Nat} {hv : Nat → Nat} (hk : k0 < n) (hfull : (gaussM n (aug n (wtM n base hv) (genN n (hv k0) base)) n).2 = n) (i : Nat) (hi : i < n) :
    weightsN n base hv (hv k0) i = if i = k0 then 1 else 0 := by
  refine gaussM_only (x := fun i => if i = k0 then 1 else 0) (aug_byt (wtM_byt n base hv) (genN_lt n (hv k0) base)) (fun j => by show (if j = k0 then 1 else 0) < 256; split <;> omega) hfull (fun i hi => ?_) i hi
  have h1 : aug n (wtM n base hv) (genN n (hv k0) base) i n = genN n (hv k0) base i := by simp [aug]
  have kA : ∀ j, aug n (wtM n base hv) (genN n (hv k0) base) i j < 256 := fun j => aug_byt (wtM_byt n base hv) (genN_lt n (hv k0) base) i j
  have ku : ∀ j, (fun i => if i = k0 then 1 else 0 : Nat → Nat) j < 256 := fun j => by show (if j = k0 then 1 else 0) < 256; split <;> omega
  rw [h1, dotN_swap kA ku, dotN_unit (i := k0) kA n (fun j _ => by
    show (if j = k0 then 1 else 0) = if k0 = j then 1 else 0
    by_cases e : j = k0
    · rw [if_pos e, if_pos e.symm]
    · rw [if_neg e, if_neg (fun h => e h.symm)]), if_pos hk]
  simp [aug, hk, wtM]
end Go.Proofs.YtkijpgfmjogagaaGreat
namespace Go.Proofs.YtkijpgfmjogagaaGreat
open Go.RowKit F256
theorem OwnE.congr {w : World} {lo hi : Nat} {v : Value} {R : Nat} {n : Nat → Nat} {M M' : Mat} {g cap : Nat} {e : Nat → Value} (h : OwnE w lo hi v R n M g cap e) (hM : ∀ i j, i < R → j < n i → M i j = M' i j) : OwnE w lo hi v R n M' g cap e :=
  ⟨h.val, h.low, h.high, h.row, fun i hi => (h.each i hi).congr (fun j hj => hM i j hi hj), h.apart⟩
def wayW (D : Nat) (hv : Nat → Nat) (k m : Nat) : Mat := fun i j => if j < k ∨ (j = k ∧ i < m) then wtM D 0 hv i j else 0
theorem OwnE.byte {w : World} {lo hi : Nat} {v : Value} {R C : Nat} {M M' : Mat} {g cap : Nat} {e : Nat → Value} (h : OwnE w lo hi v R (fun _ => C) M g cap e) (i k x gi ci : Nat) (hi' : i < R) (hk : k < C) (he : e i = .slice (some ⟨gi, 0, none⟩) C ci)
    (hM : ∀ a b, a < R → b < C → M' a b = if a = i ∧ b = k then x else M a b) (hlh : lo ≤ hi) : OwnE (w.setCell ⟨gi, k, none⟩ (.int .u8 x)) lo hi v R (fun _ => C) M' g cap e := by
  have ho := h.each i hi'
  have ho2 := ho
  rw [he] at ho
  have hM2 : ∀ a b, a < R → b < C → (fun a b => if a = i then M' a b else M a b) a b = M' a b := fun a b ha hb => by
    show (if a = i then M' a b else M a b) = M' a b
    by_cases c : a = i
    · rw [if_pos c]
    · rw [if_neg c, hM a b ha hb, if_neg (fun hh => c hh.1)]
  refine OwnE.congr (M := fun a b => if a = i then M' a b else M a b) (OwnE.upd h i hi' ?_ ?_ (fun j _ hj => by funext b; show (if j = i then M' j b else M j b) = M j b; rw [if_neg hj])) (fun a b ha hb => hM2 a b ha hb)
  · have t1 : tlo (e i) lo = gi := by rw [he]; rfl
    have t2 : thi (e i) lo = gi + 1 := by rw [he]; rfl
    rw [t1, t2]
    exact (out_store w gi (gi + 1) gi k _ (Nat.le_refl _) (Nat.lt_succ_self _)).chg
  · rw [he]
    exact ho.store k x hk (fun b hb => by
      show (if i = i then M' i b else M i b) = _
      rw [if_pos rfl, hM i b hi' hb]
      by_cases c : b = k
      · rw [if_pos ⟨rfl, c⟩, if_pos c]
      · rw [if_neg (fun hh => c hh.2), if_neg c])
theorem fieldB1 (x : Int) (v : Value) (w : World) : (Instr.field 130 (.agg #[.int .i64 x, v]) 1).run Tryz.prog w = .ok v w := by kernel_rfl
set_option maxHeartbeats 4000000 in
theorem weightsOf_any (D want : Nat) (vh : Value) (hv : Nat → Nat) (h1 : Nat) (w : World) (rh : RdI w h1 vh D (fun i => (hv i : Int))) (hh : h1 ≤ w.heap.size) (hD1 : 1 ≤ D) (hD : D ≤ 3) (hb : ∀ k, k < D → hv k < D + 2) (hr : ∀ k, k + 1 < D → hv k < hv (k + 1)) (hw : want < D + 2) :
    Calls Tryz.prog 153 #[.int .i64 D, vh, .int .i64 want] w fun e w' => ∃ v', e = .returned v' ∧ Own w' w.heap.size w'.heap.size v' D (weightsN D 0 hv want) ∧ Below w.heap.size w w' := by
  obtain ⟨aoh, caph, rfl, hmm, hch⟩ := rh
  obtain ⟨bh, oh, rfl, hbh, hcell⟩ := hch (by omega)
  have HC : Hid (∀ i, i < D → w.cell? ⟨bh, oh + i, none⟩ = some (.int .i64 (hv i : Int))) := hcell
  have HBD : Hid (∀ k, k < D → hv k < D + 2) := hb
  have HFULL : Hid ((gaussM D (aug D (wtM D 0 hv) (genN D want 0)) D).2 = D) := row_full D hD1 hD hv (genN D want 0) hb hr
  have hbw : bh < w.heap.size := by omega
  clear hch hcell hb hr hmm
  go_enter Tryz.func153, Tryz.ntmps153
  go_wp2_with (at_make; refine wp_makeM _ rfl _ _ rfl _ _ D rfl rfl rfl rfl (by omega) ?_; intro w1 hown1 hb1 hz1)
  go_loopw [15] (fun i wr => ∃ k : Nat, k ≤ D ∧ i = .int .i64 k ∧ ∃ e', Cpy w wr D k (fun _ => D) (wayW D hv 0 0) e' ∧ ∀ i, i < k → ∃ gi ci, e' i = .slice (some ⟨gi, 0, none⟩) D ci) (fun i _ => D - (intOf i).toNat)
  case atStart => exact ⟨0, Nat.zero_le _, rfl, fun _ => nilS, ⟨by rw [valsOf_eq (g := fun _ => nilS) (fun i hi => by simp)]; exact hown1, fun i hi => by omega, ⟨fun i hi => by omega, fun i j hi => by omega⟩, hb1, hz1⟩, fun i hi => by omega⟩
  case round =>
    clear hown1 hb1 hz1
    obtain ⟨k, hk, rfl, e', hcp, hsl⟩ := hrel
    by_cases hlt : k < D
    · have HSL : Hid (∀ i, i < k → ∃ gi ci, e' i = .slice (some ⟨gi, 0, none⟩) D ci) := hsl
      have HCP : Hid (Cpy w wr D k (fun _ => D) (wayW D hv 0 0) e') := hcp
      have hl := hcp.lt
      clear hsl hcp
      go_wp2_with (at_make; refine wp_makeB _ rfl _ _ rfl _ _ D rfl rfl rfl rfl (by omega) ?_; intro w2 ho2 hb2 hz2; have q1 : w2.cell? ⟨w.heap.size, k, none⟩ = some nilS := (by rw [hb2.cell (p := ⟨w.heap.size, k, none⟩) hl, HCP.out.row.cellAt k (by omega), valsOf_get _ _ _ hlt, if_neg (Nat.lt_irrefl k)]); have q2 : w2.frozen? ⟨w.heap.size, k, none⟩ = false := (hb2.frozen (p := ⟨w.heap.size, k, none⟩) hl).trans (HCP.out.row.frozenAt k))
      have N := HCP.out.next hlt hb2 (ho2.congr (g := wayW D hv 0 0 k) (fun i hi => by simp [wayW]))
      have NS : ∀ i, i < k + 1 → ∃ gi ci, (fun i => if i = k then Value.slice (some ⟨wr.heap.size, 0, none⟩) D D else e' i) i = .slice (some ⟨gi, 0, none⟩) D ci := fun i hi => by
        show ∃ gi ci, (if i = k then Value.slice (some ⟨wr.heap.size, 0, none⟩) D D else e' i) = .slice (some ⟨gi, 0, none⟩) D ci
        by_cases c : i = k
        · exact ⟨_, _, by rw [if_pos c]⟩
        · rw [if_neg c]
          exact HSL.out i (by omega)
      clear HCP HSL hb2 ho2 q1 q2
      go_roundw
      case rel => exact ⟨k + 1, by omega, by go_num, _, N, NS⟩
      case measure => simp [intOf]; omega
    · obtain rfl : k = D := by omega
      have E0 : OwnE wr w.heap.size wr.heap.size (.slice (some ⟨w.heap.size, 0, none⟩) k k) k (fun _ => k) (wayW k hv 0 0) w.heap.size k e' := by
        have hrr := hcp.row
        rw [valsOf_eq (g := e') (fun i hi => by simp [hi])] at hrr
        exact ⟨rfl, Nat.le_refl _, hcp.lt, hrr, fun i hi => (hcp.each i hi).weaken (by omega) (Nat.le_refl _), hcp.apart⟩
      have HSL : Hid (∀ i, i < k → ∃ gi ci, e' i = .slice (some ⟨gi, 0, none⟩) k ci) := hsl
      have B0 : Below w.heap.size w wr := hcp.bel
      obtain ⟨wA, hwA⟩ : ∃ wA, wA = wr := ⟨_, rfl⟩
      rw [← hwA] at E0 B0 ⊢
      have hzA : w.heap.size < wA.heap.size := E0.high
      clear hcp hsl hwA
      go_wp2
      go_loopw [25] (fun i wr => ∃ c : Nat, c ≤ k ∧ i = .int .i64 c ∧ OwnE wr w.heap.size wA.heap.size (.slice (some ⟨w.heap.size, 0, none⟩) k k) k (fun _ => k) (wayW k hv c 0) w.heap.size k e' ∧ Below w.heap.size w wr ∧ wA.heap.size ≤ wr.heap.size) (fun i _ => k - (intOf i).toNat)
      case atStart => exact ⟨0, Nat.zero_le _, rfl, E0, B0, Nat.le_refl _⟩
      case round =>
        clear E0 B0
        obtain ⟨c, hc, rfl, hE, hbel, hsz⟩ := hrel
        by_cases hck : c < k
        · have ck : wr.cell? ⟨bh, oh + c, none⟩ = some (.int .i64 (hv c : Int)) := (hbel.cell (p := ⟨bh, oh + c, none⟩) hbw).trans (HC.out c hck)
          have C := factorsAt_any k (hv c) (by omega) (by have := HBD.out c hck; omega) wr
          obtain ⟨p, hp⟩ : ∃ p, p = hv c := ⟨_, rfl⟩
          have HP : Hid (p = hv c) := hp
          rw [← hp] at ck C
          have HE : Hid (OwnE wr w.heap.size wA.heap.size (.slice (some ⟨w.heap.size, 0, none⟩) k k) k (fun _ => k) (wayW k hv c 0) w.heap.size k e') := hE
          have HBL : Hid (Below w.heap.size w wr) := hbel
          obtain ⟨wk, hwk⟩ : ∃ wk, wk = wr := ⟨_, rfl⟩
          rw [← hwk] at ck C HE HBL hsz ⊢
          clear hp hE hbel hwk
          go_wp2_with fail
          refine C.mono ?_
          rintro ee w6 ⟨v6, rfl, o6, b6⟩
          obtain ⟨gv, capv, hgv, h61, h62, h63, h64⟩ := o6.form (by omega)
          subst hgv
          have E6 := HE.out.below b6 hsz
          have s6 := b6.size
          have B6 : Below w.heap.size w w6 := HBL.out.trans (b6.mono HBL.out.size)
          clear C ck b6 HE HBL
          go_wp2
          go_loopw [35] (fun i wr => ∃ m : Nat, m ≤ k ∧ i = .int .i64 m ∧ OwnE wr w.heap.size wA.heap.size (.slice (some ⟨w.heap.size, 0, none⟩) k k) k (fun _ => k) (wayW k hv c m) w.heap.size k e' ∧ Own wr wk.heap.size w6.heap.size (.slice (some ⟨gv, 0, none⟩) k capv) k (genN k p 0) ∧ Below w.heap.size w wr ∧ w6.heap.size ≤ wr.heap.size) (fun i _ => k - (intOf i).toNat)
          case atStart => exact ⟨0, Nat.zero_le _, rfl, E6, o6, B6, Nat.le_refl _⟩
          case round =>
            clear E6 o6 B6
            obtain ⟨m, hm, rfl, hE, ho, hbel, hsz6⟩ := hrel
            by_cases hmk : m < k
            · obtain ⟨gi, ci, hei⟩ := HSL.out m hmk
              have om := hE.each m hmk
              have c1 : wr.cell? ⟨w.heap.size, m, none⟩ = some (.slice (some ⟨gi, 0, none⟩) k ci) := by rw [← hei]; exact hE.cell m hmk
              have c2 : wr.cell? ⟨gv, m, none⟩ = some (.int .u8 (genN k p 0 m)) := (ho.1.cellAt m (by omega)).trans (cellsOf_get _ _ _ hmk)
              rw [hei] at om
              have hgi := om.1.lt gi rfl
              have hgi2 := om.2 gi rfl
              have c3 : wr.cell? ⟨gi, c, none⟩ = some (.int .u8 (wayW k hv c m m c)) := (om.1.cellAt c (by omega)).trans (cellsOf_get _ _ _ hck)
              have c4 : wr.frozen? ⟨gi, c, none⟩ = false := om.1.frozenAt c
              obtain ⟨y, hy⟩ : ∃ y, y = genN k p 0 m := ⟨_, rfl⟩
              obtain ⟨y3, hy3⟩ : ∃ y, y = wayW k hv c m m c := ⟨_, rfl⟩
              rw [← hy] at c2
              rw [← hy3] at c3
              have EN : OwnE (wr.setCell ⟨gi, c, none⟩ (.int .u8 y)) w.heap.size wA.heap.size (.slice (some ⟨w.heap.size, 0, none⟩) k k) k (fun _ => k) (wayW k hv c (m + 1)) w.heap.size k e' := hE.byte m c y gi ci hmk hck hei (fun a b ha hb => by
                unfold wayW
                by_cases cc : a = m ∧ b = c
                · obtain ⟨rfl, rfl⟩ := cc
                  rw [if_pos (show b < b ∨ (b = b ∧ a < a + 1) from .inr ⟨rfl, by omega⟩), if_pos (show a = a ∧ b = b from ⟨rfl, rfl⟩), hy, HP.out]
                  rfl
                · rw [if_neg cc]
                  by_cases c5 : b < c ∨ (b = c ∧ a < m)
                  · rw [if_pos c5, if_pos (by omega)]
                  · rw [if_neg c5, if_neg (by omega)]) (Nat.le_of_lt hzA)
              have ON : Own (wr.setCell ⟨gi, c, none⟩ (.int .u8 y)) wk.heap.size w6.heap.size (.slice (some ⟨gv, 0, none⟩) k capv) k (genN k p 0) := ho.out (out_store wr w.heap.size wA.heap.size gi c _ hgi.1 hgi2) (.inr hsz)
              have BN : Below w.heap.size w (wr.setCell ⟨gi, c, none⟩ (.int .u8 y)) := hbel.setCell hgi.1 _
              have SN : w6.heap.size ≤ (wr.setCell ⟨gi, c, none⟩ (.int .u8 y)).heap.size := by simpa using hsz6
              clear hE ho hbel om hei hy hy3
              go_wp2
              go_region
              all_goals
                go_wp2
                go_roundw
                case rel => exact ⟨m + 1, by omega, by go_num, by first | exact EN | exact EN.drewN 1, ON, by first | exact BN | exact below_drewN BN 1, SN⟩
                case measure => simp [intOf]; omega
            · obtain rfl : m = k := by omega
              have E9 := hE.congr (M' := wayW m hv (c + 1) 0) (fun a b ha hb => by
                unfold wayW
                by_cases c5 : b < c ∨ (b = c ∧ a < m)
                · rw [if_pos c5, if_pos (by omega)]
                · rw [if_neg c5, if_neg (by omega)])
              clear hE ho
              go_wp2
              go_roundw
              case rel => exact ⟨c + 1, by omega, by go_num, E9, hbel, by omega⟩
              case measure => simp [intOf]; omega
        · obtain rfl : c = k := by omega
          have C := factorsAt_any c want (by omega) (by omega) wr
          have EF := hE.congr (M' := wtM c 0 hv) (fun a b ha hb => by unfold wayW; rw [if_pos (.inl hb)])
          have HE : Hid (OwnE wr w.heap.size wA.heap.size (.slice (some ⟨w.heap.size, 0, none⟩) c c) c (fun _ => c) (wtM c 0 hv) w.heap.size c e') := EF
          have HBL : Hid (Below w.heap.size w wr) := hbel
          clear hE hbel EF
          go_wp2_with fail
          refine C.mono ?_
          rintro ee w6 ⟨v6, rfl, o6, b6⟩
          have B6 : Below w.heap.size w w6 := HBL.out.trans (b6.mono HBL.out.size)
          have E6 := HE.out.below b6 hsz
          have CS := implSolve_any _ _ c c (fun _ => c) (wtM c 0 hv) (genN c want 0) w.heap.size wA.heap.size wr.heap.size w6.heap.size w6 ⟨_, _, _, E6⟩ o6 (Nat.le_trans hsz b6.size) (Nat.le_refl _) (wtM_byt c 0 hv) (genN_lt c want 0)
          obtain ⟨ao6, cap6, rfl⟩ := o6.slice
          have s6 := B6.size
          clear C o6 b6 E6 HE HBL
          go_wp2_with fail
          refine CS.mono ?_
          rintro ee w7 ⟨x7, v7, rfl, ha7, o7, b7⟩
          have hx7 : x7 = 0 := by
            rcases ha7 with ⟨_, h⟩ | ⟨_, _, h⟩ | ⟨_, _, _, _, ⟨_, h⟩ | ⟨h, _⟩⟩
            · omega
            · rcases h with h | h | ⟨i, _, h⟩
              · omega
              · exact absurd rfl h
              · exact absurd rfl h
            · have := HFULL.out; omega
            · exact h
          subst hx7
          simp only [if_pos] at o7
          obtain ⟨ao7, cap7, rfl⟩ := o7.slice
          have HO7 : Hid (Own w7 w6.heap.size w7.heap.size (.slice ao7 c cap7) c (weightsN c 0 hv want)) := o7
          have B7 : Below w.heap.size w w7 := B6.trans (b7.mono s6)
          unfold bytesR
          have hfd := fieldB1 0 (.slice ao7 c cap7)
          clear ha7 o7 b7 CS B6
          go_wp2
          go_ret
          exact ⟨_, rfl, HO7.out.weaken s6 (Nat.le_refl _), B7⟩
end Go.Proofs.YtkijpgfmjogagaaGreat