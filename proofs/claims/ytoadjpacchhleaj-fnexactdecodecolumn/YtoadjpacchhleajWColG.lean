/- Walk of the specification's DecodeColumn. -/
import Derived.Test.YtoadjpacchhleajColDefs
import Derived.Test.YtoadjpacchhleajWColE
import Derived.Test.YtoadjpacchhleajWOwnB
import Derived.Test.YtoadjpacchhleajNth
import Derived.Test.YtoadjpacchhleajWPick
namespace Go.Proofs.Ytoadjpacchhleaj
open Go.RowKit F256
set_option linter.unusedVariables false
set_option linter.unusedSimpArgs false

set_option maxHeartbeats 8000000 in
theorem specDecodeC_any (g c : Int) (v : Value) (R : Nat) (n : Nat → Nat) (f : Mat) (h1 : Nat) (w : World) (r : RdM w h1 v R n f) (hh : h1 ≤ w.heap.size) (kf : Byt f) :
    Calls Try.prog 16 #[.int .i64 g, .int .i64 c, v] w fun ee w' => ∃ x v', ee = .returned (bytesR x v') ∧ DcAns g c R n x ∧ OwnB w' w.heap.size w'.heap.size v' (if x = 0 then R else 0) (fun _ => n (nthN n R 0)) (colN g.toNat n R f) ∧ Below w.heap.size w w' := by
  have HR : Hid (RdM w h1 v R n f) := r
  obtain ⟨ao, cap, e, rfl, hm, hc, he⟩ := r
  have HHE : Hid (∀ i, i < R → Rd w h1 (e i) (n i) (f i)) := he
  have HHC : Hid (R ≠ 0 → ∃ b off, ao = some ⟨b, off, none⟩ ∧ b < h1 ∧ ∀ i, i < R → w.cell? ⟨b, off + i, none⟩ = some (e i)) := hc
  unfold maxLen at hm
  clear hc he
  go_enter Try.func16, Try.ntmps16
  go_wp2_with fail
  refine (l3Shape_any g c _).mono ?_
  rintro e0 w1 ⟨b1, rfl, hb1, b1'⟩
  have HS : Hid (b1 = true ↔ Shp3 g c) := hb1
  have B1 : Below w.heap.size w w1 := bnew b1'
  have X1 : Box w1 w.heap.size #[.int .i64 0, .slice none 0 0] 36 := (box_new w _ _).below b1' (by simp)
  have z1 : w.heap.size < w1.heap.size := X1.lt
  obtain ⟨x0, x1, y0, y1⟩ := res_cells X1
  clear hb1 b1'
  cases b1 with
  | false =>
    have HNO : Hid (¬ Shp3 g c) := fun h => by have := HS.out.mpr h; cases this
    clear HS
    go_wp2
    exact bodyPost_ret (v := bytesR 3 (.slice none 0 0)) (by simp [results, Try.results16, go_sem, bytesR, x0, x1]) rfl ⟨3, _, rfl, .inl ⟨rfl, HNO.out⟩, OwnB.none _ _ _ _ _, (B1.setCell (Nat.le_refl _) _).setCell (Nat.le_refl _) _⟩
  | true =>
    have hsh := HS.out.mp rfl
    have HSH : Hid (Shp3 g c) := hsh
    obtain ⟨q1, q2, q3, q4⟩ := hsh
    obtain ⟨D, rfl⟩ : ∃ D : Nat, g = D := ⟨g.toNat, by omega⟩
    obtain ⟨S, rfl⟩ : ∃ S : Nat, c = S := ⟨c.toNat, by omega⟩
    clear HS
    by_cases hlen : (R : Int) = (D : Int) + (S : Int)
    · have tl : ((R : Int) != (D : Int) + (S : Int)) = false := by simp [hlen]
      have HLEN : Hid ((R : Int) = (D : Int) + (S : Int)) := hlen
      have hR6 : R ≤ D + 2 := by omega
      have hD1 : 1 ≤ D := by omega
      have hD4 : D ≤ 4 := by omega
      have hR1 : 1 ≤ R := by omega
      obtain ⟨b, off, hao, hblt, hcell⟩ := HHC.out (by omega)
      subst hao
      have HCC : Hid (∀ i, i < R → w.cell? ⟨b, off + i, none⟩ = some (e i)) := hcell
      have hbw : b < w.heap.size := by omega
      have HB1 : Hid (Below w.heap.size w w1) := B1
      have HX1 : Hid (Box w1 w.heap.size #[.int .i64 0, .slice none 0 0] 36) := X1
      clear hlen hcell HHC x0 x1 y0 y1 B1 X1
      have I0 : OwnI ((w1.alloc (.cells #[] 2)).alloc (.cells #[] 23)) w1.heap.size ((w1.alloc (.cells #[] 2)).alloc (.cells #[] 23)).heap.size (.slice (some ⟨w1.heap.size, 0, none⟩) 0 0) 0 (fun t => (nthN n R t : Int)) := ((ownI_lit0 w1 _).alloc _).weaken (Nat.le_refl _) (by simp)
      have M0 : ((w1.alloc (.cells #[] 2)).alloc (.cells #[] 23)).ownsRow w1.heap.size 23 1 (.slice (some ⟨w1.heap.size + 1, 0, none⟩) 0 0) 0 (valsOf 0 fun t => e (nthN n R t)) := by
        have hl := World.ownsRow_lit (base := w1.heap.size) (e := 23) (size := 1) (w1.alloc (.cells #[] 2)) #[] 0 (by simp) (Nat.zero_le _) rfl
        have hz : (w1.alloc (.cells #[] 2)).heap.size = w1.heap.size + 1 := by simp
        rw [hz] at hl
        exact hl
      go_wp2
      go_loopw [7, 8, 9] (fun vh vm i wr => ∃ c k : Nat, k ≤ R ∧ i = .int .i64 k ∧ c = cntN n k ∧ OwnI wr w1.heap.size wr.heap.size vh c (fun t => (nthN n R t : Int)) ∧ wr.ownsRow w1.heap.size 23 1 vm c (valsOf c fun t => e (nthN n R t)) ∧ Below w1.heap.size w1 wr) (fun _ _ i _ => R - (intOf i).toNat)
      case atStart => exact ⟨0, 0, Nat.zero_le _, rfl, rfl, I0, M0, ((Below.refl _ _).alloc (Nat.le_refl _) _).alloc (by simp) _⟩
      case round =>
        clear I0 M0
        obtain ⟨c, k, hk, rfl, hck, hI, hM, hb⟩ := hrel
        have HCK : Hid (c = cntN n k) := hck
        have hc6 : c ≤ 6 := by have := cntN_le n k; omega
        have HI : Hid (OwnI wr w1.heap.size wr.heap.size u7 c (fun t => (nthN n R t : Int))) := hI
        have HM : Hid (wr.ownsRow w1.heap.size 23 1 u8 c (valsOf c fun t => e (nthN n R t))) := hM
        have HB : Hid (Below w1.heap.size w1 wr) := hb
        obtain ⟨ao8, cap8, hs8⟩ := hI.slice
        subst hs8
        have szr := hb.size
        have hbr : Below w.heap.size w wr := HB1.out.trans (hb.mono (by omega))
        clear hck
        by_cases hlt : k < R
        · have c1 : wr.cell? ⟨b, off + k, none⟩ = some (e k) := (hbr.cell (p := ⟨b, off + k, none⟩) hbw).trans (HCC.out k hlt)
          obtain ⟨aok, capk, hsk, hmk, hqk⟩ := HHE.out k hlt
          unfold maxLen at hmk
          obtain ⟨nk, hnk⟩ : ∃ x, x = n k := ⟨_, rfl⟩
          have HNK : Hid (nk = n k) := hnk
          have HEK : Hid (e k = .slice aok nk capk) := by show e k = _; rw [hsk, hnk]
          rw [hsk, ← hnk] at c1
          rw [← hnk] at hmk
          have hbw1 : b < w1.heap.size := by omega
          clear hnk hsk hqk hI hM hb hbr
          by_cases e1 : nk = 0
          · have HN0 : Hid (nk = 0) := e1
            have t1 : decide ((0 : Int) < (nk : Int)) = false := by simp; omega
            have t1n : decide (0 < nk) = false := by simp; omega
            clear e1
            go_wp2
            go_roundw
            case rel => exact ⟨c, k + 1, by omega, by go_num, by rw [cntN, if_pos (by rw [← HNK.out]; exact HN0.out)]; exact HCK.out, HI.out, HM.out, HB.out⟩
            case measure => simp [intOf]; omega
          · have hnt : nthN n R c = k := by rw [HCK.out]; exact nthN_is hlt (by rw [← HNK.out]; exact e1)
            have HNT : Hid (nthN n R c = k) := hnt
            have HN0 : Hid (nk ≠ 0) := e1
            have t1 : (0 : Int) < (nk : Int) := by omega
            clear e1 hnt
            go_wp2_with (first | (at_builtin; refine wp_appendIt rfl (.tmp 38) (.tmp 40) rfl w1.heap.size wr.heap.size (.slice ao8 c cap8) c (fun t => (nthN n R t : Int)) ?_ ?_ wr.heap.size 1 ?_ ?_ (by omega) ?_ ?_; (simp [Act.eval]); exact HI.out.alloc _; (simp [Act.eval]); (rw [HNT.out]; simp); (simp; omega); intro v2 w2 o2 g2; have b2 : Below w1.heap.size wr w2 := ((Below.refl w1.heap.size wr).alloc szr _).grown g2 (by simp; omega) (fun q hq => (HI.out.1.lt q hq).1); have c2 : w2.cell? ⟨b, off + k, none⟩ = some (.slice aok nk capk) := (b2.cell (p := ⟨b, off + k, none⟩) hbw1).trans c1; have m2 : w2.ownsRow w1.heap.size 23 1 u8 c (valsOf c fun t => e (nthN n R t)) := row_kept HM.out (fun q hq => (g2.block q (by have := (HM.out.lt q hq).2; simp; omega) (fun hhh => two_types HM.out HI.out q hq hhh.symm)).trans (Below.heap_alloc wr _ q (HM.out.lt q hq).2)); have s2 : wr.heap.size + 1 ≤ w2.heap.size := (by have := g2.size; simpa using this); obtain ⟨ao2, cap2, rfl⟩ := o2.slice) | (at_builtin; refine wp_appendM rfl (.tmp 42) (.tmp 47) rfl w1.heap.size u8 c (fun t => e (nthN n R t)) ?_ ?_ w2.heap.size 1 (.slice aok nk capk) ?_ ?_ rfl (by omega) ?_ ?_; (simp [Act.eval]); exact m2.alloc _; (simp [Act.eval]); simp; (simp; omega); intro v4 w4 hr4 hg4 hn4))
            have hr5 : w4.ownsRow w1.heap.size 23 1 v4 (c + 1) (valsOf (c + 1) fun t => e (nthN n R t)) := by
              rw [← valsOf_snoc, HNT.out, HEK.out]
              exact hr4
            have s4 : w2.heap.size + 1 ≤ w4.heap.size := by have := hg4.size; simpa using this
            have o5 : OwnI w4 w1.heap.size w4.heap.size (.slice ao2 (c + 1) cap2) (c + 1) (fun t => (nthN n R t : Int)) := (o2.kept fun q hq => (hg4.block q (by have := (o2.1.lt q hq).2; simp; omega) (fun hhh => two_types m2 o2 q hhh.symm hq)).trans (Below.heap_alloc w2 _ q (o2.1.lt q hq).2)).mono (by omega)
            have b5 : Below w1.heap.size w1 w4 := (HB.out.trans b2).trans (((Below.refl w1.heap.size w2).alloc (by omega) _).grown hg4 (by simp; omega) (fun q hq => (m2.lt q hq).1))
            clear hr4 hg4 hn4 o2 g2 b2 m2 c1 c2 HI HM
            go_wp2
            go_roundw
            case rel => exact ⟨c + 1, k + 1, by omega, by go_num, by rw [cntN, if_neg (by rw [← HNK.out]; exact HN0.out), ← HCK.out], o5, hr5, b5⟩
            case measure => simp [intOf]; omega
        · obtain rfl : k = R := by omega
          obtain ⟨wB, hwB⟩ : ∃ wB, wB = wr := ⟨_, rfl⟩
          rw [← hwB] at HI HM HB szr hbr ⊢
          clear hwB hI hM hb
          obtain ⟨ao9, cap9, hs9⟩ := row_slice HM.out
          subst hs9
          have hnt : ∀ t, t < c → nthN n k t < k := fun t ht => (nthN_spec (n := n) (R := k) (k := t) (by have := HCK.out; omega)).1
          have HNTH : Hid (∀ t, t < c → nthN n k t < k) := hnt
          have RM : RdM wB wB.heap.size (.slice ao9 c cap9) c (fun t => n (nthN n k t)) (fun t => f (nthN n k t)) := by
            refine ⟨ao9, cap9, fun t => e (nthN n k t), rfl, by unfold maxLen; omega, fun h0 => ?_, fun t ht => ((HHE.out _ (HNTH.out t ht)).below hbr hh).mono (by have := hbr.size; omega)⟩
            rcases HM.out.2 with ⟨h, h2⟩ | ⟨g, cap, cur, h, _, h3, _⟩
            · omega
            · cases h
              exact ⟨g, 0, rfl, (Array.getElem?_eq_some_iff.1 h3).1, fun t ht => by rw [Nat.zero_add]; exact (HM.out.cellAt t (by omega)).trans (valsOf_get _ _ _ ht)⟩
          have HRM : Hid (RdM wB wB.heap.size (.slice ao9 c cap9) c (fun t => n (nthN n k t)) (fun t => f (nthN n k t))) := RM
          have CE := l3Even_any (.slice ao9 c cap9) c (fun t => n (nthN n k t)) (fun t => f (nthN n k t)) wB.heap.size wB RM
          have HBR : Hid (Below w.heap.size w wB) := hbr
          have sB := hbr.size
          clear RM hnt hbr
          go_wp2_with fail
          refine CE.mono ?_
          rintro e0 w2 ⟨b2, rfl, hb2, b2'⟩
          have HE2 : Hid (b2 = true ↔ EvenM k n) := by show b2 = true ↔ EvenM k n; unfold EvenM; rw [← HCK.out]; exact hb2
          have B2 : Below w.heap.size w w2 := HBR.out.trans (b2'.mono sB)
          have HB2 : Hid (Below wB.heap.size wB w2) := b2'
          have X2 : Box w2 w.heap.size #[.int .i64 0, .slice none 0 0] 36 := (HX1.out.below HB.out z1).below b2' (by omega)
          have z2 : w.heap.size < w2.heap.size := X2.lt
          have sB2 := b2'.size
          obtain ⟨x0, x1, y0, y1⟩ := res_cells X2
          clear hb2 b2' CE
          cases b2 with
          | false =>
            have HNO : Hid (¬ EvenM k n) := fun h => by have := HE2.out.mpr h; cases this
            clear HE2
            go_wp2
            exact bodyPost_ret (v := bytesR 1 (.slice none 0 0)) (by simp [results, Try.results16, go_sem, bytesR, x0, x1]) rfl ⟨1, _, rfl, .inr (.inr (.inl ⟨rfl, HSH.out, HLEN.out, HNO.out⟩)), OwnB.none _ _ _ _ _, (B2.setCell (Nat.le_refl _) _).setCell (Nat.le_refl _) _⟩
          | true =>
            have HEV : Hid (EvenM k n) := HE2.out.mp rfl
            clear HE2
            by_cases hc0 : c = 0
            · have t0 : decide ((0 : Int) < (c : Int)) = false := by simp; omega
              have t0n : decide (0 < c) = false := by simp; omega
              have t3 : (c : Int) < (D : Int) := by omega
              have HNB : Hid (¬ (0 < cntN n k ∧ 4000 < n (nthN n k 0))) := fun h => by have := h.1; have := HCK.out; omega
              have HLT : Hid ((cntN n k : Int) < (D : Int)) := by show (cntN n k : Int) < (D : Int); rw [← HCK.out]; exact t3
              clear hc0
              go_wp2
              exact bodyPost_ret (v := bytesR 10 (.slice none 0 0)) (by simp [results, Try.results16, go_sem, bytesR, x0, x1]) rfl ⟨10, _, rfl, .inr (.inr (.inr (.inr (.inl ⟨rfl, HSH.out, HLEN.out, HEV.out, HNB.out, HLT.out⟩)))), OwnB.none _ _ _ _ _, (B2.setCell (Nat.le_refl _) _).setCell (Nat.le_refl _) _⟩
            · obtain ⟨g9, hao9, hg9⟩ : ∃ g, ao9 = some ⟨g, 0, none⟩ ∧ g < wB.heap.size ∧ c ≤ cap9 := by
                rcases HM.out.2 with ⟨h, h2⟩ | ⟨g, cap, cur, h, _, h3, h4, _⟩
                · omega
                · cases h
                  exact ⟨g, rfl, (Array.getElem?_eq_some_iff.1 h3).1, h4⟩
              subst hao9
              obtain ⟨hg9, hc9⟩ := hg9
              obtain ⟨N, hN⟩ : ∃ N, N = n (nthN n k 0) := ⟨_, rfl⟩
              have HN : Hid (N = n (nthN n k 0)) := hN
              obtain ⟨aoz, capz, hsz, hmz, hqz⟩ := HHE.out _ (HNTH.out 0 (by omega))
              have cz : w2.cell? ⟨g9, 0, none⟩ = some (.slice aoz N capz) := by
                rw [hN, ← hsz]
                exact (HB2.out.cell (p := ⟨g9, 0, none⟩) hg9).trans ((HM.out.cellAt 0 (by omega)).trans (valsOf_get _ _ _ (by omega)))
              rw [← hN] at hmz
              unfold maxLen at hmz
              have t0 : (0 : Int) < (c : Int) := by omega
              clear hsz hqz hN
              by_cases hbig : 4000 < N
              · have t4 : (4000 : Int) < (N : Int) := by omega
                have HBG : Hid (0 < cntN n k ∧ 4000 < n (nthN n k 0)) := ⟨by have := HCK.out; omega, by rw [← HN.out]; exact hbig⟩
                go_wp2
                exact bodyPost_ret (v := bytesR 2 (.slice none 0 0)) (by simp [results, Try.results16, go_sem, bytesR, x0, x1]) rfl ⟨2, _, rfl, .inr (.inr (.inr (.inl ⟨rfl, HSH.out, HLEN.out, HEV.out, HBG.out⟩))), OwnB.none _ _ _ _ _, (B2.setCell (Nat.le_refl _) _).setCell (Nat.le_refl _) _⟩
              · have t4 : decide ((4000 : Int) < (N : Int)) = false := by simp; omega
                have HNB : Hid (¬ (0 < cntN n k ∧ 4000 < n (nthN n k 0))) := fun h => by have := h.2; rw [← HN.out] at this; omega
                by_cases hcD : c < D
                · have t5 : (c : Int) < (D : Int) := by omega
                  have HLT : Hid ((cntN n k : Int) < (D : Int)) := by show (cntN n k : Int) < (D : Int); rw [← HCK.out]; exact t5
                  go_wp2
                  exact bodyPost_ret (v := bytesR 10 (.slice none 0 0)) (by simp [results, Try.results16, go_sem, bytesR, x0, x1]) rfl ⟨10, _, rfl, .inr (.inr (.inr (.inr (.inl ⟨rfl, HSH.out, HLEN.out, HEV.out, HNB.out, HLT.out⟩)))), OwnB.none _ _ _ _ _, (B2.setCell (Nat.le_refl _) _).setCell (Nat.le_refl _) _⟩
                · have t5 : decide ((c : Int) < (D : Int)) = false := by simp; omega
                  obtain ⟨g8, cap8', hv8, _, hg8, _, hc8⟩ := HI.out.form hc0
                  simp only [Value.slice.injEq] at hv8
                  obtain ⟨rfl, _, rfl⟩ := hv8
                  have HX2 : Hid (Box w2 w.heap.size #[.int .i64 0, .slice none 0 0] 36) := X2
                  have HB22 : Hid (Below w.heap.size w w2) := B2
                  have HGE : Hid ((D : Int) ≤ (cntN n k : Int)) := by show (D : Int) ≤ (cntN n k : Int); rw [← HCK.out]; omega
                  have hDc8 : (D : Int) ≤ (cap8 : Int) := by omega
                  have hDc9 : (D : Int) ≤ (cap9 : Int) := by omega
                  have hD0 : D ≠ 0 := by omega
                  have hcap8 : ¬ cap8 = 0 := by omega
                  have hcap9 : ¬ cap9 = 0 := by omega
                  have zn : (w2.alloc (.cells #[.int .i64 0, .slice none 0 0] 36)).heap.size = w2.heap.size + 1 := by simp
                  have BO0 : BldO (w2.alloc (.cells #[.int .i64 0, .slice none 0 0] 36)) (w2.heap.size + 1) (w2.alloc (.cells #[.int .i64 0, .slice none 0 0] 36)).heap.size (.slice none 0 0) 0 (fun _ => N) (colN D n k f) (fun _ => nilS) :=
                    ⟨World.ownsRow_nil _ _ _ _, fun q hq => (by cases hq), fun i hi => by omega, fun i j hi => by omega, by rw [zn]; exact Nat.le_refl _, Nat.le_refl _⟩
                  clear B2 X2
                  go_wp2
                  clear x0 x1 y0 y1 cz
                  go_loopw [11] (fun i wr => ∃ p : Nat, p ≤ k ∧ i = .int .i64 p ∧ ∃ u e2, Box wr w2.heap.size #[.int .i64 0, u] 36 ∧ BldO wr (w2.heap.size + 1) wr.heap.size u p (fun _ => N) (colN D n k f) e2 ∧ (p ≠ 0 → u ≠ nilS) ∧ Below w2.heap.size w2 wr) (fun i _ => k - (intOf i).toNat)
                  case atStart => exact ⟨0, Nat.zero_le _, rfl, _, _, box_new _ _ _, BO0, fun h => absurd rfl h, (Below.refl _ _).alloc (Nat.le_refl _) _⟩
                  case round =>
                    clear BO0 zn
                    obtain ⟨p, hp, rfl, u, e2, hbx, hBO, hnn, hb⟩ := hrel
                    obtain ⟨aou, capu, rfl⟩ := hBO.slice
                    have HBX : Hid (Box wr w2.heap.size #[.int .i64 0, .slice aou p capu] 36) := hbx
                    have HBO : Hid (BldO wr (w2.heap.size + 1) wr.heap.size (.slice aou p capu) p (fun _ => N) (colN D n k f) e2) := hBO
                    have HBE : Hid (Below w2.heap.size w2 wr) := hb
                    have HNN : Hid (p ≠ 0 → Value.slice aou p capu ≠ nilS) := hnn
                    have zr := hbx.lt
                    have hBr : Below wB.heap.size wB wr := HB2.out.trans (hb.mono sB2)
                    have tpr : ∀ q : Nat, (q : Int) < (D : Int) + (S : Int) ↔ q < k := fun q => by have := HLEN.out; omega
                    obtain ⟨d0, d1, f0, f1⟩ := res_cells hbx
                    by_cases hlt2 : p < k
                    · have tlt : (p : Int) < (D : Int) + (S : Int) := (tpr p).mpr hlt2
                      have rI : RdI wr wB.heap.size (.slice (some ⟨g8, 0, none⟩) D cap8) D (fun t => (nthN n k t : Int)) := ⟨_, _, rfl, by unfold maxLen; omega, fun _ => ⟨g8, 0, rfl, hg8, fun t ht => by
                        rw [Nat.zero_add]
                        exact ((HI.out.below hBr (Nat.le_refl _)).1.cellAt t (by omega)).trans (intsOf_get _ _ _ (by omega))⟩⟩
                      have hcnt : c = cntN n k := HCK.out
                      have CW := fun q => l2Weights_col D p (.slice (some ⟨g8, 0, none⟩) D cap8) (nthN n k) wB.heap.size (wr.drewN q) rI (by show wB.heap.size ≤ wr.heap.size; omega) hD1 hD4 (fun t ht => by have := HNTH.out t (by omega); omega) (fun t ht => nthN_rise (by omega)) (by omega)
                      have HCW : Hid (∀ q, Calls Try.prog 45 #[.int .i64 D, .slice (some ⟨g8, 0, none⟩) D cap8, .int .i64 p, .int .i64 8] (wr.drewN q) fun e w' => ∃ v', e = .returned v' ∧ Own w' (wr.drewN q).heap.size w'.heap.size v' D (weightsN D 8 (nthN n k) p) ∧ Below (wr.drewN q).heap.size (wr.drewN q) w') := CW
                      have rM : RdM wr wB.heap.size (.slice (some ⟨g9, 0, none⟩) D cap9) D (fun t => n (nthN n k t)) (fun t => f (nthN n k t)) := by
                        obtain ⟨ao', cap', e', hv', hm', hc', he'⟩ := HRM.out.below hBr (Nat.le_refl _)
                        cases hv'
                        obtain ⟨b', off', hb', hlt', hcell'⟩ := hc' hc0
                        cases hb'
                        exact ⟨_, _, e', rfl, by unfold maxLen; omega, fun _ => ⟨_, _, rfl, hlt', fun t ht => hcell' t (by omega)⟩, fun t ht => he' t (by omega)⟩
                      have HRM2 : Hid (RdM wr wB.heap.size (.slice (some ⟨g9, 0, none⟩) D cap9) D (fun t => n (nthN n k t)) (fun t => f (nthN n k t))) := rM
                      have HLN : Hid (∀ t, t < D → n (nthN n k t) = N) := fun t ht => by
                        have := HEV.out t (by have := HCK.out; omega)
                        show n (nthN n k t) = N
                        rw [HN.out]
                        exact this
                      have hN9 : N ≤ 1000000000 := by omega
                      clear rI rM CW hcnt hb hBr hbx hBO hnn d0 f0 tpr
                      go_wp2
                      go_region_law (first | (refine step_call rfl 45 _ _ rfl #[.int .i64 D, .slice (some ⟨g8, 0, none⟩) D cap8, .int .i64 p, .int .i64 8] ?_ Try.func45 (by kernel_rfl) (by kernel_rfl) (HCW.out _) ?_; (simp [Act.eval, Act.put]); rintro ee w5 ⟨v5, rfl, o5, b5⟩; obtain ⟨ao5, cap5, rfl⟩ := o5.slice; replace b5 : Below wr.heap.size wr w5 := ⟨b5.os, b5.tape, b5.output, b5.size, b5.block⟩; have X5 : Box w5 w2.heap.size #[.int .i64 0, .slice aou p capu] 36 := HBX.out.below b5 zr; have q1 := (res_cells X5).2.1; refine ⟨_, rfl, ?_⟩) | (refine step_call rfl 44 _ _ rfl #[.slice (some ⟨g9, 0, none⟩) D cap9, .slice ao5 D cap5] ?_ Try.func44 (by kernel_rfl) (by kernel_rfl) (l1Mix_any _ _ D N (fun t => n (nthN n k t)) (fun t => f (nthN n k t)) (weightsN D 8 (nthN n k) p) wB.heap.size w5.heap.size w5 (HRM2.out.below b5 (by omega)) o5.rd (by have := b5.size; omega) (Nat.le_refl _) (by omega) HLN.out hN9 (fun i j => kf _ _) (weightsN_lt D 8 (nthN n k) p)) ?_; (simp [Act.eval, Act.put]); rintro ee w6 ⟨v6, rfl, o6, b6⟩; obtain ⟨ao6, cap6, rfl⟩ := o6.slice; have b56 : Below wr.heap.size wr w6 := b5.trans (b6.mono b5.size); have X6 : Box w6 w2.heap.size #[.int .i64 0, .slice aou p capu] 36 := HBX.out.below b56 zr; have q2 := (res_cells X6).2.1; have q3 := (cell_alloc_old w6 (.cells #[.slice ao6 N cap6] 23) w2.heap.size 1 (by have := b56.size; omega)).trans q2; refine ⟨_, rfl, ?_⟩) | (refine step_appendM rfl (.tmp 78) (.tmp 89) rfl (w2.heap.size + 1) (.slice aou p capu) p e2 ?_ ?_ w6.heap.size 1 (.slice ao6 N cap6) ?_ ?_ rfl (by omega) ?_ ?_; (simp [Act.eval, Act.put]); exact (row_kept HBO.out.row fun b hb' => b56.block b (HBO.out.row.lt b hb').2).alloc _; (simp [Act.eval, Act.put]); simp; (simp; have := b56.size; omega); intro v4 w4 hr4 hg4 hn4; obtain ⟨ao4, cap4, rfl⟩ := row_slice hr4; have X7 : Box w4 w2.heap.size #[.int .i64 0, .slice aou p capu] 36 := (hg4.block w2.heap.size (by simp; have := b56.size; omega) (fun hhh => by have := (HBO.out.row.lt _ hhh.symm).1; omega)).trans ((Below.heap_alloc w6 _ w2.heap.size (by have := b56.size; omega)).trans X6); have p1 := (res_cells X7).2.1; have p2 := (res_cells X7).2.2.2))
                      all_goals
                        have s5 := b56.size
                        have s7 : w6.heap.size + 1 ≤ w4.heap.size := by have := hg4.size; simpa using this
                        have NX := (HBO.out.kept (w2 := w6) (fun q _ h2 => b56.block q h2) s5).next (n' := fun _ => N) (f' := colN D n k f) o6 b5.size (fun _ _ => rfl) (fun _ _ => rfl) hr4 hg4
                        have zs : (w4.setCell ⟨w2.heap.size, 1, none⟩ (.slice ao4 (p + 1) cap4)).heap.size = w4.heap.size := by simp
                        have NX2 := NX.kept (w2 := w4.setCell ⟨w2.heap.size, 1, none⟩ (.slice ao4 (p + 1) cap4)) (fun q h1 _ => heap_setCell_other w4 ⟨w2.heap.size, 1, none⟩ q _ (by show q ≠ w2.heap.size; omega)) (Nat.le_of_eq zs.symm)
                        rw [← zs] at NX2
                        have BX : Box (w4.setCell ⟨w2.heap.size, 1, none⟩ (.slice ao4 (p + 1) cap4)) w2.heap.size #[.int .i64 0, .slice ao4 (p + 1) cap4] 36 := heap_setCell_same w4 w2.heap.size 1 _ _ _ X7
                        have BE : Below w2.heap.size w2 (w4.setCell ⟨w2.heap.size, 1, none⟩ (.slice ao4 (p + 1) cap4)) := ((HBE.out.trans (b56.mono (by omega))).trans (((Below.refl w2.heap.size w6).alloc (by omega) _).grown hg4 (by simp; omega) (fun q hq => by have := (HBO.out.row.lt q hq).1; omega))).setCell (Nat.le_refl _) _
                        clear NX X7 X6 X5 hr4 hg4 o5 o6 b5 b6 b56 p1 p2 q1 q2 q3 HCW HBO HBX HBE d1 f1 zs
                        go_wp2
                        go_roundw
                        case rel => exact ⟨p + 1, by omega, by go_num, _, _, BX, NX2, fun _ => hn4, BE⟩
                        case measure => simp [intOf]; omega
                    · obtain rfl : p = k := by omega
                      have tlt : decide ((p : Int) < (D : Int) + (S : Int)) = false := by simp only [decide_eq_false_iff_not]; have := HLEN.out; omega
                      obtain ⟨g7, c7, hE7⟩ := HBO.out.done (HNN.out (by omega))
                      have HE7 : Hid (OwnE wr (w2.heap.size + 1) wr.heap.size (.slice aou p capu) p (fun _ => N) (colN D n p f) g7 c7 e2) := hE7
                      have XR : Box wr w.heap.size #[.int .i64 0, .slice none 0 0] 36 := HX2.out.below hb z2
                      have hB : Below w.heap.size w wr := HB22.out.trans (hb.mono (by omega))
                      obtain ⟨x0, x1, y0, y1⟩ := res_cells XR
                      clear hE7 hBO hbx hnn hb XR HBO HBX HBE hBr tpr
                      go_wp2
                      refine bodyPost_ret (v := bytesR 0 (.slice aou p capu)) (by simp [results, Try.results16, go_sem, bytesR, x0, x1]) rfl ⟨0, _, rfl, .inr (.inr (.inr (.inr (.inr ⟨rfl, HSH.out, HLEN.out, HEV.out, HNB.out, HGE.out⟩)))), ?_, (hB.setCell (Nat.le_refl _) _).setCell (Nat.le_refl _) _⟩
                      have o1 := out_store wr w.heap.size (w.heap.size + 1) w.heap.size 0 (.int .i64 0) (Nat.le_refl _) (by omega)
                      have o2 := out_store (wr.setCell ⟨w.heap.size, 0, none⟩ (.int .i64 0)) w.heap.size (w.heap.size + 1) w.heap.size 1 (.slice aou p capu) (Nat.le_refl _) (by omega)
                      simp only [if_pos]
                      rw [Int.toNat_natCast, ← HN.out]
                      have OM : OwnM wr (w2.heap.size + 1) wr.heap.size (.slice aou p capu) p (fun _ => N) (colN D n p f) := ⟨_, _, _, HE7.out⟩
                      exact .inr ((OM.out (o1.trans o2) (.inr (by omega))).weaken (by omega) (by rw [(o1.trans o2).size]; exact Nat.le_refl _))
    · have tl : ((R : Int) != (D : Int) + (S : Int)) = true := by simp [hlen]
      have HLEN : Hid ((R : Int) ≠ (D : Int) + (S : Int)) := hlen
      clear hlen
      go_wp2
      exact bodyPost_ret (v := bytesR 1 (.slice none 0 0)) (by simp [results, Try.results16, go_sem, bytesR, x0, x1]) rfl ⟨1, _, rfl, .inr (.inl ⟨rfl, HSH.out, HLEN.out⟩), OwnB.none _ _ _ _ _, (B1.setCell (Nat.le_refl _) _).setCell (Nat.le_refl _) _⟩
end Go.Proofs.Ytoadjpacchhleaj
