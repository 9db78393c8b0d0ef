/- The specification's counted records: each laid into its place, if it is not there. -/
import Derived.Test.YtcdnhhdknkhnkaaGreatZPmissian
import Derived.Test.YtcdnhhdknkhnkaaGreatZPmissias
import Derived.Deep.DeepCutAuto
import Derived.Test.YtcdnhhdknkhnkaaGreatZPmissiaq
import Derived.Test.YtcdnhhdknkhnkaaGreatZPmissiao
import Derived.Test.YtcdnhhdknkhnkaaGreatZPmissiar
set_option linter.unusedVariables false
set_option linter.unusedSimpArgs false
namespace Go.Proofs.YtcdnhhdknkhnkaaGreat
open Go.RowKit F256
theorem recT_at (tp : Nat → TapeD) {T i : Nat} (hT : T < 2) (hi : i < (tp T).recs.1) : recT tp 2 (lenT tp T + i) = (tp T).recs.2 i := by
  have : T = 0 ∨ T = 1 := by omega
  rcases this with rfl | rfl
  · have h1 : recT tp 2 (lenT tp 0 + i) = recT tp 1 (lenT tp 0 + i) := cat2_lt _ _ (by show lenT tp 0 + i < lenT tp 0 + (tp 0).recs.1; omega)
    rw [h1]
    exact cat2_ge _ _ _ _
  · exact cat2_ge _ _ _ _
theorem wrapPred {k : Nat} (h : k + 1 < 1000000000) : IntKind.i64.wrap (((k + 1 : Nat) : Int) - 1) = (k : Int) := by rw [IntKind.wrap_i64]; omega
set_option maxHeartbeats 8000000 in
set_option maxRecDepth 100000 in
theorem l6Counted_any (d : WorldD) (cs : List Value) (hi B : Nat) (w : World) (h : layWorld.rd w hi d cs) (hhi : hi ≤ w.heap.size) (hBX : Box w B cs.toArray 38) (h2 : d.tapes.1 = 2) (hn0 : (d.tapes.2 0).recs.1 ≤ 400000) (hn1 : (d.tapes.2 1).recs.1 ≤ 400000) :
    Calls Tryz.prog 25 #[.pointer (some ⟨B, 0, none⟩)] w (fun e w' => ∃ v' l ce lo, e = .returned v' ∧ Cnt (recT d.tapes.2 2) (lenT d.tapes.2 2) l ∧ w.heap.size ≤ lo ∧ View layRec 92 w' lo hi v' l.length (fun i => recT d.tapes.2 2 (l.getD i 0)) ce ∧ Below w.heap.size w w') := by
  obtain ⟨ao1, cap1, ao2, cap2, ao3, cap3, rfl, g1, g2, g3, k0, k4, k5⟩ := World_rd h
  obtain ⟨ao3', cap3', e, hmm, hc⟩ := g3
  simp only [List.cons.injEq, Value.slice.injEq, true_and, and_true] at e
  obtain ⟨rfl, rfl⟩ := e
  obtain ⟨tb, toff, rfl, hbh, hel⟩ := hc (by rw [h2]; simp)
  rw [h2] at hel
  have HEL : Hid (∀ i, i < 2 → ∃ ce, layTape.rd w hi (d.tapes.2 i) ce ∧ ∀ j, j < layTape.sz → w.cell? ⟨tb, toff + (i * layTape.sz + j), none⟩ = ce[j]?) := hel
  have hBlt := hBX.lt
  have HBX : Hid (w.cell? ⟨B, 11, none⟩ = some (.slice (some ⟨tb, toff, none⟩) 2 cap3)) := by have := hBX.cell 11; rw [h2] at this; exact this
  obtain ⟨tp, htp⟩ : ∃ t, t = d.tapes.2 := ⟨_, rfl⟩
  rw [← htp] at HEL hn0 hn1 ⊢
  clear h hc hmm g1 g2 k0 k4 k5 hel h2 hBX htp
  obtain ⟨x0, hx0⟩ : ∃ x, x = recT tp 2 := ⟨_, rfl⟩
  have HX0 : Hid (x0 = recT tp 2) := hx0
  rw [← hx0]
  clear hx0
  have bL : Below w.heap.size w (w.alloc (.cells #[] 92)) := (Below.refl _ _).alloc (Nat.le_refl _) _
  have V0 := View.lit0 (E := layRec) (t := 92) (fun i => x0 (([] : List Nat).getD i 0)) (fun _ => []) w hi
  have HL : Hid (lenT tp 0 = 0 ∧ lenT tp 1 = (tp 0).recs.1 ∧ lenT tp 2 = (tp 0).recs.1 + (tp 1).recs.1) := ⟨rfl, by simp [lenT], by simp [lenT]⟩
  go_enter Tryz.func25, Tryz.ntmps25
  go_wp2
  go_loopw [3, 4] (fun vo vt wr => ∃ (T lo : Nat) (l : List Nat) (co : Nat → List Value), T ≤ 2 ∧ vt = .int .i64 T ∧ w.heap.size ≤ lo ∧ lo ≤ wr.heap.size ∧ Cnt x0 (lenT tp T) l ∧ l.length ≤ lenT tp T ∧ View layRec 92 wr lo hi vo l.length (fun i => x0 (l.getD i 0)) co ∧ Below w.heap.size w wr) (fun _ i _ => 2 - (intOf i).toNat)
  case atStart => exact ⟨0, w.heap.size, [], fun _ => [], by omega, rfl, Nat.le_refl _, bL.size, Cnt.nil x0, Nat.zero_le _, V0, bL⟩
  case round =>
    obtain ⟨T, lo, l, co, hT, rfl, hlo, hlow, hCt, hLl, V, bw⟩ := hrel
    have HCt : Hid (Cnt x0 (lenT tp T) l) := hCt
    have HV : Hid (View layRec 92 wr lo hi u3 l.length (fun i => x0 (l.getD i 0)) co) := V
    have HBW : Hid (Below w.heap.size w wr) := bw
    clear bL V0 hCt
    by_cases hlt : T < 2
    · obtain ⟨m, hm⟩ : ∃ m, m = (tp T).recs.1 := ⟨_, rfl⟩
      have HM : Hid (m = (tp T).recs.1) := hm
      have hmb : m ≤ 400000 ∧ lenT tp T ≤ 400000 := by
        have : T = 0 ∨ T = 1 := by omega
        have h3 := HL.out
        rcases this with rfl | rfl <;> omega
      have HLS : Hid (lenT tp (T + 1) = lenT tp T + m) := by rw [hm]; exact rfl
      have HW0 : Hid (∀ w', Below w.heap.size w w' → ∃ rb cap1, w'.cell? ⟨tb, toff + T * 2 + 1, none⟩ = some (.slice rb m cap1) ∧ (layRec.slice 92).rd w' hi (m, (tp T).recs.2) [.slice rb m cap1]) := fun w' hb => by
        obtain ⟨ct, hy, hcell⟩ := elem_rd (t := 88) HEL.out hb hhi hbh hlt
        obtain ⟨aoT, capT, rfl, hrs⟩ := Tape_rd hy
        exact ⟨aoT, capT, by have := hcell 1 (by decide); rw [hm]; exact this, by rw [hm]; exact hrs⟩
      obtain ⟨L0, hL0⟩ : ∃ n, n = lenT tp T := ⟨_, rfl⟩
      have HL0 : Hid (L0 = lenT tp T) := hL0
      rw [← hL0] at HCt hLl HLS hmb
      have t1 : (T : Int) < 2 := by omega
      have t0 : (0 : Int) ≤ (T : Int) := by omega
      clear hm bw V hL0 HEL
      go_wp2
      go_loopw [3, 5] (fun vo vi wr => ∃ (i lo : Nat) (l : List Nat) (co : Nat → List Value), i ≤ m ∧ vi = .int .i64 i ∧ w.heap.size ≤ lo ∧ lo ≤ wr.heap.size ∧ Cnt x0 (L0 + i) l ∧ l.length ≤ L0 + i ∧ View layRec 92 wr lo hi vo l.length (fun i => x0 (l.getD i 0)) co ∧ Below w.heap.size w wr) (fun _ i _ => m - (intOf i).toNat)
      case atStart => exact ⟨0, lo, l, co, Nat.zero_le _, rfl, hlo, hlow, HCt.out, hLl, HV.out, HBW.out⟩
      case round =>
        clear HCt HV HBW hLl hlow hlo co lo l
        obtain ⟨i, lo, l, co, hi', rfl, hlo, hlow, hCt, hLl, V, bw⟩ := hrel
        obtain ⟨wi, rfl⟩ : ∃ y, y = wr := ⟨_, rfl⟩
        obtain ⟨n, hn⟩ : ∃ n, n = l.length := ⟨_, rfl⟩
        have HN : Hid (n = l.length) := hn
        rw [← hn] at V hLl
        have HCt : Hid (Cnt x0 (L0 + i) l) := hCt
        obtain ⟨ao, cap, hvo⟩ := V.form
        subst hvo
        have HV : Hid (View layRec 92 wi lo hi (.slice ao n cap) n (fun i => x0 (l.getD i 0)) co) := V
        have HBW : Hid (Below w.heap.size w wi) := bw
        have zr : w.heap.size ≤ wi.heap.size := bw.size
        have xB : wi.cell? ⟨B, 11, none⟩ = some (.slice (some ⟨tb, toff, none⟩) 2 cap3) := (bw.cell (p := ⟨B, 11, none⟩) hBlt).trans HBX.out
        obtain ⟨rb, capT, xT, hrs⟩ := HW0.out wi bw
        clear hCt hn V bw
        by_cases hlt2 : i < m
        · obtain ⟨cy, hS, -⟩ := src_of hrs
          obtain ⟨b, off, hrb, hcell⟩ := hS.1 (by omega)
          subst hrb
          have rdR := hS.2 i hlt2
          have hcR : (cy i).length = 9 := layRec.rd_len rdR
          have rgR : wi.rangeAt b (off + i * 9) (cy i) := fun j v hv => by
            have hj : j < 9 := by rw [← hcR]; exact (List.getElem?_eq_some_iff.1 hv).1
            have := hcell i hlt2 j hj
            rw [show off + (i * layRec.sz + j) = off + i * 9 + j from (Nat.add_assoc _ _ _).symm] at this
            exact this.trans hv
          obtain ⟨cR, hcRe⟩ : ∃ c, c = cy i := ⟨_, rfl⟩
          rw [← hcRe] at rgR hcR rdR
          have hxr : (tp T).recs.2 i = x0 (L0 + i) := by rw [HX0.out, HL0.out]; exact (recT_at tp hlt (by rw [← HM.out]; exact hlt2)).symm
          rw [hxr] at rdR
          obtain ⟨M, hM⟩ : ∃ M, M = L0 + i := ⟨_, rfl⟩
          have HMM : Hid (M = L0 + i) := hM
          rw [← hM] at rdR HCt
          have oneR : ∀ v, v ∈ cR → v.oneCell' = true := rdOne_rec _ _ _ _ rdR
          have i1 : (0 : Int) ≤ (i : Int) := by omega
          have i2 : (i : Int) < (m : Int) := by omega
          have bA : Below wi.heap.size wi (wi.alloc (.cells cR.toArray 92)) := (Below.refl _ _).alloc (Nat.le_refl _) _
          have XA : Box (wi.alloc (.cells cR.toArray 92)) wi.heap.size cR.toArray 92 := box_new _ _ _
          have rdW : layRec.rd (wi.alloc (.cells cR.toArray 92)) hi (x0 M) cR := layRec.rd_below rdR bA (by omega)
          clear hrs hS hcell hcRe hxr rdR hM
          go_upto_region 9 with (first | (refine wpList_load_mid rfl 92 (.tmp 35) rfl b (off + i * 9) (by simp [Act.eval]) cR _ rgR Tryz.underlying92 rfl (info_Rec9 hcR) ?_) | (refine wp_allocStore 92 6 (.tmp 36) cR _ 9 rfl rfl rfl rfl rfl rfl rfl rfl info_RecZ rfl hcR oneR ?_))
          obtain ⟨W, hW⟩ : ∃ x, x = wi.alloc (.cells cR.toArray 92) := ⟨_, rfl⟩
          rw [← hW] at bA XA rdW ⊢
          clear hW rgR xB xT
          have VW := HV.out.below bA (by omega)
          have zW' : wi.heap.size < W.heap.size := XA.lt
          have CH := l6Holds_any (.slice ao n cap) n (fun i => x0 (l.getD i 0)) (x0 M) cR W.heap.size W (VW.rd (by omega)) (layRec.rd_mono rdW (by omega)) (Nat.le_refl _) (by omega)
          have HXW : Hid (Box W wi.heap.size cR.toArray 92) := XA
          have HVW : Hid (View layRec 92 W lo hi (.slice ao n cap) n (fun i => x0 (l.getD i 0)) co) := VW
          have HRW : Hid (layRec.rd W hi (x0 M) cR) := rdW
          have HBW2 : Hid (Below w.heap.size w W) := HBW.out.trans (bA.mono zr)
          clear VW XA rdW bA HV HBW
          go_wp2_with (refine wp_loadBox 92 (.tmp 6) rfl rfl (wi.heap.size) rfl (cs := cR) HXW.out Tryz.underlying92 size_Rec hcR ?_)
          refine CH.mono ?_
          rintro ee w5 ⟨t, rfl, ht, b5⟩
          have z5 : W.heap.size ≤ w5.heap.size := b5.size
          have HV5 : Hid (View layRec 92 w5 lo hi (.slice ao n cap) n (fun i => x0 (l.getD i 0)) co) := HVW.out.below b5 (by omega)
          have HX5 : Hid (Box w5 wi.heap.size cR.toArray 92) := HXW.out.below b5 zW'
          have HR5 : Hid (layRec.rd w5 hi (x0 M) cR) := layRec.rd_below HRW.out b5 (by omega)
          have HB5 : Hid (Below w.heap.size w w5) := HBW2.out.trans (b5.mono (by omega))
          have HT : Hid (t = true ↔ ¬ Fst x0 M) := by
            show t = true ↔ ¬ Fst x0 M
            rw [ht, ← HCt.out.has, HN.out]
            have := (mem_drop_getD (l := l) (al := 0) (P := fun o => SameR (x0 o) (x0 M))).symm
            simpa using this
          clear ht b5 CH HVW HXW HRW HBW2
          cases t with
          | true =>
            go_wp2
            go_roundw
            case rel => exact ⟨i + 1, lo, l, co, by omega, by go_num, hlo, by omega, by rw [← Nat.add_assoc, ← HMM.out]; exact HCt.out.skip (HT.out.1 (by simp)), by rw [← HN.out]; omega, by rw [← HN.out]; exact HV5.out, HB5.out⟩
            case measure => simp [intOf]; omega
          | false =>
            have HF : Hid (Fst x0 M) := Classical.byContradiction fun h => absurd (HT.out.2 h) (by simp)
            clear HT
            go_wp2
            go_loopw [7] (fun va wx => ∃ at_ : Nat, at_ ≤ n ∧ va = .int .i64 at_ ∧ (∀ k, at_ ≤ k → k < n → numC (x0 M) (x0 (l.getD k 0)) < 0) ∧ Below w5.heap.size w5 wx) (fun va _ => (intOf va).toNat)
            case atStart => exact ⟨n, Nat.le_refl _, by go_num, fun k h1 h2 => by omega, Below.refl _ _⟩
            case round =>
              obtain ⟨at_, hat, rfl, hbeh, bx⟩ := hrel
              obtain ⟨wx, rfl⟩ : ∃ y, y = wr := ⟨_, rfl⟩
              have HBE : Hid (∀ k, at_ ≤ k → k < n → numC (x0 M) (x0 (l.getD k 0)) < 0) := hbeh
              have zx : w5.heap.size ≤ wx.heap.size := bx.size
              have HVx : Hid (View layRec 92 wx lo hi (.slice ao n cap) n (fun i => x0 (l.getD i 0)) co) := HV5.out.below bx (by omega)
              have HXx : Hid (Box wx wi.heap.size cR.toArray 92) := HX5.out.below bx (by omega)
              have HRx : Hid (layRec.rd wx hi (x0 M) cR) := layRec.rd_below HR5.out bx (by omega)
              have HBx : Hid (Below w.heap.size w wx) := HB5.out.trans (bx.mono (by omega))
              have HB5x : Hid (Below w5.heap.size w5 wx) := bx
              have bD : Below wx.heap.size wx wx.drew := ⟨rfl, rfl, rfl, Nat.le_refl _, fun _ _ => rfl⟩
              clear hbeh bx
              by_cases hat0 : at_ = 0
              · have d1 : decide (0 < at_) = false := decide_eq_false (by omega)
                have d2 : decide ((0 : Int) < (at_ : Int)) = false := decide_eq_false (by omega)
                have HS : Hid (at_ = 0 ∨ ¬ numC (x0 M) (x0 (l.getD (at_ - 1) 0)) < 0) := .inl hat0
                clear hat0
                go_upto_region 11 with fail
                refine wp_region_M 9 (fun w' => True) mixedO trivial (fun hHeld => ?_)
                refine wpAnyM_pure (i := 0) (oi := _) (v := ?_) rfl (by kernel_rfl) (fun _ _ _ h => h) (Or.inl ⟨by kernel_rfl, ?_⟩) (by assumption) ?_
                rotate_left
                · intro w' hSw; go_simp; try with_reducible rfl
                try simp only [Act.put, SL]
                refine wpAnyM_pure (i := 1) (oi := _) (v := ?_) rfl (by kernel_rfl) (fun _ _ _ h => h) (Or.inl ⟨by kernel_rfl, ?_⟩) (by assumption) ?_
                rotate_left
                · intro w' hSw; go_simp; try with_reducible rfl
                try simp only [Act.put, SL]
                try rw [d1]
                refine wpAnyM_pure (i := 2) (oi := _) (v := ?_) rfl (by kernel_rfl) (fun _ _ _ h => h) (Or.inl ⟨by kernel_rfl, ?_⟩) (by assumption) ?_
                rotate_left
                · intro w' hSw; go_simp; try with_reducible rfl
                try simp only [Act.put, SL]
                refine wpAnyM_pure (i := 3) (oi := _) (v := undef) rfl (by kernel_rfl) (fun _ _ _ h => h) (Or.inr ⟨by kernel_rfl, rfl⟩) (by assumption) ?_
                try simp only [Act.put, SL]
                refine wpAnyM_pure (i := 4) (oi := _) (v := undef) rfl (by kernel_rfl) (fun _ _ _ h => h) (Or.inr ⟨by kernel_rfl, rfl⟩) (by assumption) ?_
                try simp only [Act.put, SL]
                refine wpAnyM_pure (i := 5) (oi := _) (v := undef) rfl (by kernel_rfl) (fun _ _ _ h => h) (Or.inr ⟨by kernel_rfl, rfl⟩) (by assumption) ?_
                try simp only [Act.put, SL]
                refine wpAnyM_pure (i := 6) (oi := _) (v := undef) rfl (by kernel_rfl) (fun _ _ _ h => h) (Or.inr ⟨by kernel_rfl, rfl⟩) (by assumption) ?_
                try simp only [Act.put, SL]
                refine wpAnyM_pure (i := 7) (oi := _) (v := undef) rfl (by kernel_rfl) (fun _ _ _ h => h) (Or.inr ⟨by kernel_rfl, rfl⟩) (by assumption) ?_
                try simp only [Act.put, SL]
                refine wpAnyM_pure (i := 8) (oi := _) (v := undef) rfl (by kernel_rfl) (fun _ _ _ h => h) (Or.inr ⟨by kernel_rfl, rfl⟩) (by assumption) ?_
                try simp only [Act.put, SL]
                refine wpAnyM_one (i := 9) (o := _) rfl (by kernel_rfl) (by kernel_rfl) (fun KC hKC => ?_)
                refine if_no (by kernel_rfl) (hKC _ _ ?_)
                clear hKC KC
                try simp only [Act.put, SL]
                refine wpAnyM_pureL (i := 10) (oi := _) (v := ?_) rfl (by kernel_rfl) (fun _ _ _ h => h) (Or.inl ⟨by kernel_rfl, ?_⟩) ?_
                rotate_left
                · intro w' hSw; go_simp; try with_reducible rfl
                try simp only [Act.put, SL]
                refine wpAnyM_done (by kernel_rfl) ?_ _
                obtain ⟨w9, hw9⟩ : ∃ x, x = wx.drew := ⟨_, rfl⟩
                rw [← hw9] at bD ⊢
                have b9 : Below wx.heap.size wx w9 := bD
                clear bD hw9 hHeld d1 d2
                have z9 : wx.heap.size ≤ w9.heap.size := b9.size
                have V9 := (HVx.out.below b9 (by omega)).drew
                have b9' : Below wx.heap.size wx w9.drew := b9.trans (show Below wx.heap.size w9 w9.drew from ⟨rfl, rfl, rfl, Nat.le_refl _, fun _ _ => rfl⟩)
                have X9 : Box w9.drew wi.heap.size cR.toArray 92 := HXx.out.below b9' (by omega)
                have R9 : layRec.rd w9.drew hi (x0 M) cR := layRec.rd_below HRx.out b9' (by omega)
                have B9 : Below w.heap.size w w9.drew := HBx.out.trans (b9'.mono (by omega))
                have rg9 : w9.drew.rangeAt wi.heap.size 0 cR := fun j v hv => by
                  have := (X9.cell j).trans (by simpa using hv)
                  rw [Nat.zero_add]
                  exact this
                obtain ⟨D, hD⟩ : ∃ D, D = w9.drew := ⟨_, rfl⟩
                have HD : Hid (D = w9.drew) := hD
                rw [← hD] at V9 X9 R9 B9 rg9
                have zD : w9.heap.size = D.heap.size := by rw [hD]; rfl
                clear hD b9 b9'
                obtain ⟨aU, cU, hUr, sU, hUz⟩ := V9.upto_ (show hi ≤ D.heap.size by omega) (al := at_) hat
                obtain ⟨aF, cF, hFr, sF, rF, hFz⟩ := V9.from_ (show hi ≤ D.heap.size by omega) (al := at_) hat
                have hAU : ∀ b off, aU = some ⟨b, off, none⟩ → b < D.heap.size := fun b off e => by
                  rcases V9.form2 with ⟨e3, e4⟩ | ⟨g, cp, e3, e4, hg⟩
                  · have hz : at_ = 0 := by omega
                    have := hUr D
                    rw [e3, hz, run_upto0 D] at this
                    simp only [Result.ok.injEq, Value.slice.injEq, and_true] at this
                    rw [← this.1] at e
                    cases e
                  · have := hUr D
                    rw [e3, run_upto9 g n cp at_ hat e4 D] at this
                    simp only [Result.ok.injEq, Value.slice.injEq, and_true] at this
                    rw [← this.1] at e
                    cases e
                    exact hg
                have hAF : ∀ b off, aF = some ⟨b, off, none⟩ → b < D.heap.size := fun b off e => by
                  rcases V9.form2 with ⟨e3, e4⟩ | ⟨g, cp, e3, e4, hg⟩
                  · have hz : at_ = 0 := by omega
                    have := hFr D
                    rw [e3, hz, run_from0 D] at this
                    simp only [Result.ok.injEq, Value.slice.injEq, and_true] at this
                    rw [← this.1] at e
                    cases e
                  · have := hFr D
                    rw [e3, run_from9 g n cp at_ hat D] at this
                    simp only [Result.ok.injEq, Value.slice.injEq, and_true] at this
                    rw [← this.1] at e
                    split at e <;> cases e <;> exact hg
                have hiD : hi ≤ D.heap.size := by omega
                have hpD : wi.heap.size < D.heap.size := X9.lt
                have hatL : at_ ≤ l.length := by rw [← HN.out]; exact hat
                have HCN : Hid (Cnt x0 (M + 1) (l.take at_ ++ M :: l.drop at_)) := HCt.out.ins HF.out at_ hatL (fun k h1 h2 => HBE.out k h1 (by rw [HN.out]; exact h2)) HS.out
                have HRd : Hid (layRec.rd D hi (x0 M) cR) := R9
                have HBD : Hid (Below w.heap.size w D) := B9
                have HUS : Hid (Src layRec D hi aU at_ (fun i => x0 (l.getD i 0)) co) := sU
                have HFS : Hid (Src layRec D hi aF (n - at_) (fun j => x0 (l.getD (at_ + j) 0)) (fun j => co (at_ + j))) := sF
                clear V9 X9 R9 B9 sU sF rF
                go_upto_region 13 with fail
                refine wp_region_M 7 (fun w' => w'.rangeAt wi.heap.size 0 cR) mixedO (by rw [← HD.out]; exact rg9) (fun hHeld => ?_)
                rw [← HD.out] at hHeld ⊢
                refine wpAnyM_pure (i := 1) (oi := _) (v := ?_) rfl (by kernel_rfl) (fun _ _ _ h => h) (Or.inl ⟨by kernel_rfl, ?_⟩) (by assumption) ?_
                rotate_left
                · intro w' hSw; go_simp; try with_reducible rfl
                try simp only [Act.put, SL]
                refine wpAnyM_pure (i := 2) (oi := _) (v := ?_) rfl (by kernel_rfl) (fun _ _ _ h => h) (Or.inl ⟨by kernel_rfl, ?_⟩) (by assumption) ?_
                rotate_left
                · intro w' hSw; go_simp; try with_reducible rfl
                try simp only [Act.put, SL]
                refine wpAnyM_pure (i := 3) (oi := _) (v := ?_) rfl (by kernel_rfl) (fun _ _ _ h => h) (Or.inl ⟨by kernel_rfl, ?_⟩) (by assumption) ?_
                rotate_left
                · intro w' hSw
                  try rw [show (Instr.slice 30 (.slice ao n cap) none (some (.int .i64 (at_ : Int))) none).run Tryz.prog w' = _ from hUr w']
                  have hSl' := hUr w'
                  go_simp
                  try with_reducible rfl
                try simp only [Act.put, SL]
                refine wpAnyM_take (i := 5) (oi := _) (v := .agg cR.toArray) 16 rfl (by kernel_rfl) (fun _ _ _ h => h) (yieldsIf_load_mid (by kernel_rfl) 92 (.tmp 6) rfl wi.heap.size (0) (by simp [Act.eval, Act.put]) cR _ (fun w h => h) Tryz.underlying92 rfl (info_Rec9 hcR)) (by assumption) ?_
                try simp only [Act.put, SL]
                refine wpAnyM_pure (i := 8) (oi := _) (v := ?_) rfl (by kernel_rfl) (fun _ _ _ h => h) (Or.inl ⟨by kernel_rfl, ?_⟩) (by assumption) ?_
                rotate_left
                · intro w' hSw; go_simp; try with_reducible rfl
                try simp only [Act.put, SL]
                refine wpAnyM_pure (i := 9) (oi := _) (v := ?_) rfl (by kernel_rfl) (fun _ _ _ h => h) (Or.inl ⟨by kernel_rfl, ?_⟩) (by assumption) ?_
                rotate_left
                · intro w' hSw; go_simp; try with_reducible rfl
                try simp only [Act.put, SL]
                refine wpAnyM_pure (i := 10) (oi := _) (v := ?_) rfl (by kernel_rfl) (fun _ _ _ h => h) (Or.inl ⟨by kernel_rfl, ?_⟩) (by assumption) ?_
                rotate_left
                · intro w' hSw
                  try rw [show (Instr.slice 30 (.slice ao n cap) (some (.int .i64 (at_ : Int))) none none).run Tryz.prog w' = _ from hFr w']
                  have hSl' := hFr w'
                  go_simp
                  try with_reducible rfl
                try simp only [Act.put, SL]
                refine wpAnyM_twoS (i := 0) (j := 6) (o := _) (o' := _) rfl rfl (by kernel_rfl) (fun KC hKC => ?_) (fun KC hKC => ?_)
                · refine step_build0 rfl rfl ?_
                  have bA : Below D.heap.size D (D.alloc (.cells #[] 92)) := (Below.refl _ _).alloc (Nat.le_refl _) _
                  refine hKC _ _ (range_below rg9 bA hpD) ?_
                  clear hKC KC
                  try simp only [Act.put, SL]
                  have VL := View.lit0 (E := layRec) (t := 92) (fun i => x0 (l.getD i 0)) co D hi
                  have zA1 : D.heap.size < (D.alloc (.cells #[] 92)).heap.size := (box_new D #[] 92).lt
                  obtain ⟨D1, hD1⟩ : ∃ x, x = D.alloc (.cells #[] 92) := ⟨_, rfl⟩
                  rw [← hD1] at bA VL zA1 ⊢
                  clear hD1
                  refine wpAnyM_twoS (i := 4) (j := 6) (o := _) (o' := _) rfl rfl (by kernel_rfl) (fun KC hKC => ?_) (fun KC hKC => ?_)
                  · skip
                    obtain ⟨v4, w4, cv4, runv4, V4, bw4⟩ := ins_up (lo := lo) HUS.out hUz hAU bA hiD (by omega) VL
                    refine step_run2 rfl (.tmp 55) (.tmp 58) rfl (by simp [Act.eval, Act.put]) (by simp [Act.eval, Act.put]) runv4 ?_
                    have b4D := bA.trans bw4
                    refine hKC _ _ (range_below rg9 b4D hpD) ?_
                    clear hKC KC
                    try simp only [Act.put, SL]
                    refine wpAnyM_oneS (i := 6) (o := _) rfl (by kernel_rfl) (fun KC hKC => ?_)
                    refine step_build1R rfl (.tmp 60) rfl HRd.out (by simp [Act.eval, Act.put]) ?_
                    have b6 : Below w4.heap.size w4 (w4.alloc (.cells cR.toArray 92)) := (Below.refl _ _).alloc (Nat.le_refl _) _
                    have b6D := b4D.trans (b6.mono b4D.size)
                    refine hKC _ _ (range_below rg9 b6D hpD) ?_
                    clear hKC KC
                    try simp only [Act.put, SL]
                    have V6 := V4.below b6 (by have := b4D.size; omega)
                    have X6 : Box (w4.alloc (.cells cR.toArray 92)) w4.heap.size cR.toArray 92 := box_new _ _ _
                    obtain ⟨v7, w7, cv7, runv7, V7, bw7⟩ := ins_one b6D hiD (by omega) V6 X6 (layRec.rd_below HRd.out b6D hiD)
                    refine wpAnyM_one (i := 7) (o := _) rfl (by kernel_rfl) (by kernel_rfl) (fun KC hKC => ?_)
                    refine step_run2 rfl (.tmp 59) (.tmp 61) rfl (by simp [Act.eval, Act.put]) (by simp [Act.eval, Act.put]) runv7 ?_
                    refine hKC _ _ ?_
                    clear hKC KC
                    try simp only [Act.put, SL]
                    have b7D := b6D.trans bw7
                    obtain ⟨v8, w8, cv8, runv8, V8, bw8⟩ := ins_rest HFS.out hFz hAF b7D hiD (by omega) V7
                    refine wpAnyM_one (i := 11) (o := _) rfl (by kernel_rfl) (by kernel_rfl) (fun KC hKC => ?_)
                    refine step_run2 rfl (.tmp 62) (.tmp 65) rfl (by simp [Act.eval, Act.put]) (by simp [Act.eval, Act.put]) runv8 ?_
                    refine hKC _ _ ?_
                    clear hKC KC
                    try simp only [Act.put, SL]
                    refine wpAnyM_pureL (i := 12) (oi := _) (v := ?_) rfl (by kernel_rfl) (fun _ _ _ h => h) (Or.inl ⟨by kernel_rfl, ?_⟩) ?_
                    rotate_left
                    · intro w' hSw; go_simp; try with_reducible rfl
                    try simp only [Act.put, SL]
                    refine wpAnyM_done (by kernel_rfl) ?_ _
                    have HV8 : Hid (View layRec 92 w8 D.heap.size hi v8 (l.take at_ ++ M :: l.drop at_).length (fun i => x0 ((l.take at_ ++ M :: l.drop at_).getD i 0)) cv8) := by
                      show View _ _ _ _ _ _ _ _ _
                      rw [ins_len l M at_ hatL, ← HN.out]
                      exact V8.congr (fun i _ => ins_getD x0 l M at_ hatL i)
                    have HB8 : Hid (Below w.heap.size w w8) := HBD.out.trans ((b7D.trans bw8).mono (by omega))
                    have z8 : D.heap.size ≤ w8.heap.size := (b7D.trans bw8).size
                    have HLn : Hid ((l.take at_ ++ M :: l.drop at_).length ≤ L0 + (i + 1)) := by
                      show (l.take at_ ++ M :: l.drop at_).length ≤ L0 + (i + 1)
                      rw [ins_len l M at_ hatL, ← HN.out]
                      omega
                    clear V8 V7 bw7 bw8 b7D hHeld runv7 runv8 hUr hFr hUz hFz hAU hAF rg9 HUS HFS HRd HBD
                    go_wp2
                    go_roundw
                    case rel => exact ⟨i + 1, D.heap.size, l.take at_ ++ M :: l.drop at_, cv8, by omega, by go_num, by omega, z8, by rw [← Nat.add_assoc, ← HMM.out]; exact HCN.out, HLn.out, HV8.out, HB8.out⟩
                    case measure => simp [intOf]; omega
                  · refine step_build1R rfl (.tmp 60) rfl HRd.out (by simp [Act.eval, Act.put]) ?_
                    have b6 : Below D1.heap.size D1 (D1.alloc (.cells cR.toArray 92)) := (Below.refl _ _).alloc (Nat.le_refl _) _
                    have b6D := bA.trans (b6.mono bA.size)
                    refine hKC _ _ (range_below rg9 b6D hpD) ?_
                    clear hKC KC
                    try simp only [Act.put, SL]
                    have VL6 := VL.below b6 (by have := bA.size; omega)
                    have X6 : Box (D1.alloc (.cells cR.toArray 92)) D1.heap.size cR.toArray 92 := box_new _ _ _
                    have z6 : D1.heap.size < (D1.alloc (.cells cR.toArray 92)).heap.size := X6.lt
                    have zA := bA.size
                    obtain ⟨D2, hD2⟩ : ∃ x, x = D1.alloc (.cells cR.toArray 92) := ⟨_, rfl⟩
                    rw [← hD2] at b6 b6D VL6 X6 z6 ⊢
                    clear hD2
                    have XK := X6
                    obtain ⟨v4, w4, cv4, runv4, ⟨V4, X4⟩, bw4⟩ := ins_up4 HUS.out hUz hAU b6D hiD (by omega) VL6 X6 (fun h => by simp [Value.ownBlock] at h; omega)
                    refine wpAnyM_oneS (i := 4) (o := _) rfl (by kernel_rfl) (fun KC hKC => ?_)
                    refine step_run2 rfl (.tmp 55) (.tmp 58) rfl (by simp [Act.eval, Act.put]) (by simp [Act.eval, Act.put]) runv4 ?_
                    have b4D := b6D.trans bw4
                    refine hKC _ _ (range_below rg9 b4D hpD) ?_
                    clear hKC KC
                    try simp only [Act.put, SL]
                    obtain ⟨v7, w7, cv7, runv7, V7, bw7⟩ := ins_one b4D hiD (by omega) V4 X4 (layRec.rd_below HRd.out b4D hiD)
                    refine wpAnyM_one (i := 7) (o := _) rfl (by kernel_rfl) (by kernel_rfl) (fun KC hKC => ?_)
                    refine step_run2 rfl (.tmp 59) (.tmp 61) rfl (by simp [Act.eval, Act.put]) (by simp [Act.eval, Act.put]) runv7 ?_
                    refine hKC _ _ ?_
                    clear hKC KC
                    try simp only [Act.put, SL]
                    have b7D := b4D.trans bw7
                    obtain ⟨v8, w8, cv8, runv8, V8, bw8⟩ := ins_rest HFS.out hFz hAF b7D hiD (by omega) V7
                    refine wpAnyM_one (i := 11) (o := _) rfl (by kernel_rfl) (by kernel_rfl) (fun KC hKC => ?_)
                    refine step_run2 rfl (.tmp 62) (.tmp 65) rfl (by simp [Act.eval, Act.put]) (by simp [Act.eval, Act.put]) runv8 ?_
                    refine hKC _ _ ?_
                    clear hKC KC
                    try simp only [Act.put, SL]
                    refine wpAnyM_pureL (i := 12) (oi := _) (v := ?_) rfl (by kernel_rfl) (fun _ _ _ h => h) (Or.inl ⟨by kernel_rfl, ?_⟩) ?_
                    rotate_left
                    · intro w' hSw; go_simp; try with_reducible rfl
                    try simp only [Act.put, SL]
                    refine wpAnyM_done (by kernel_rfl) ?_ _
                    have HV8 : Hid (View layRec 92 w8 D.heap.size hi v8 (l.take at_ ++ M :: l.drop at_).length (fun i => x0 ((l.take at_ ++ M :: l.drop at_).getD i 0)) cv8) := by
                      show View _ _ _ _ _ _ _ _ _
                      rw [ins_len l M at_ hatL, ← HN.out]
                      exact V8.congr (fun i _ => ins_getD x0 l M at_ hatL i)
                    have HB8 : Hid (Below w.heap.size w w8) := HBD.out.trans ((b7D.trans bw8).mono (by omega))
                    have z8 : D.heap.size ≤ w8.heap.size := (b7D.trans bw8).size
                    have HLn : Hid ((l.take at_ ++ M :: l.drop at_).length ≤ L0 + (i + 1)) := by
                      show (l.take at_ ++ M :: l.drop at_).length ≤ L0 + (i + 1)
                      rw [ins_len l M at_ hatL, ← HN.out]
                      omega
                    clear V8 V7 bw7 bw8 b7D hHeld runv7 runv8 hUr hFr hUz hFz hAU hAF rg9 HUS HFS HRd HBD
                    go_wp2
                    go_roundw
                    case rel => exact ⟨i + 1, D.heap.size, l.take at_ ++ M :: l.drop at_, cv8, by omega, by go_num, by omega, z8, by rw [← Nat.add_assoc, ← HMM.out]; exact HCN.out, HLn.out, HV8.out, HB8.out⟩
                    case measure => simp [intOf]; omega
                · refine step_build1R rfl (.tmp 60) rfl HRd.out (by simp [Act.eval, Act.put]) ?_
                  have bA : Below D.heap.size D (D.alloc (.cells cR.toArray 92)) := (Below.refl _ _).alloc (Nat.le_refl _) _
                  refine hKC _ _ (range_below rg9 bA hpD) ?_
                  clear hKC KC
                  try simp only [Act.put, SL]
                  have XA : Box (D.alloc (.cells cR.toArray 92)) D.heap.size cR.toArray 92 := box_new _ _ _
                  have zA : D.heap.size < (D.alloc (.cells cR.toArray 92)).heap.size := XA.lt
                  obtain ⟨D1, hD1⟩ : ∃ x, x = D.alloc (.cells cR.toArray 92) := ⟨_, rfl⟩
                  rw [← hD1] at bA XA zA ⊢
                  clear hD1
                  refine wpAnyM_oneS (i := 0) (o := _) rfl (by kernel_rfl) (fun KC hKC => ?_)
                  refine step_build0 rfl rfl ?_
                  have b6 : Below D1.heap.size D1 (D1.alloc (.cells #[] 92)) := (Below.refl _ _).alloc (Nat.le_refl _) _
                  have b6D := bA.trans (b6.mono bA.size)
                  refine hKC _ _ (range_below rg9 b6D hpD) ?_
                  clear hKC KC
                  try simp only [Act.put, SL]
                  have VL := (View.lit0 (E := layRec) (t := 92) (fun i => x0 (l.getD i 0)) co D1 hi).weakL (lo' := D.heap.size) (by omega)
                  have X6 := XA.below b6 zA
                  obtain ⟨D2, hD2⟩ : ∃ x, x = D1.alloc (.cells #[] 92) := ⟨_, rfl⟩
                  rw [← hD2] at b6 b6D VL X6 ⊢
                  clear hD2
                  obtain ⟨v4, w4, cv4, runv4, ⟨V4, X4⟩, bw4⟩ := ins_up4 HUS.out hUz hAU b6D hiD (by omega) VL X6 (fun h => by simp [Value.ownBlock] at h; omega)
                  refine wpAnyM_oneS (i := 4) (o := _) rfl (by kernel_rfl) (fun KC hKC => ?_)
                  refine step_run2 rfl (.tmp 55) (.tmp 58) rfl (by simp [Act.eval, Act.put]) (by simp [Act.eval, Act.put]) runv4 ?_
                  have b4D := b6D.trans bw4
                  refine hKC _ _ (range_below rg9 b4D hpD) ?_
                  clear hKC KC
                  try simp only [Act.put, SL]
                  obtain ⟨v7, w7, cv7, runv7, V7, bw7⟩ := ins_one b4D hiD (by omega) V4 X4 (layRec.rd_below HRd.out b4D hiD)
                  refine wpAnyM_one (i := 7) (o := _) rfl (by kernel_rfl) (by kernel_rfl) (fun KC hKC => ?_)
                  refine step_run2 rfl (.tmp 59) (.tmp 61) rfl (by simp [Act.eval, Act.put]) (by simp [Act.eval, Act.put]) runv7 ?_
                  refine hKC _ _ ?_
                  clear hKC KC
                  try simp only [Act.put, SL]
                  have b7D := b4D.trans bw7
                  obtain ⟨v8, w8, cv8, runv8, V8, bw8⟩ := ins_rest HFS.out hFz hAF b7D hiD (by omega) V7
                  refine wpAnyM_one (i := 11) (o := _) rfl (by kernel_rfl) (by kernel_rfl) (fun KC hKC => ?_)
                  refine step_run2 rfl (.tmp 62) (.tmp 65) rfl (by simp [Act.eval, Act.put]) (by simp [Act.eval, Act.put]) runv8 ?_
                  refine hKC _ _ ?_
                  clear hKC KC
                  try simp only [Act.put, SL]
                  refine wpAnyM_pureL (i := 12) (oi := _) (v := ?_) rfl (by kernel_rfl) (fun _ _ _ h => h) (Or.inl ⟨by kernel_rfl, ?_⟩) ?_
                  rotate_left
                  · intro w' hSw; go_simp; try with_reducible rfl
                  try simp only [Act.put, SL]
                  refine wpAnyM_done (by kernel_rfl) ?_ _
                  have HV8 : Hid (View layRec 92 w8 D.heap.size hi v8 (l.take at_ ++ M :: l.drop at_).length (fun i => x0 ((l.take at_ ++ M :: l.drop at_).getD i 0)) cv8) := by
                    show View _ _ _ _ _ _ _ _ _
                    rw [ins_len l M at_ hatL, ← HN.out]
                    exact V8.congr (fun i _ => ins_getD x0 l M at_ hatL i)
                  have HB8 : Hid (Below w.heap.size w w8) := HBD.out.trans ((b7D.trans bw8).mono (by omega))
                  have z8 : D.heap.size ≤ w8.heap.size := (b7D.trans bw8).size
                  have HLn : Hid ((l.take at_ ++ M :: l.drop at_).length ≤ L0 + (i + 1)) := by
                    show (l.take at_ ++ M :: l.drop at_).length ≤ L0 + (i + 1)
                    rw [ins_len l M at_ hatL, ← HN.out]
                    omega
                  clear V8 V7 bw7 bw8 b7D hHeld runv7 runv8 hUr hFr hUz hFz hAU hAF rg9 HUS HFS HRd HBD
                  go_wp2
                  go_roundw
                  case rel => exact ⟨i + 1, D.heap.size, l.take at_ ++ M :: l.drop at_, cv8, by omega, by go_num, by omega, z8, by rw [← Nat.add_assoc, ← HMM.out]; exact HCN.out, HLn.out, HV8.out, HB8.out⟩
                  case measure => simp [intOf]; omega
              · obtain ⟨A, hA⟩ : ∃ A, at_ = A + 1 := ⟨at_ - 1, by omega⟩
                subst hA
                have hAn : A < n := by omega
                have VD := HVx.out.drew
                obtain ⟨gO, cO', hgO⟩ := VD.form0 (by omega)
                have rgO : wx.drew.rangeAt gO (A * 9) (co A) := by rw [hgO] at VD; exact VD.range hAn
                obtain ⟨rfl, rfl⟩ : ao = some ⟨gO, 0, none⟩ ∧ cap = cO' := by simpa using hgO
                have hcO : (co A).length = 9 := VD.lens A hAn
                have CC0 := l6Ahead_any (x0 M) (x0 (l.getD A 0)) cR (co A) hi hi wx.drew (layRec.rd_below HRx.out bD (by omega)) (VD.each A hAn)
                obtain ⟨cO, hcOe⟩ : ∃ c, c = co A := ⟨_, rfl⟩
                rw [← hcOe] at rgO hcO CC0
                obtain ⟨t, ht⟩ : ∃ t, t = decide (numC (x0 M) (x0 (l.getD A 0)) < 0) := ⟨_, rfl⟩
                rw [← ht] at CC0
                have HT : Hid (t = decide (numC (x0 M) (x0 (l.getD A 0)) < 0)) := ht
                have CC : Calls Tryz.prog 58 (#[.agg cR.toArray, .agg cO.toArray] ++ #[]) wx.drew fun e w' => e = .returned (.bool t) ∧ Below wx.drew.heap.size wx.drew w' := by rw [Array.append_empty]; exact CC0
                have rgB : wx.drew.rangeAt wi.heap.size 0 cR := fun j v hv => by
                  have := (HXx.out.cell j).trans (by simpa using hv)
                  rw [Nat.zero_add]
                  exact this
                have d1 : decide (0 < A + 1) = true := decide_eq_true (by omega)
                have d2 : decide ((0 : Int) < ((A + 1 : Nat) : Int)) = true := decide_eq_true (by omega)
                have wP : IntKind.i64.wrap (((A + 1 : Nat) : Int) - 1) = (A : Int) := wrapPred (by omega)
                have wP' : IntKind.i64.wrap ((A : Int) + 1 - 1) = (A : Int) := by rw [IntKind.wrap_i64]; omega
                have wA : IntKind.i64.wrap (A : Int) = (A : Int) := by rw [IntKind.wrap_i64]; omega
                have i3 : (0 : Int) ≤ (A : Int) := by omega
                have i4 : (A : Int) < (n : Int) := by omega
                clear CC0 ht hcOe VD hgO
                go_upto_region 11 with fail
                refine wp_region_M 9 (fun w' => w'.rangeAt gO (A * 9) cO ∧ w'.rangeAt wi.heap.size 0 cR) mixedO ⟨rgO, rgB⟩ (fun hHeld => ?_)
                refine wpAnyM_pure (i := 0) (oi := _) (v := ?_) rfl (by kernel_rfl) (fun _ _ _ h => h) (Or.inl ⟨by kernel_rfl, ?_⟩) (by assumption) ?_
                rotate_left
                · intro w' hSw; go_simp; try with_reducible rfl
                try simp only [Act.put, SL]
                refine wpAnyM_pure (i := 1) (oi := _) (v := ?_) rfl (by kernel_rfl) (fun _ _ _ h => h) (Or.inl ⟨by kernel_rfl, ?_⟩) (by assumption) ?_
                rotate_left
                · intro w' hSw; go_simp; try with_reducible rfl
                try simp only [Act.put, SL]
                try rw [d1]
                refine wpAnyM_pure (i := 2) (oi := _) (v := ?_) rfl (by kernel_rfl) (fun _ _ _ h => h) (Or.inl ⟨by kernel_rfl, ?_⟩) (by assumption) ?_
                rotate_left
                · intro w' hSw; go_simp; try with_reducible rfl
                try simp only [Act.put, SL]
                refine wpAnyM_take (i := 3) (oi := _) (v := .agg cR.toArray) 16 rfl (by kernel_rfl) (fun _ _ _ h => h) (yieldsIf_load_mid (by kernel_rfl) 92 (.tmp 6) rfl wi.heap.size (0) (by simp [Act.eval, Act.put]) cR _ (fun w h => h.2) Tryz.underlying92 rfl (info_Rec9 hcR)) (by assumption) ?_
                try simp only [Act.put, SL]
                refine wpAnyM_pure (i := 4) (oi := _) (v := ?_) rfl (by kernel_rfl) (fun _ _ _ h => h) (Or.inl ⟨by kernel_rfl, ?_⟩) (by assumption) ?_
                rotate_left
                · intro w' hSw; go_simp; try with_reducible rfl
                try simp only [Act.put, SL]
                refine wpAnyM_pure (i := 5) (oi := _) (v := ?_) rfl (by kernel_rfl) (fun _ _ _ h => h) (Or.inl ⟨by kernel_rfl, ?_⟩) (by assumption) ?_
                rotate_left
                · intro w' hSw; go_simp; try with_reducible rfl
                try simp only [Act.put, SL]
                refine wpAnyM_pure (i := 6) (oi := _) (v := ?_) rfl (by kernel_rfl) (fun _ _ _ h => h) (Or.inl ⟨by kernel_rfl, ?_⟩) (by assumption) ?_
                rotate_left
                · intro w' hSw; go_simp; try with_reducible rfl
                try simp only [Act.put, SL]
                refine wpAnyM_pure (i := 7) (oi := _) (v := ?_) rfl (by kernel_rfl) (fun _ _ _ h => h) (Or.inl ⟨by kernel_rfl, ?_⟩) (by assumption) ?_
                rotate_left
                · intro w' hSw; go_simp; try with_reducible rfl
                try simp only [Act.put, SL]
                refine wpAnyM_take (i := 8) (oi := _) (v := .agg cO.toArray) 16 rfl (by kernel_rfl) (fun _ _ _ h => h) (yieldsIf_load_mid (by kernel_rfl) 92 (.tmp 49) rfl gO (A * 9) (by simp [Act.eval, Act.put]) cO _ (fun w h => h.1) Tryz.underlying92 rfl (info_Rec9 hcO)) (by assumption) ?_
                try simp only [Act.put, SL]
                refine wpAnyM_one (i := 9) (o := _) rfl (by kernel_rfl) (by kernel_rfl) (fun KC hKC => ?_)
                refine step_callv (by kernel_rfl) (.func 58) 58 #[] _ _ rfl (by simp [Act.eval, Act.put]) #[.agg cR.toArray, .agg cO.toArray] (by simp [Act.eval, Act.put]) Tryz.func58 (by kernel_rfl) (by kernel_rfl) CC ?_
                rintro ee w9 ⟨rfl, b9d⟩
                refine ⟨_, rfl, ?_⟩
                refine hKC _ _ ?_
                clear hKC KC
                try simp only [Act.put, SL]
                refine wpAnyM_pureL (i := 10) (oi := _) (v := ?_) rfl (by kernel_rfl) (fun _ _ _ h => h) (Or.inl ⟨by kernel_rfl, ?_⟩) ?_
                rotate_left
                · intro w' hSw; go_simp; try with_reducible rfl
                try simp only [Act.put, SL]
                refine wpAnyM_done (by kernel_rfl) ?_ _
                have b9 : Below wx.heap.size wx w9 := bD.trans b9d
                clear bD hHeld d1 d2 CC rgO rgB hcO b9d
                cases t with
                | true =>
                  go_wp2
                  go_roundw
                  case rel => exact ⟨A, by omega, by go_num, fun k h1 h2 => by
                                by_cases c : k = A
                                · rw [c]; simpa using HT.out
                                · exact HBE.out k (by omega) h2, HB5x.out.trans (b9.mono zx)⟩
                  case measure => simp [intOf]
                | false =>
                  have HS : Hid (A + 1 = 0 ∨ ¬ numC (x0 M) (x0 (l.getD (A + 1 - 1) 0)) < 0) := .inr (by simpa using HT.out)
                  obtain ⟨at_, hate⟩ : ∃ a, a = A + 1 := ⟨_, rfl⟩
                  rw [← hate] at HS HBE hat ⊢
                  clear hate HT wP wP' wA hat0
                  have z9 : wx.heap.size ≤ w9.heap.size := b9.size
                  have V9 := (HVx.out.below b9 (by omega)).drew
                  have b9' : Below wx.heap.size wx w9.drew := b9.trans (show Below wx.heap.size w9 w9.drew from ⟨rfl, rfl, rfl, Nat.le_refl _, fun _ _ => rfl⟩)
                  have X9 : Box w9.drew wi.heap.size cR.toArray 92 := HXx.out.below b9' (by omega)
                  have R9 : layRec.rd w9.drew hi (x0 M) cR := layRec.rd_below HRx.out b9' (by omega)
                  have B9 : Below w.heap.size w w9.drew := HBx.out.trans (b9'.mono (by omega))
                  have rg9 : w9.drew.rangeAt wi.heap.size 0 cR := fun j v hv => by
                    have := (X9.cell j).trans (by simpa using hv)
                    rw [Nat.zero_add]
                    exact this
                  obtain ⟨D, hD⟩ : ∃ D, D = w9.drew := ⟨_, rfl⟩
                  have HD : Hid (D = w9.drew) := hD
                  rw [← hD] at V9 X9 R9 B9 rg9
                  have zD : w9.heap.size = D.heap.size := by rw [hD]; rfl
                  clear hD b9 b9'
                  obtain ⟨aU, cU, hUr, sU, hUz⟩ := V9.upto_ (show hi ≤ D.heap.size by omega) (al := at_) hat
                  obtain ⟨aF, cF, hFr, sF, rF, hFz⟩ := V9.from_ (show hi ≤ D.heap.size by omega) (al := at_) hat
                  have hAU : ∀ b off, aU = some ⟨b, off, none⟩ → b < D.heap.size := fun b off e => by
                    rcases V9.form2 with ⟨e3, e4⟩ | ⟨g, cp, e3, e4, hg⟩
                    · have hz : at_ = 0 := by omega
                      have := hUr D
                      rw [e3, hz, run_upto0 D] at this
                      simp only [Result.ok.injEq, Value.slice.injEq, and_true] at this
                      rw [← this.1] at e
                      cases e
                    · have := hUr D
                      rw [e3, run_upto9 g n cp at_ hat e4 D] at this
                      simp only [Result.ok.injEq, Value.slice.injEq, and_true] at this
                      rw [← this.1] at e
                      cases e
                      exact hg
                  have hAF : ∀ b off, aF = some ⟨b, off, none⟩ → b < D.heap.size := fun b off e => by
                    rcases V9.form2 with ⟨e3, e4⟩ | ⟨g, cp, e3, e4, hg⟩
                    · have hz : at_ = 0 := by omega
                      have := hFr D
                      rw [e3, hz, run_from0 D] at this
                      simp only [Result.ok.injEq, Value.slice.injEq, and_true] at this
                      rw [← this.1] at e
                      cases e
                    · have := hFr D
                      rw [e3, run_from9 g n cp at_ hat D] at this
                      simp only [Result.ok.injEq, Value.slice.injEq, and_true] at this
                      rw [← this.1] at e
                      split at e <;> cases e <;> exact hg
                  have hiD : hi ≤ D.heap.size := by omega
                  have hpD : wi.heap.size < D.heap.size := X9.lt
                  have hatL : at_ ≤ l.length := by rw [← HN.out]; exact hat
                  have HCN : Hid (Cnt x0 (M + 1) (l.take at_ ++ M :: l.drop at_)) := HCt.out.ins HF.out at_ hatL (fun k h1 h2 => HBE.out k h1 (by rw [HN.out]; exact h2)) HS.out
                  have HRd : Hid (layRec.rd D hi (x0 M) cR) := R9
                  have HBD : Hid (Below w.heap.size w D) := B9
                  have HUS : Hid (Src layRec D hi aU at_ (fun i => x0 (l.getD i 0)) co) := sU
                  have HFS : Hid (Src layRec D hi aF (n - at_) (fun j => x0 (l.getD (at_ + j) 0)) (fun j => co (at_ + j))) := sF
                  clear V9 X9 R9 B9 sU sF rF
                  go_upto_region 13 with fail
                  refine wp_region_M 7 (fun w' => w'.rangeAt wi.heap.size 0 cR) mixedO (by rw [← HD.out]; exact rg9) (fun hHeld => ?_)
                  rw [← HD.out] at hHeld ⊢
                  refine wpAnyM_pure (i := 1) (oi := _) (v := ?_) rfl (by kernel_rfl) (fun _ _ _ h => h) (Or.inl ⟨by kernel_rfl, ?_⟩) (by assumption) ?_
                  rotate_left
                  · intro w' hSw; go_simp; try with_reducible rfl
                  try simp only [Act.put, SL]
                  refine wpAnyM_pure (i := 2) (oi := _) (v := ?_) rfl (by kernel_rfl) (fun _ _ _ h => h) (Or.inl ⟨by kernel_rfl, ?_⟩) (by assumption) ?_
                  rotate_left
                  · intro w' hSw; go_simp; try with_reducible rfl
                  try simp only [Act.put, SL]
                  refine wpAnyM_pure (i := 3) (oi := _) (v := ?_) rfl (by kernel_rfl) (fun _ _ _ h => h) (Or.inl ⟨by kernel_rfl, ?_⟩) (by assumption) ?_
                  rotate_left
                  · intro w' hSw
                    try rw [show (Instr.slice 30 (.slice (some ⟨gO, 0, none⟩) n cap) none (some (.int .i64 (at_ : Int))) none).run Tryz.prog w' = _ from hUr w']
                    have hSl' := hUr w'
                    go_simp
                    try with_reducible rfl
                  try simp only [Act.put, SL]
                  refine wpAnyM_take (i := 5) (oi := _) (v := .agg cR.toArray) 16 rfl (by kernel_rfl) (fun _ _ _ h => h) (yieldsIf_load_mid (by kernel_rfl) 92 (.tmp 6) rfl wi.heap.size (0) (by simp [Act.eval, Act.put]) cR _ (fun w h => h) Tryz.underlying92 rfl (info_Rec9 hcR)) (by assumption) ?_
                  try simp only [Act.put, SL]
                  refine wpAnyM_pure (i := 8) (oi := _) (v := ?_) rfl (by kernel_rfl) (fun _ _ _ h => h) (Or.inl ⟨by kernel_rfl, ?_⟩) (by assumption) ?_
                  rotate_left
                  · intro w' hSw; go_simp; try with_reducible rfl
                  try simp only [Act.put, SL]
                  refine wpAnyM_pure (i := 9) (oi := _) (v := ?_) rfl (by kernel_rfl) (fun _ _ _ h => h) (Or.inl ⟨by kernel_rfl, ?_⟩) (by assumption) ?_
                  rotate_left
                  · intro w' hSw; go_simp; try with_reducible rfl
                  try simp only [Act.put, SL]
                  refine wpAnyM_pure (i := 10) (oi := _) (v := ?_) rfl (by kernel_rfl) (fun _ _ _ h => h) (Or.inl ⟨by kernel_rfl, ?_⟩) (by assumption) ?_
                  rotate_left
                  · intro w' hSw
                    try rw [show (Instr.slice 30 (.slice (some ⟨gO, 0, none⟩) n cap) (some (.int .i64 (at_ : Int))) none none).run Tryz.prog w' = _ from hFr w']
                    have hSl' := hFr w'
                    go_simp
                    try with_reducible rfl
                  try simp only [Act.put, SL]
                  refine wpAnyM_twoS (i := 0) (j := 6) (o := _) (o' := _) rfl rfl (by kernel_rfl) (fun KC hKC => ?_) (fun KC hKC => ?_)
                  · refine step_build0 rfl rfl ?_
                    have bA : Below D.heap.size D (D.alloc (.cells #[] 92)) := (Below.refl _ _).alloc (Nat.le_refl _) _
                    refine hKC _ _ (range_below rg9 bA hpD) ?_
                    clear hKC KC
                    try simp only [Act.put, SL]
                    have VL := View.lit0 (E := layRec) (t := 92) (fun i => x0 (l.getD i 0)) co D hi
                    have zA1 : D.heap.size < (D.alloc (.cells #[] 92)).heap.size := (box_new D #[] 92).lt
                    obtain ⟨D1, hD1⟩ : ∃ x, x = D.alloc (.cells #[] 92) := ⟨_, rfl⟩
                    rw [← hD1] at bA VL zA1 ⊢
                    clear hD1
                    refine wpAnyM_twoS (i := 4) (j := 6) (o := _) (o' := _) rfl rfl (by kernel_rfl) (fun KC hKC => ?_) (fun KC hKC => ?_)
                    · skip
                      obtain ⟨v4, w4, cv4, runv4, V4, bw4⟩ := ins_up (lo := lo) HUS.out hUz hAU bA hiD (by omega) VL
                      refine step_run2 rfl (.tmp 55) (.tmp 58) rfl (by simp [Act.eval, Act.put]) (by simp [Act.eval, Act.put]) runv4 ?_
                      have b4D := bA.trans bw4
                      refine hKC _ _ (range_below rg9 b4D hpD) ?_
                      clear hKC KC
                      try simp only [Act.put, SL]
                      refine wpAnyM_oneS (i := 6) (o := _) rfl (by kernel_rfl) (fun KC hKC => ?_)
                      refine step_build1R rfl (.tmp 60) rfl HRd.out (by simp [Act.eval, Act.put]) ?_
                      have b6 : Below w4.heap.size w4 (w4.alloc (.cells cR.toArray 92)) := (Below.refl _ _).alloc (Nat.le_refl _) _
                      have b6D := b4D.trans (b6.mono b4D.size)
                      refine hKC _ _ (range_below rg9 b6D hpD) ?_
                      clear hKC KC
                      try simp only [Act.put, SL]
                      have V6 := V4.below b6 (by have := b4D.size; omega)
                      have X6 : Box (w4.alloc (.cells cR.toArray 92)) w4.heap.size cR.toArray 92 := box_new _ _ _
                      obtain ⟨v7, w7, cv7, runv7, V7, bw7⟩ := ins_one b6D hiD (by omega) V6 X6 (layRec.rd_below HRd.out b6D hiD)
                      refine wpAnyM_one (i := 7) (o := _) rfl (by kernel_rfl) (by kernel_rfl) (fun KC hKC => ?_)
                      refine step_run2 rfl (.tmp 59) (.tmp 61) rfl (by simp [Act.eval, Act.put]) (by simp [Act.eval, Act.put]) runv7 ?_
                      refine hKC _ _ ?_
                      clear hKC KC
                      try simp only [Act.put, SL]
                      have b7D := b6D.trans bw7
                      obtain ⟨v8, w8, cv8, runv8, V8, bw8⟩ := ins_rest HFS.out hFz hAF b7D hiD (by omega) V7
                      refine wpAnyM_one (i := 11) (o := _) rfl (by kernel_rfl) (by kernel_rfl) (fun KC hKC => ?_)
                      refine step_run2 rfl (.tmp 62) (.tmp 65) rfl (by simp [Act.eval, Act.put]) (by simp [Act.eval, Act.put]) runv8 ?_
                      refine hKC _ _ ?_
                      clear hKC KC
                      try simp only [Act.put, SL]
                      refine wpAnyM_pureL (i := 12) (oi := _) (v := ?_) rfl (by kernel_rfl) (fun _ _ _ h => h) (Or.inl ⟨by kernel_rfl, ?_⟩) ?_
                      rotate_left
                      · intro w' hSw; go_simp; try with_reducible rfl
                      try simp only [Act.put, SL]
                      refine wpAnyM_done (by kernel_rfl) ?_ _
                      have HV8 : Hid (View layRec 92 w8 D.heap.size hi v8 (l.take at_ ++ M :: l.drop at_).length (fun i => x0 ((l.take at_ ++ M :: l.drop at_).getD i 0)) cv8) := by
                        show View _ _ _ _ _ _ _ _ _
                        rw [ins_len l M at_ hatL, ← HN.out]
                        exact V8.congr (fun i _ => ins_getD x0 l M at_ hatL i)
                      have HB8 : Hid (Below w.heap.size w w8) := HBD.out.trans ((b7D.trans bw8).mono (by omega))
                      have z8 : D.heap.size ≤ w8.heap.size := (b7D.trans bw8).size
                      have HLn : Hid ((l.take at_ ++ M :: l.drop at_).length ≤ L0 + (i + 1)) := by
                        show (l.take at_ ++ M :: l.drop at_).length ≤ L0 + (i + 1)
                        rw [ins_len l M at_ hatL, ← HN.out]
                        omega
                      clear V8 V7 bw7 bw8 b7D hHeld runv7 runv8 hUr hFr hUz hFz hAU hAF rg9 HUS HFS HRd HBD
                      go_wp2
                      go_roundw
                      case rel => exact ⟨i + 1, D.heap.size, l.take at_ ++ M :: l.drop at_, cv8, by omega, by go_num, by omega, z8, by rw [← Nat.add_assoc, ← HMM.out]; exact HCN.out, HLn.out, HV8.out, HB8.out⟩
                      case measure => simp [intOf]; omega
                    · refine step_build1R rfl (.tmp 60) rfl HRd.out (by simp [Act.eval, Act.put]) ?_
                      have b6 : Below D1.heap.size D1 (D1.alloc (.cells cR.toArray 92)) := (Below.refl _ _).alloc (Nat.le_refl _) _
                      have b6D := bA.trans (b6.mono bA.size)
                      refine hKC _ _ (range_below rg9 b6D hpD) ?_
                      clear hKC KC
                      try simp only [Act.put, SL]
                      have VL6 := VL.below b6 (by have := bA.size; omega)
                      have X6 : Box (D1.alloc (.cells cR.toArray 92)) D1.heap.size cR.toArray 92 := box_new _ _ _
                      have z6 : D1.heap.size < (D1.alloc (.cells cR.toArray 92)).heap.size := X6.lt
                      have zA := bA.size
                      obtain ⟨D2, hD2⟩ : ∃ x, x = D1.alloc (.cells cR.toArray 92) := ⟨_, rfl⟩
                      rw [← hD2] at b6 b6D VL6 X6 z6 ⊢
                      clear hD2
                      have XK := X6
                      obtain ⟨v4, w4, cv4, runv4, ⟨V4, X4⟩, bw4⟩ := ins_up4 HUS.out hUz hAU b6D hiD (by omega) VL6 X6 (fun h => by simp [Value.ownBlock] at h; omega)
                      refine wpAnyM_oneS (i := 4) (o := _) rfl (by kernel_rfl) (fun KC hKC => ?_)
                      refine step_run2 rfl (.tmp 55) (.tmp 58) rfl (by simp [Act.eval, Act.put]) (by simp [Act.eval, Act.put]) runv4 ?_
                      have b4D := b6D.trans bw4
                      refine hKC _ _ (range_below rg9 b4D hpD) ?_
                      clear hKC KC
                      try simp only [Act.put, SL]
                      obtain ⟨v7, w7, cv7, runv7, V7, bw7⟩ := ins_one b4D hiD (by omega) V4 X4 (layRec.rd_below HRd.out b4D hiD)
                      refine wpAnyM_one (i := 7) (o := _) rfl (by kernel_rfl) (by kernel_rfl) (fun KC hKC => ?_)
                      refine step_run2 rfl (.tmp 59) (.tmp 61) rfl (by simp [Act.eval, Act.put]) (by simp [Act.eval, Act.put]) runv7 ?_
                      refine hKC _ _ ?_
                      clear hKC KC
                      try simp only [Act.put, SL]
                      have b7D := b4D.trans bw7
                      obtain ⟨v8, w8, cv8, runv8, V8, bw8⟩ := ins_rest HFS.out hFz hAF b7D hiD (by omega) V7
                      refine wpAnyM_one (i := 11) (o := _) rfl (by kernel_rfl) (by kernel_rfl) (fun KC hKC => ?_)
                      refine step_run2 rfl (.tmp 62) (.tmp 65) rfl (by simp [Act.eval, Act.put]) (by simp [Act.eval, Act.put]) runv8 ?_
                      refine hKC _ _ ?_
                      clear hKC KC
                      try simp only [Act.put, SL]
                      refine wpAnyM_pureL (i := 12) (oi := _) (v := ?_) rfl (by kernel_rfl) (fun _ _ _ h => h) (Or.inl ⟨by kernel_rfl, ?_⟩) ?_
                      rotate_left
                      · intro w' hSw; go_simp; try with_reducible rfl
                      try simp only [Act.put, SL]
                      refine wpAnyM_done (by kernel_rfl) ?_ _
                      have HV8 : Hid (View layRec 92 w8 D.heap.size hi v8 (l.take at_ ++ M :: l.drop at_).length (fun i => x0 ((l.take at_ ++ M :: l.drop at_).getD i 0)) cv8) := by
                        show View _ _ _ _ _ _ _ _ _
                        rw [ins_len l M at_ hatL, ← HN.out]
                        exact V8.congr (fun i _ => ins_getD x0 l M at_ hatL i)
                      have HB8 : Hid (Below w.heap.size w w8) := HBD.out.trans ((b7D.trans bw8).mono (by omega))
                      have z8 : D.heap.size ≤ w8.heap.size := (b7D.trans bw8).size
                      have HLn : Hid ((l.take at_ ++ M :: l.drop at_).length ≤ L0 + (i + 1)) := by
                        show (l.take at_ ++ M :: l.drop at_).length ≤ L0 + (i + 1)
                        rw [ins_len l M at_ hatL, ← HN.out]
                        omega
                      clear V8 V7 bw7 bw8 b7D hHeld runv7 runv8 hUr hFr hUz hFz hAU hAF rg9 HUS HFS HRd HBD
                      go_wp2
                      go_roundw
                      case rel => exact ⟨i + 1, D.heap.size, l.take at_ ++ M :: l.drop at_, cv8, by omega, by go_num, by omega, z8, by rw [← Nat.add_assoc, ← HMM.out]; exact HCN.out, HLn.out, HV8.out, HB8.out⟩
                      case measure => simp [intOf]; omega
                  · refine step_build1R rfl (.tmp 60) rfl HRd.out (by simp [Act.eval, Act.put]) ?_
                    have bA : Below D.heap.size D (D.alloc (.cells cR.toArray 92)) := (Below.refl _ _).alloc (Nat.le_refl _) _
                    refine hKC _ _ (range_below rg9 bA hpD) ?_
                    clear hKC KC
                    try simp only [Act.put, SL]
                    have XA : Box (D.alloc (.cells cR.toArray 92)) D.heap.size cR.toArray 92 := box_new _ _ _
                    have zA : D.heap.size < (D.alloc (.cells cR.toArray 92)).heap.size := XA.lt
                    obtain ⟨D1, hD1⟩ : ∃ x, x = D.alloc (.cells cR.toArray 92) := ⟨_, rfl⟩
                    rw [← hD1] at bA XA zA ⊢
                    clear hD1
                    refine wpAnyM_oneS (i := 0) (o := _) rfl (by kernel_rfl) (fun KC hKC => ?_)
                    refine step_build0 rfl rfl ?_
                    have b6 : Below D1.heap.size D1 (D1.alloc (.cells #[] 92)) := (Below.refl _ _).alloc (Nat.le_refl _) _
                    have b6D := bA.trans (b6.mono bA.size)
                    refine hKC _ _ (range_below rg9 b6D hpD) ?_
                    clear hKC KC
                    try simp only [Act.put, SL]
                    have VL := (View.lit0 (E := layRec) (t := 92) (fun i => x0 (l.getD i 0)) co D1 hi).weakL (lo' := D.heap.size) (by omega)
                    have X6 := XA.below b6 zA
                    obtain ⟨D2, hD2⟩ : ∃ x, x = D1.alloc (.cells #[] 92) := ⟨_, rfl⟩
                    rw [← hD2] at b6 b6D VL X6 ⊢
                    clear hD2
                    obtain ⟨v4, w4, cv4, runv4, ⟨V4, X4⟩, bw4⟩ := ins_up4 HUS.out hUz hAU b6D hiD (by omega) VL X6 (fun h => by simp [Value.ownBlock] at h; omega)
                    refine wpAnyM_oneS (i := 4) (o := _) rfl (by kernel_rfl) (fun KC hKC => ?_)
                    refine step_run2 rfl (.tmp 55) (.tmp 58) rfl (by simp [Act.eval, Act.put]) (by simp [Act.eval, Act.put]) runv4 ?_
                    have b4D := b6D.trans bw4
                    refine hKC _ _ (range_below rg9 b4D hpD) ?_
                    clear hKC KC
                    try simp only [Act.put, SL]
                    obtain ⟨v7, w7, cv7, runv7, V7, bw7⟩ := ins_one b4D hiD (by omega) V4 X4 (layRec.rd_below HRd.out b4D hiD)
                    refine wpAnyM_one (i := 7) (o := _) rfl (by kernel_rfl) (by kernel_rfl) (fun KC hKC => ?_)
                    refine step_run2 rfl (.tmp 59) (.tmp 61) rfl (by simp [Act.eval, Act.put]) (by simp [Act.eval, Act.put]) runv7 ?_
                    refine hKC _ _ ?_
                    clear hKC KC
                    try simp only [Act.put, SL]
                    have b7D := b4D.trans bw7
                    obtain ⟨v8, w8, cv8, runv8, V8, bw8⟩ := ins_rest HFS.out hFz hAF b7D hiD (by omega) V7
                    refine wpAnyM_one (i := 11) (o := _) rfl (by kernel_rfl) (by kernel_rfl) (fun KC hKC => ?_)
                    refine step_run2 rfl (.tmp 62) (.tmp 65) rfl (by simp [Act.eval, Act.put]) (by simp [Act.eval, Act.put]) runv8 ?_
                    refine hKC _ _ ?_
                    clear hKC KC
                    try simp only [Act.put, SL]
                    refine wpAnyM_pureL (i := 12) (oi := _) (v := ?_) rfl (by kernel_rfl) (fun _ _ _ h => h) (Or.inl ⟨by kernel_rfl, ?_⟩) ?_
                    rotate_left
                    · intro w' hSw; go_simp; try with_reducible rfl
                    try simp only [Act.put, SL]
                    refine wpAnyM_done (by kernel_rfl) ?_ _
                    have HV8 : Hid (View layRec 92 w8 D.heap.size hi v8 (l.take at_ ++ M :: l.drop at_).length (fun i => x0 ((l.take at_ ++ M :: l.drop at_).getD i 0)) cv8) := by
                      show View _ _ _ _ _ _ _ _ _
                      rw [ins_len l M at_ hatL, ← HN.out]
                      exact V8.congr (fun i _ => ins_getD x0 l M at_ hatL i)
                    have HB8 : Hid (Below w.heap.size w w8) := HBD.out.trans ((b7D.trans bw8).mono (by omega))
                    have z8 : D.heap.size ≤ w8.heap.size := (b7D.trans bw8).size
                    have HLn : Hid ((l.take at_ ++ M :: l.drop at_).length ≤ L0 + (i + 1)) := by
                      show (l.take at_ ++ M :: l.drop at_).length ≤ L0 + (i + 1)
                      rw [ins_len l M at_ hatL, ← HN.out]
                      omega
                    clear V8 V7 bw7 bw8 b7D hHeld runv7 runv8 hUr hFr hUz hFz hAU hAF rg9 HUS HFS HRd HBD
                    go_wp2
                    go_roundw
                    case rel => exact ⟨i + 1, D.heap.size, l.take at_ ++ M :: l.drop at_, cv8, by omega, by go_num, by omega, z8, by rw [← Nat.add_assoc, ← HMM.out]; exact HCN.out, HLn.out, HV8.out, HB8.out⟩
                    case measure => simp [intOf]; omega
        · obtain rfl : i = m := by omega
          clear hrs hlt2
          go_wp2
          go_roundw
          case rel => exact ⟨T + 1, lo, l, co, by omega, by go_num, hlo, hlow, by rw [HLS.out]; exact HCt.out, by rw [HLS.out, ← HN.out]; exact hLl, by rw [← HN.out]; exact HV.out, HBW.out⟩
          case measure => simp [intOf]; omega
    · obtain rfl : T = 2 := by omega
      clear hlt bw
      go_wp2
      go_ret
      exact ⟨_, l, co, lo, rfl, HCt.out, hlo, HV.out, HBW.out⟩
end Go.Proofs.YtcdnhhdknkhnkaaGreat
namespace Go.Proofs.YtcdnhhdknkhnkaaGreat
open Go.RowKit F256
set_option maxHeartbeats 16000000 in
set_option maxRecDepth 20000 in
theorem tellRecs_any (v : Value) (p : Nat × (Nat → RecD)) (hi : Nat) (w : World) (h : (layRec.slice 92).rd w hi p [v]) (hhi : hi ≤ w.heap.size) (hs : (szSl szRecD) p ≤ 1048576) :
    Calls Tryz.prog 31 #[v] w (fun e w' => ∃ cs, e = .returned (.agg cs.toArray) ∧ OwnT layRecsResult w' w.heap.size w'.heap.size ⟨0, p⟩ cs ∧ Below w.heap.size w w') := by
  have B0 := one_new w #[.int .i64 0, .slice none 0 0] 32
  have CS := copyRecS_is v p hi (w.alloc (.cells #[.int .i64 0, .slice none 0 0] 32)) (Lay.rd_below _ h B0.bel hhi) (Nat.le_trans hhi B0.bel.size) hs
  clear h
  go_enter Tryz.func31, Tryz.ntmps31
  go_wp2_with fail
  refine CS.mono ?_
  rintro e w1 ⟨v1, rfl, O1, b1⟩
  have HO : Hid (One w w1 #[.int .i64 0, .slice none 0 0] 32) := B0.call b1
  obtain ⟨a3, c3, rfl⟩ := recs_form O1
  have z0 : w.heap.size < (w.alloc (.cells #[.int .i64 0, .slice none 0 0] 32)).heap.size := B0.b1.lt
  have O2 := rres_own (n := p.1) (f := p.2) O1 0 (by decide)
  have HO2 : Hid (OwnT layRecsResult w1 (w.alloc (.cells #[.int .i64 0, .slice none 0 0] 32)).heap.size w1.heap.size ⟨0, p⟩ [.int .i64 0, .slice a3 p.1 c3]) := O2
  clear O1 O2 b1 CS B0
  go_wp2_with (refine wp_storeBox 32 _ _ rfl rfl (w.heap.size) rfl (cs := [.int .i64 0, .slice a3 p.1 c3]) (old := [.int .i64 0, .slice none 0 0]) rfl (HO.out.b1) size_Rc rfl rfl (HO2.out.one) ?_; intro w9 X9 C9 z9)
  refine ret_box Tryz.results31 rfl X9 Tryz.underlying32 size_Rc rfl rfl ?_
  have zz := C9.size
  exact ⟨_, rfl, (HO2.out.chgk C9 (fun b hb => by simp at hb; omega)).weaken (by omega) zz, HO.out.bel.trans (C9.bel (fun b hb => by simp at hb; omega) HO.out.bel.size)⟩
end Go.Proofs.YtcdnhhdknkhnkaaGreat