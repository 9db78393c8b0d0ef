/- Worlds behind a pointer of the specification; l5Raw, l7Strike. -/
import Derived.Test.YthdknhjaohhfiaaGreatZPstrikas
import Derived.Test.YthdknhjaohhfiaaGreatZPstrikap
import Derived.Test.YthdknhjaohhfiaaGreatZPstrikan
import Derived.Deep.DeepCutAuto
import Derived.Test.YthdknhjaohhfiaaGreatZPstrikaj
import Derived.Test.YthdknhjaohhfiaaGreatZPstrikak
import Derived.Test.YthdknhjaohhfiaaGreatZPstrikam
import Derived.Test.YthdknhjaohhfiaaGreatZPstrikal
import Derived.Test.YthdknhjaohhfiaaGreatZPstrikao
namespace Go.Proofs.YthdknhjaohhfiaaGreat
open Go.RowKit F256
set_option linter.unusedVariables false
set_option linter.unusedSimpArgs false
/-- the block B holds the world d, with the blocks K -/
def SpB (w : World) (B : Nat) (d : WorldD) (K : List Nat) : Prop := ∃ cs, Box w B cs.toArray 38 ∧ EncO w B d cs K
def SpP (o : Outc) (B : Nat) (w : World) (K : List Nat) (e : Ending) (w' : World) : Prop := match o with
  | .done _ d => e = .returned (.bool true) ∧ ∃ K', SpB w' B d K' ∧ (∀ b, b ∈ K' → b ∈ K ∨ w.heap.size ≤ b) ∧ ChgL (B :: K) w w'
  | .cut d => e = .returned (.bool false) ∧ ∃ K', SpB w' B (cutW d) K' ∧ (∀ b, b ∈ K' → b ∈ K ∨ w.heap.size ≤ b) ∧ ChgL (B :: K) w w'
theorem SpB.lt {w : World} {B : Nat} {d : WorldD} {K : List Nat} (h : SpB w B d K) : B < w.heap.size := by
  obtain ⟨cs, h1, _⟩ := h
  exact h1.lt
theorem l5Raw_sp (B : Nat) (d : WorldD) (K : List Nat) (w : World) (hX : SpB w B d K) (hd : d.down = false) (hwr : -9223372036854775808 ≤ d.writes ∧ d.writes + 1 ≤ 9223372036854775807) :
    Calls Tryz.prog 78 #[.pointer (some ⟨B, 0, none⟩)] w fun e w' => ((d.stop ≠ -1 ∧ d.stop ≤ d.writes) ∧ e = .returned (.bool false) ∧ (∃ K', SpB w' B (cutW d) K' ∧ ∀ b, b ∈ K' → b ∈ K) ∧ ChgL [B] w w') ∨ (¬ (d.stop ≠ -1 ∧ d.stop ≤ d.writes) ∧ e = .returned (.bool true) ∧ SpB w' B { d with writes := d.writes + 1 } K ∧ ChgL [B] w w') := by
  obtain ⟨cs, hB, hO⟩ := hX
  obtain ⟨v0, v1, v2, v3, v4, v5, v6, v7, v8, vp0, vl0, vq0, vp1, vl1, vq1, vp2, vl2, vq2, v9, v10, vb, rfl⟩ := world15L hO.own
  have st := stop_of hO.own
  have wt := writes_of hO.own
  have dn := down_of hO.T.rd
  by_cases hf : d.stop ≠ -1 ∧ d.stop ≤ d.writes
  · obtain ⟨KC, kc1, kc2, kc3⟩ := own_cutK hO.own hO.nd
    refine (l5Raw_fail B v0 v1 v2 v3 v4 v5 v6 v7 v8 vp0 vl0 vq0 vp1 vl1 vq1 vp2 vl2 vq2 v9 v10 vb w hB (by rw [dn]; exact hd) (by rw [st]; exact hf.1) (by rw [st, wt]; exact hf.2)).mono ?_
    rintro e w' ⟨rfl, X5, C5⟩
    refine .inl ⟨hf, rfl, ⟨KC, ⟨_, X5, Lay.own_chgL _ kc1 C5 (fun b hb hm => ?_), kc2, fun hm => hO.ne (kc3 _ hm)⟩, kc3⟩, C5⟩
    simp at hm
    exact hO.ne (hm ▸ kc3 b hb)
  · refine (l5Raw_ok B v0 v1 v2 v3 v4 v5 v6 v7 v8 vp0 vl0 vq0 vp1 vl1 vq1 vp2 vl2 vq2 v9 v10 vb w hB (by rw [dn]; exact hd) (by rw [st, wt]; exact hf) (by rw [wt]; exact hwr)).mono ?_
    rintro e w' ⟨rfl, X5, C5⟩
    have O2 := own_writesK (d.writes + 1) (by omega) hO.own
    rw [wt] at X5
    exact .inr ⟨hf, rfl, ⟨_, X5, Lay.own_chgL _ O2 C5 (fun b hb hm => by simp at hm; exact hO.ne (hm ▸ hb)), hO.nd, hO.ne⟩, C5⟩
/-- fit for n raw writes more -/
structure Fit2 (n : Nat) (d : WorldD) : Prop where
  two : d.tapes.1 = 2
  few : ∀ T, T < 2 → (d.tapes.2 T).recs.1 ≤ 1048576
  up : d.down = false
  low : -9223372036854775808 ≤ d.writes
  room : d.writes + n ≤ 9223372036854775807
def strikeF (kd sq : Int) (k : Nat) : WorldD → Outc := rawO (fun d => strikeW d k kd sq)
theorem strikeL_le (p : Nat × (Nat → RecD)) (kd sq : Int) : (strikeL p kd sq).1 ≤ p.1 := by
  show (keptI (fun i => keepB kd sq (p.2 i)) p.1).length ≤ p.1
  unfold keptI
  exact Nat.le_trans (List.length_filter_le _ _) (by simp)
theorem strikeF_fit {n : Nat} {d d2 : WorldD} {c kd sq : Int} {k : Nat} (h : Fit2 (n + 1) d) (hk : k < 2) (e : strikeF kd sq k d = .done c d2) : Fit2 n d2 := by
  unfold strikeF rawO at e
  split at e
  · cases e
  · simp only [Outc.done.injEq] at e
    obtain ⟨_, rfl⟩ := e
    have hr := h.room
    have hl := h.low
    refine ⟨h.two, fun T hT => ?_, h.up, ?_, ?_⟩
    · show ((upd d.tapes.2 k (struckT (d.tapes.2 k) kd sq)) T).recs.1 ≤ _
      by_cases c : T = k
      · subst c
        rw [upd_at]
        exact Nat.le_trans (strikeL_le _ _ _) (h.few T hT)
      · rw [upd_ne _ _ c]
        exact h.few T hT
    · show _ ≤ d.writes + 1
      omega
    · show d.writes + 1 + n ≤ _
      have : ((n + 1 : Nat) : Int) = (n : Int) + 1 := by omega
      omega
set_option maxHeartbeats 16000000 in
set_option maxRecDepth 20000 in
theorem l7Strike_any (B : Nat) (d : WorldD) (K : List Nat) (kd sq : Int) (w : World) (hX : SpB w B d K) (hf : Fit2 2 d) :
    Calls Tryz.prog 57 #[.pointer (some ⟨B, 0, none⟩), .int .i64 kd, .int .i64 sq] w (SpP (runO (strikeF kd sq) 2 0 d) B w K) := by
  have HX : Hid (SpB w B d K) := hX
  have HF : Hid (Fit2 2 d) := hf
  clear hX hf
  go_enter Tryz.func57, Tryz.ntmps57
  go_wp2
  go_loopw [7] (fun i wr => ∃ (k m : Nat) (d1 : WorldD) (K1 : List Nat), k + m = 2 ∧ i = .int .i64 k ∧ SpB wr B d1 K1 ∧ (∀ x, x ∈ K1 → x ∈ K ∨ w.heap.size ≤ x) ∧ ChgL (B :: K) w wr ∧ Fit2 m d1 ∧ runO (strikeF kd sq) 2 0 d = runO (strikeF kd sq) m k d1) (fun i _ => 2 - (intOf i).toNat)
  case atStart => exact ⟨0, 2, d, K, by omega, rfl, HX.out, fun x hx => .inl hx, ChgL.refl _ _, HF.out, rfl⟩
  case round =>
    obtain ⟨k, m, d1, K1, hkm, rfl, hX1, hK1, hC1, hf1, ho⟩ := hrel
    have HK1 : Hid (∀ x, x ∈ K1 → x ∈ K ∨ w.heap.size ≤ x) := hK1
    have HC1 : Hid (ChgL (B :: K) w wr) := hC1
    have HO : Hid (runO (strikeF kd sq) 2 0 d = runO (strikeF kd sq) m k d1) := ho
    have HF1 : Hid (Fit2 m d1) := hf1
    have HX1 : Hid (SpB wr B d1 K1) := hX1
    have zr := hC1.size
    clear hK1 hC1 ho hX1
    cases m with
    | zero =>
      obtain rfl : k = 2 := by omega
      clear hf1 hkm
      go_wp2
      go_ret
      rw [HO.out]
      exact ⟨rfl, K1, HX1.out, HK1.out, HC1.out⟩
    | succ m =>
      have hk2 : k < 2 := by omega
      have t1 : (k : Int) < 2 := by omega
      have CR := l5Raw_sp B d1 K1 wr HX1.out hf1.up (by have := hf1.low; have := hf1.room; omega)
      clear hf1
      go_wp2_with fail
      refine CR.mono ?_
      rintro e w5 (⟨hfl, rfl, ⟨K5, X5, s5⟩, C5⟩ | ⟨hfl, rfl, X5, C5⟩)
      · clear CR
        go_wp2
        go_ret
        rw [HO.out]
        have e : runO (strikeF kd sq) (m + 1) k d1 = .cut d1 := by
          show (strikeF kd sq k d1).next _ = _
          unfold strikeF rawO
          rw [if_pos hfl]
          rfl
        rw [e]
        exact ⟨rfl, K5, X5, fun b hb => HK1.out b (s5 b hb), HC1.out.trans (C5.mono (fun b hb => by simp at hb; simp [hb]))⟩
      · have HFL : Hid (¬ (d1.stop ≠ -1 ∧ d1.stop ≤ d1.writes)) := hfl
        have HC5 : Hid (ChgL [B] wr w5) := C5
        have z5 := C5.size
        clear CR hfl C5
        obtain ⟨cs5, B5, O5⟩ := X5
        have O5d : EncO w5.drew B { d1 with writes := d1.writes + 1 } cs5 K1 := O5.chg (ChgL.refl [B] _).drew
        obtain ⟨p1, c1, p2, c2, p3, c3, K1', K2', K3', rfl, rfl, WO⟩ := O5d.open
        have two := HF1.out.two
        obtain ⟨gt, cap, ce, Ls, e3, eL, S3⟩ := slice_form WO.t (by show d1.tapes.1 ≠ 0; omega)
        simp only [List.cons.injEq, Value.slice.injEq, and_true, true_and] at e3
        obtain ⟨rfl, rfl⟩ := e3
        subst eL
        have hT : k < d1.tapes.1 := by omega
        have nd3 : (gt :: catN d1.tapes.1 Ls).Nodup := (List.nodup_append.1 (List.nodup_append.1 WO.nd).2.1).2.1
        obtain ⟨ao9, cap9, K9, e9, eK9, o9⟩ := Tape_own (S3.each k hT)
        have in9 : ∀ b, b ∈ K9 → b ∈ gt :: catN d1.tapes.1 Ls := fun b hb => SlO.sub k hT b (by rw [eK9]; exact hb)
        have inK : ∀ b, b ∈ gt :: catN d1.tapes.1 Ls → b ∈ K1' ++ (K2' ++ (gt :: catN d1.tapes.1 Ls)) := fun b hb => List.mem_append_right _ (List.mem_append_right _ hb)
        have hgt : gt ∉ K9 := fun hb => (List.nodup_cons.1 nd3).1 (mem_catN.2 ⟨k, hT, by rw [eK9]; exact hb⟩)
        have hB9 : B ∉ K9 := fun hb => O5.ne (inK _ (in9 _ hb))
        have x11 : w5.drew.cell? ⟨B, 11, none⟩ = some (.slice (some ⟨gt, 0, none⟩) d1.tapes.1 c3) := B5.cell 11
        have y1 : w5.drew.cell? ⟨gt, k * 2 + 1, none⟩ = some (.slice ao9 (d1.tapes.2 k).recs.1 cap9) := (S3.cell hT (j := 1) (by decide)).trans (by rw [e9]; rfl)
        have hgl : gt < w5.drew.heap.size := S3.lt
        have hBl : B < w5.drew.heap.size := B5.lt
        have KS : ∀ w', ChgL K9 w5.drew w' → (w'.cell? ⟨B, 11, none⟩ = some (.slice (some ⟨gt, 0, none⟩) d1.tapes.1 c3) ∧ w'.cell? ⟨gt, k * 2 + 1, none⟩ = some (.slice ao9 (d1.tapes.2 k).recs.1 cap9)) := fun w' hc => ⟨(World.cell?_of_block (hc.block B hBl hB9)).trans x11, (World.cell?_of_block (hc.block gt hgl hgt)).trans y1⟩
        have CC := strike_own o9 (by rw [← eK9]; exact catN_each (List.nodup_cons.1 nd3).2 hT) (HF1.out.few k hk2) kd sq
        have i1 : (0 : Int) ≤ (k : Int) := by omega
        have i2 : (k : Int) < (d1.tapes.1 : Int) := by omega
        have HNE : Hid (B ∉ K1' ++ (K2' ++ (gt :: catN d1.tapes.1 Ls))) := O5.ne
        have HBX : Hid (Box w5.drew B _ 38) := B5
        clear two O5d O5 B5
        go_upto_region 6 with fail
        refine wp_region_L 18 (fun w' => w'.cell? ⟨B, 11, none⟩ = some (.slice (some ⟨gt, 0, none⟩) d1.tapes.1 c3) ∧ w'.cell? ⟨gt, k * 2 + 1, none⟩ = some (.slice ao9 (d1.tapes.2 k).recs.1 cap9)) (by kernel_rfl) (KS _ (ChgL.refl _ _)) (fun hHeld => ?_)
        refine wpAnyL_take (i := 0) (oi := _) (v := ?_) 16 rfl (by kernel_rfl) (fun _ _ _ h => h) (Or.inl ⟨by rfl, ?_⟩) (by assumption) ?_
        rotate_left
        · intro w' hSw
          try dsimp only at hSw
          obtain ⟨hq0, hq1⟩ := hSw
          go_simp
          try with_reducible rfl
        try simp only [Act.put, List.setIfInBounds_toArray, List.set_cons_zero, List.set_cons_succ]
        refine wpAnyL_take (i := 1) (oi := _) (v := ?_) 16 rfl (by kernel_rfl) (fun _ _ _ h => h) (Or.inl ⟨by rfl, ?_⟩) (by assumption) ?_
        rotate_left
        · intro w' hSw
          try dsimp only at hSw
          obtain ⟨hq0, hq1⟩ := hSw
          go_simp
          try with_reducible rfl
        try simp only [Act.put, List.setIfInBounds_toArray, List.set_cons_zero, List.set_cons_succ]
        refine wpAnyL_take (i := 2) (oi := _) (v := ?_) 16 rfl (by kernel_rfl) (fun _ _ _ h => h) (Or.inl ⟨by rfl, ?_⟩) (by assumption) ?_
        rotate_left
        · intro w' hSw
          try dsimp only at hSw
          obtain ⟨hq0, hq1⟩ := hSw
          go_simp
          try with_reducible rfl
        try simp only [Act.put, List.setIfInBounds_toArray, List.set_cons_zero, List.set_cons_succ]
        refine wpAnyL_take (i := 3) (oi := _) (v := ?_) 16 rfl (by kernel_rfl) (fun _ _ _ h => h) (Or.inl ⟨by rfl, ?_⟩) (by assumption) ?_
        rotate_left
        · intro w' hSw
          try dsimp only at hSw
          obtain ⟨hq0, hq1⟩ := hSw
          go_simp
          try with_reducible rfl
        try simp only [Act.put, List.setIfInBounds_toArray, List.set_cons_zero, List.set_cons_succ]
        refine wpAnyL_take (i := 4) (oi := _) (v := ?_) 16 rfl (by kernel_rfl) (fun _ _ _ h => h) (Or.inl ⟨by rfl, ?_⟩) (by assumption) ?_
        rotate_left
        · intro w' hSw
          try dsimp only at hSw
          obtain ⟨hq0, hq1⟩ := hSw
          go_simp
          try with_reducible rfl
        try simp only [Act.put, List.setIfInBounds_toArray, List.set_cons_zero, List.set_cons_succ]
        refine wpAnyL_take (i := 5) (oi := _) (v := ?_) 16 rfl (by kernel_rfl) (fun _ _ _ h => h) (Or.inl ⟨by rfl, ?_⟩) (by assumption) ?_
        rotate_left
        · intro w' hSw
          try dsimp only at hSw
          obtain ⟨hq0, hq1⟩ := hSw
          go_simp
          try with_reducible rfl
        try simp only [Act.put, List.setIfInBounds_toArray, List.set_cons_zero, List.set_cons_succ]
        refine wpAnyL_take (i := 6) (oi := _) (v := ?_) 16 rfl (by kernel_rfl) (fun _ _ _ h => h) (Or.inl ⟨by rfl, ?_⟩) (by assumption) ?_
        rotate_left
        · intro w' hSw
          try dsimp only at hSw
          obtain ⟨hq0, hq1⟩ := hSw
          go_simp
          try with_reducible rfl
        try simp only [Act.put, List.setIfInBounds_toArray, List.set_cons_zero, List.set_cons_succ]
        refine wpAnyL_take (i := 7) (oi := _) (v := ?_) 16 rfl (by kernel_rfl) (fun _ _ _ h => h) (Or.inl ⟨by rfl, ?_⟩) (by assumption) ?_
        rotate_left
        · intro w' hSw
          try dsimp only at hSw
          obtain ⟨hq0, hq1⟩ := hSw
          go_simp
          try with_reducible rfl
        try simp only [Act.put, List.setIfInBounds_toArray, List.set_cons_zero, List.set_cons_succ]
        refine wpAnyL_take (i := 8) (oi := _) (v := ?_) 16 rfl (by kernel_rfl) (fun _ _ _ h => h) (Or.inl ⟨by rfl, ?_⟩) (by assumption) ?_
        rotate_left
        · intro w' hSw
          try dsimp only at hSw
          obtain ⟨hq0, hq1⟩ := hSw
          go_simp
          try with_reducible rfl
        try simp only [Act.put, List.setIfInBounds_toArray, List.set_cons_zero, List.set_cons_succ]
        refine wpAnyL_take (i := 9) (oi := _) (v := ?_) 16 rfl (by kernel_rfl) (fun _ _ _ h => h) (Or.inl ⟨by rfl, ?_⟩) (by assumption) ?_
        rotate_left
        · intro w' hSw
          try dsimp only at hSw
          obtain ⟨hq0, hq1⟩ := hSw
          go_simp
          try with_reducible rfl
        try simp only [Act.put, List.setIfInBounds_toArray, List.set_cons_zero, List.set_cons_succ]
        refine wpAnyL_take (i := 10) (oi := _) (v := ?_) 16 rfl (by kernel_rfl) (fun _ _ _ h => h) (Or.inl ⟨by rfl, ?_⟩) (by assumption) ?_
        rotate_left
        · intro w' hSw
          try dsimp only at hSw
          obtain ⟨hq0, hq1⟩ := hSw
          go_simp
          try with_reducible rfl
        try simp only [Act.put, List.setIfInBounds_toArray, List.set_cons_zero, List.set_cons_succ]
        refine wpAnyL_take (i := 11) (oi := _) (v := ?_) 16 rfl (by kernel_rfl) (fun _ _ _ h => h) (Or.inl ⟨by rfl, ?_⟩) (by assumption) ?_
        rotate_left
        · intro w' hSw
          try dsimp only at hSw
          obtain ⟨hq0, hq1⟩ := hSw
          go_simp
          try with_reducible rfl
        try simp only [Act.put, List.setIfInBounds_toArray, List.set_cons_zero, List.set_cons_succ]
        refine wpAnyL_take (i := 12) (oi := _) (v := ?_) 16 rfl (by kernel_rfl) (fun _ _ _ h => h) (Or.inl ⟨by rfl, ?_⟩) (by assumption) ?_
        rotate_left
        · intro w' hSw
          try dsimp only at hSw
          obtain ⟨hq0, hq1⟩ := hSw
          go_simp
          try with_reducible rfl
        try simp only [Act.put, List.setIfInBounds_toArray, List.set_cons_zero, List.set_cons_succ]
        refine wpAnyL_take (i := 13) (oi := _) (v := ?_) 16 rfl (by kernel_rfl) (fun _ _ _ h => h) (Or.inl ⟨by rfl, ?_⟩) (by assumption) ?_
        rotate_left
        · intro w' hSw
          try dsimp only at hSw
          obtain ⟨hq0, hq1⟩ := hSw
          go_simp
          try with_reducible rfl
        try simp only [Act.put, List.setIfInBounds_toArray, List.set_cons_zero, List.set_cons_succ]
        refine wpAnyL_take (i := 14) (oi := _) (v := ?_) 16 rfl (by kernel_rfl) (fun _ _ _ h => h) (Or.inl ⟨by rfl, ?_⟩) (by assumption) ?_
        rotate_left
        · intro w' hSw
          try dsimp only at hSw
          obtain ⟨hq0, hq1⟩ := hSw
          go_simp
          try with_reducible rfl
        try simp only [Act.put, List.setIfInBounds_toArray, List.set_cons_zero, List.set_cons_succ]
        refine wpAnyL_one (i := 15) (o := _) rfl (by kernel_rfl) (fun KC hKC => ?_)
        refine step_call rfl 108 _ _ rfl #[.slice ao9 (d1.tapes.2 k).recs.1 cap9, .int .i64 kd, .int .i64 sq] ?_ Tryz.func108 (by kernel_rfl) (by kernel_rfl) CC ?_; (simp [Act.eval, Act.put]); rintro ee w6 ⟨ao', cap', K', rfl, TT⟩; have k1 := KS w6 TT.chg; have f1 : w6.frozen? ⟨gt, k * 2 + 1, none⟩ = false := (World.frozen?_of_block (a := ⟨gt, k * 2 + 1, none⟩) (TT.chg.block gt S3.lt hgt)).trans (S3.frozen _); have t1 : w6.cell? ⟨gt, k * 2 + 1, none⟩ = some (.slice ao9 (d1.tapes.2 k).recs.1 cap9) := k1.2; refine ⟨_, rfl, ?_⟩
        refine hKC.out _ _ (k1) (fun hHeld => ?_)
        clear hKC KC
        try simp only [Act.put, List.setIfInBounds_toArray, List.set_cons_zero, List.set_cons_succ]
        refine wpAnyL_take (i := 16) (oi := _) (v := ?_) 16 rfl (by kernel_rfl) (fun _ _ _ h => h) (Or.inl ⟨by rfl, ?_⟩) (by assumption) ?_
        rotate_left
        · intro w' hSw
          try dsimp only at hSw
          obtain ⟨hq0, hq1⟩ := hSw
          go_simp
          try with_reducible rfl
        try simp only [Act.put, List.setIfInBounds_toArray, List.set_cons_zero, List.set_cons_succ]
        refine wpAnyL_take (i := 17) (oi := _) (v := ?_) 16 rfl (by kernel_rfl) (fun _ _ _ h => h) (Or.inl ⟨by rfl, ?_⟩) (by assumption) ?_
        rotate_left
        · intro w' hSw
          try dsimp only at hSw
          obtain ⟨hq0, hq1⟩ := hSw
          go_simp
          try with_reducible rfl
        try simp only [Act.put, List.setIfInBounds_toArray, List.set_cons_zero, List.set_cons_succ]
        refine wpAnyL_last (o := _) rfl (by kernel_rfl) (fun KC hKC => ?_)
        go_simp
        refine hKC.out _ _ ?_
        clear hKC KC
        try simp only [Act.put, List.setIfInBounds_toArray, List.set_cons_zero, List.set_cons_succ]
        refine wpAnyL_done (by kernel_rfl) ?_ _
        have TK := tape_struck e9 TT
        rw [← eK9] at TK
        obtain ⟨T7, -⟩ := S3.turn_cell nd3 hT (j := 1) (by decide) _ TK (w' := w6.setCell ⟨gt, k * layTape.sz + 1, none⟩ (.slice ao' (strikeL (d1.tapes.2 k).recs kd sq).1 cap')) rfl
        have WO7 := WO.tapes (Nat.le_refl _) (Nat.zero_le _) T7
        have hin : ∀ b, b ∈ gt :: catN d1.tapes.1 Ls → b ≠ B := fun b hb he => HNE.out (by rw [← he]; exact inK b hb)
        have X7 := HBX.out.chgl T7.chg (fun hb => hin B hb rfl)
        have sub7 : ∀ b, b ∈ K1' ++ (K2' ++ (gt :: catN d1.tapes.1 (upd Ls k K'))) → b ∈ K1' ++ (K2' ++ (gt :: catN d1.tapes.1 Ls)) ∨ w5.heap.size ≤ b := fun b hb => by
          rcases List.mem_append.1 hb with h | h
          · exact .inl (List.mem_append_left _ h)
          · rcases List.mem_append.1 h with h | h
            · exact .inl (List.mem_append_right _ (List.mem_append_left _ h))
            · rcases T7.sub b h with h | h
              · exact .inl (inK b h)
              · exact .inr h.1
        have hE7 : B ∉ K1' ++ (K2' ++ (gt :: catN d1.tapes.1 (upd Ls k K'))) := fun hm => by
          rcases sub7 B hm with h | h
          · exact HNE.out h
          · have : B < w5.heap.size := hBl
            omega
        have O7 := WO7.encO hE7
        rw [List.append_nil] at O7
        obtain ⟨W7, hW7⟩ : ∃ x, x = w6.setCell ⟨gt, k * layTape.sz + 1, none⟩ (.slice ao' (strikeL (d1.tapes.2 k).recs kd sq).1 cap') := ⟨_, rfl⟩
        have S7 : SpB W7 B ({ strikeW d1 k kd sq with writes := d1.writes + 1 }) (K1' ++ (K2' ++ (gt :: catN d1.tapes.1 (upd Ls k K')))) := by rw [hW7]; refine ⟨_, ?_, O7⟩; exact X7
        have C7 : ChgL (B :: (K1' ++ (K2' ++ (gt :: catN d1.tapes.1 Ls)))) wr W7 := by
          have h1 : ChgL (B :: (K1' ++ (K2' ++ (gt :: catN d1.tapes.1 Ls)))) wr w5.drew := (HC5.out.mono (fun b hb => by simp at hb; simp [hb])).trans ((ChgL.refl _ _).drew)
          rw [hW7]
          exact h1.trans (T7.chg.mono (fun b hb => List.mem_cons_of_mem _ (inK b hb)))
        have HS7 : Hid (SpB W7 B ({ strikeW d1 k kd sq with writes := d1.writes + 1 }) (K1' ++ (K2' ++ (gt :: catN d1.tapes.1 (upd Ls k K'))))) := S7
        have HC7 : Hid (ChgL (B :: (K1' ++ (K2' ++ (gt :: catN d1.tapes.1 Ls)))) wr W7) := C7
        have HS8 : Hid (∀ b, b ∈ K1' ++ (K2' ++ (gt :: catN d1.tapes.1 (upd Ls k K'))) → b ∈ K ∨ w.heap.size ≤ b) := fun b hb => by
          rcases sub7 b hb with h | h
          · exact HK1.out b h
          · exact .inr (by omega)
        clear S7 C7 O7 X7 WO7 T7 TK TT S3 nd3 e9 eK9 o9 KS CC k1 WO
        go_upto_region 3 with fail
        change Code.wp Tryz.prog _ _ _ (w6.setCell ⟨gt, k * layTape.sz + 1, none⟩ (.slice ao' (strikeL (d1.tapes.2 k).recs kd sq).1 cap'))
        rw [← hW7]
        clear hW7
        go_wp2
        go_roundw
        case rel =>
          have e1 : strikeF kd sq k d1 = .done 0 { strikeW d1 k kd sq with writes := d1.writes + 1 } := by unfold strikeF rawO; rw [if_neg HFL.out]
          refine ⟨k + 1, m, _, _, by omega, by go_num, HS7.out, HS8.out, chg_more HC1.out HK1.out HC7.out, strikeF_fit HF1.out hk2 e1, ?_⟩
          rw [HO.out]
          show (strikeF kd sq k d1).next _ = _
          rw [e1]
          simp [Outc.next]
        case measure => simp [intOf]; omega
end Go.Proofs.YthdknhjaohhfiaaGreat

namespace Go.Proofs.YthdknhjaohhfiaaGreat
open Go.RowKit
set_option linter.unusedVariables false
section
variable {ops : Array Oper} {Q : Exit → Act → World → Prop} {md : Region.Mode} {S : World → Prop} {L : Nat}
/-- a whole struct that the condition names is read -/
theorem load_yield {o : Oper} {a : Act} (T : TypeId) (x : Operand) (ho : o.op = .load T x) (hg : o.guard = none) (b : Nat) (hx : a.eval x = .pointer (some ⟨b, 0, none⟩)) {cs : List Value} (hB : ∀ w, S w → Box w b cs.toArray T) {fs : Array Field} (hu : Tryz.prog.underlying T = some (.struct fs)) {n : Nat} (hi : (Tryz.prog.info? T).map (·.size) = some n) (hl : cs.length = n) : YieldsIf Tryz.prog ops S o (.agg cs.toArray) a := by
  refine .inl ⟨by simp [Region.wanted, hg], fun w hS => ?_⟩
  unfold execOp
  simp only [ho, hx, Instr.loadAt, Instr.sureAddr, Sem.run_bind, Sem.run_pure, Result.andThen_ok, run_loadVar_row w b T T cs.toArray (0, 0) (.struct fs) (hB w hS) hu rfl (by rw [hi]; simp [hl])]
/-- a whole struct is stored -/
theorem step_storeBox {o : Oper} {a : Act} {w : World} {K : Act → World → Prop} {F : Prop} (hg : o.guard = none) (T : TypeId) (x y : Operand) (ho : o.op = .store T x y) (b : Nat) (hx : a.eval x = .pointer (some ⟨b, 0, none⟩)) {cs old : List Value} (hy : a.eval y = .agg cs.toArray) (hB : Box w b old.toArray T) {n : Nat} (hi : (Tryz.prog.info? T).map (·.size) = some n) (hl : cs.length = n) (hol : old.length = n) (h1 : ∀ v, v ∈ cs → v.oneCell' = true)
    (h : ∀ w', Box w' b cs.toArray T → ChgL [b] w w' → w'.heap.size = w.heap.size → K (a.put o.dst undef) w') : if Region.wanted o (yielded ops a.tmps) = true then Oper.wp Tryz.prog o a w K Q else F := by
  have hw : Region.wanted o (yielded ops a.tmps) = true := by simp [Region.wanted, hg]
  rw [if_pos hw]
  refine wp_store_row T x y ho b cs.toArray hx hy T old.toArray hB (by rw [hi]; simp [hl]) (by simp [hl, hol]) (by simp; exact h1) ?_
  exact h _ (setRow_heap w b _ cs.toArray T (0, 0) hB) (chgL_setRow b _) (by simp)
/-- the last store of a whole struct -/
theorem wpAnyL_store {o : Oper} {fuel : Nat} {listed : Array Bool} {a : Act} {w : World} (ho : ops[L]? = some o) (hr : Region.ready md ops listed = [L]) (hr2 : Region.ready md ops (listed.setIfInBounds L true) = []) (hg : o.guard = none) (hd : o.dst = none) (T : TypeId) (x y : Operand) (hop : o.op = .store T x y) (b : Nat) (hx : a.eval x = .pointer (some ⟨b, 0, none⟩)) {cs old : List Value} (hy : a.eval y = .agg cs.toArray) (hB : Box w b old.toArray T) {n : Nat} (hi : (Tryz.prog.info? T).map (·.size) = some n) (hl : cs.length = n) (hol : old.length = n) (h1 : ∀ v, v ∈ cs → v.oneCell' = true)
    (h : ∀ w', Box w' b cs.toArray T → ChgL [b] w w' → w'.heap.size = w.heap.size → Q .normal a w') : wpAnyL Tryz.prog md ops Q S L (fuel + 1) listed a w := by
  refine wpAnyL_last ho hr (fun KC hKC => ?_)
  refine step_storeBox hg T x y hop b hx hy hB hi hl hol h1 (fun w' X C z => ?_)
  have e : a.put o.dst undef = a := by rw [hd]; rfl
  rw [e]
  exact hKC _ _ (wpAnyL_done hr2 (h w' X C z) _)
end
theorem below_drew (w : World) : Below w.heap.size w w.drew := ⟨rfl, rfl, rfl, Nat.le_refl _, fun _ _ => rfl⟩
end Go.Proofs.YthdknhjaohhfiaaGreat

namespace Go.Proofs.YthdknhjaohhfiaaGreat
open Go.RowKit F256
set_option linter.unusedVariables false
set_option linter.unusedSimpArgs false
/-- a world's box, two numbers' boxes, the result's -/
structure Cap2 (w wc : World) (c1 : Array Value) (x y : Int) (c4 : Array Value) (t1 t4 : TypeId) : Prop where
  b1 : Box wc w.heap.size c1 t1
  b2 : Box wc (w.heap.size + 1) #[.int .i64 x] 2
  b3 : Box wc (w.heap.size + 1 + 1) #[.int .i64 y] 2
  b4 : Box wc (w.heap.size + 1 + 1 + 1) c4 t4
  bel : Below w.heap.size w wc
theorem Cap2.call {w wc w' : World} {c1 c4 : Array Value} {x y : Int} {t1 t4 : TypeId} (h : Cap2 w wc c1 x y c4 t1 t4) (hb : Below wc.heap.size wc w') : Cap2 w w' c1 x y c4 t1 t4 := ⟨h.b1.call hb, h.b2.call hb, h.b3.call hb, h.b4.call hb, h.bel.trans (hb.mono h.bel.size)⟩
end Go.Proofs.YthdknhjaohhfiaaGreat

namespace Go.Proofs.YthdknhjaohhfiaaGreat
open Go.RowKit F256
set_option linter.unusedVariables false
set_option linter.unusedSimpArgs false
/-- the world's fault, then 9 where it is down -/
def AskAns (d : WorldD) (x : Int) : Prop := (x ≠ 0 ∧ WldAns d x) ∨ (WldAns d 0 ∧ ((d.down = true ∧ x = 9) ∨ (d.down = false ∧ x = 0)))
theorem AskAns.one {d : WorldD} {x y : Int} (h : AskAns d x) (k : AskAns d y) : x = y := by
  rcases h with ⟨h1, h2⟩ | ⟨h1, h2⟩ <;> rcases k with ⟨k1, k2⟩ | ⟨k1, k2⟩
  · exact h2.one k2
  · exact absurd (h2.one k1) h1
  · exact absurd (k2.one h1) k1
  · rcases h2 with ⟨a, rfl⟩ | ⟨a, rfl⟩ <;> rcases k2 with ⟨b, rfl⟩ | ⟨b, rfl⟩
    · rfl
    · rw [a] at b; cases b
    · rw [a] at b; cases b
    · rfl
/-- a number is told -/
def IntPost (P : Int → Prop) (w : World) (e : Ending) (w' : World) : Prop := ∃ x, e = .returned (.int .i64 x) ∧ P x ∧ Below w.heap.size w w'
end Go.Proofs.YthdknhjaohhfiaaGreat

namespace Go.Proofs.YthdknhjaohhfiaaGreat
open Go.RowKit F256
set_option linter.unusedVariables false
set_option linter.unusedSimpArgs false
set_option maxHeartbeats 4000000 in
set_option maxRecDepth 20000 in
theorem l5Asked_any (d : WorldD) (cs : List Value) (hi : Nat) (w : World) (h : layWorld.rd w hi d cs) (hhi : hi ≤ w.heap.size) (hsz : szWorldD d ≤ 1048576) :
    Calls Tryz.prog 52 #[.agg cs.toArray] w (IntPost (AskAns d) w) := by
  have C := fun w' hb => specWorld_any d cs hi w' (layWorld.rd_below h (B := w.heap.size) hb hhi)
  obtain ⟨ao1, cap1, ao2, cap2, ao3, cap3, rfl, -⟩ := World_rd h
  have T0 := one_new w #[.int .i64 (d.shape 0), .int .i64 (d.shape 1), .int .i64 (d.shape 2), .int .i64 (d.shape 3), .int .i64 (d.shape 4), .int .i64 (d.shape 5), .int .i64 (d.shape 6), .int .i64 (d.shape 7), .int .i64 (d.shape 8), .slice ao1 d.groups.1 cap1, .slice ao2 d.on.1 cap2, .slice ao3 d.tapes.1 cap3, .int .i64 d.writes, .int .i64 d.stop, .bool d.down] 38
  clear h
  go_enter Tryz.func52, Tryz.ntmps52
  go_wp2_with (refine wp_loadBox 38 (.tmp 1) rfl rfl w.heap.size rfl (cs := [.int .i64 (d.shape 0), .int .i64 (d.shape 1), .int .i64 (d.shape 2), .int .i64 (d.shape 3), .int .i64 (d.shape 4), .int .i64 (d.shape 5), .int .i64 (d.shape 6), .int .i64 (d.shape 7), .int .i64 (d.shape 8), .slice ao1 d.groups.1 cap1, .slice ao2 d.on.1 cap2, .slice ao3 d.tapes.1 cap3, .int .i64 d.writes, .int .i64 d.stop, .bool d.down]) T0.b1 Tryz.underlying38 size_W rfl ?_)
  refine (C _ T0.bel (Nat.le_trans hhi T0.bel.size) (wld_ok_names hsz)).mono ?_
  rintro e w1 ⟨x, rfl, hx, b1⟩
  have T1 := T0.call b1
  have HX : Hid (WldAns d x) := hx
  have HB : Hid (Below w.heap.size w w1) := T1.bel
  have c14 : w1.cell? ⟨w.heap.size, 14, none⟩ = some (.bool d.down) := T1.b1.cell 14
  clear T0 T1 b1 C hx
  by_cases hx0 : x = 0
  · subst hx0
    obtain ⟨dn, hdn⟩ : ∃ b, b = d.down := ⟨_, rfl⟩
    rw [← hdn] at c14
    have HD : Hid (dn = d.down) := hdn
    clear hdn
    cases dn with
    | true =>
      go_wp2
      go_ret
      exact ⟨9, rfl, .inr ⟨HX.out, .inl ⟨HD.out.symm, rfl⟩⟩, HB.out⟩
    | false =>
      go_wp2
      go_ret
      exact ⟨0, rfl, .inr ⟨HX.out, .inr ⟨HD.out.symm, rfl⟩⟩, HB.out⟩
  · have hne : (x != 0) = true := by simp [hx0]
    go_wp2
    go_ret
    exact ⟨x, rfl, .inl ⟨hx0, HX.out⟩, HB.out⟩
set_option maxHeartbeats 4000000 in
set_option maxRecDepth 20000 in
theorem powered_any (d : WorldD) (cs : List Value) (hi : Nat) (w : World) (h : layWorld.rd w hi d cs) (hhi : hi ≤ w.heap.size) (hsz : szWorldD d ≤ 1048576) :
    Calls Tryz.prog 55 #[.agg cs.toArray] w (IntPost (AskAns d) w) := by
  have C := fun w' hb => implWorld_any d cs hi w' (layWorld.rd_below h (B := w.heap.size) hb hhi)
  obtain ⟨ao1, cap1, ao2, cap2, ao3, cap3, rfl, -⟩ := World_rd h
  have T0 := one_new w #[.int .i64 (d.shape 0), .int .i64 (d.shape 1), .int .i64 (d.shape 2), .int .i64 (d.shape 3), .int .i64 (d.shape 4), .int .i64 (d.shape 5), .int .i64 (d.shape 6), .int .i64 (d.shape 7), .int .i64 (d.shape 8), .slice ao1 d.groups.1 cap1, .slice ao2 d.on.1 cap2, .slice ao3 d.tapes.1 cap3, .int .i64 d.writes, .int .i64 d.stop, .bool d.down] 38
  clear h
  go_enter Tryz.func55, Tryz.ntmps55
  go_wp2_with (refine wp_loadBox 38 (.tmp 1) rfl rfl w.heap.size rfl (cs := [.int .i64 (d.shape 0), .int .i64 (d.shape 1), .int .i64 (d.shape 2), .int .i64 (d.shape 3), .int .i64 (d.shape 4), .int .i64 (d.shape 5), .int .i64 (d.shape 6), .int .i64 (d.shape 7), .int .i64 (d.shape 8), .slice ao1 d.groups.1 cap1, .slice ao2 d.on.1 cap2, .slice ao3 d.tapes.1 cap3, .int .i64 d.writes, .int .i64 d.stop, .bool d.down]) T0.b1 Tryz.underlying38 size_W rfl ?_)
  refine (C _ T0.bel (Nat.le_trans hhi T0.bel.size) (wld_ok_names hsz)).mono ?_
  rintro e w1 ⟨x, rfl, hx, b1⟩
  have T1 := T0.call b1
  have HX : Hid (WldAns d x) := hx
  have HB : Hid (Below w.heap.size w w1) := T1.bel
  have c14 : w1.cell? ⟨w.heap.size, 14, none⟩ = some (.bool d.down) := T1.b1.cell 14
  clear T0 T1 b1 C hx
  by_cases hx0 : x = 0
  · subst hx0
    obtain ⟨dn, hdn⟩ : ∃ b, b = d.down := ⟨_, rfl⟩
    rw [← hdn] at c14
    have HD : Hid (dn = d.down) := hdn
    clear hdn
    cases dn with
    | true =>
      go_wp2
      go_ret
      exact ⟨9, rfl, .inr ⟨HX.out, .inl ⟨HD.out.symm, rfl⟩⟩, HB.out⟩
    | false =>
      go_wp2
      go_ret
      exact ⟨0, rfl, .inr ⟨HX.out, .inr ⟨HD.out.symm, rfl⟩⟩, HB.out⟩
  · have hne : (x != 0) = true := by simp [hx0]
    go_wp2
    go_ret
    exact ⟨x, rfl, .inl ⟨hx0, HX.out⟩, HB.out⟩
/-- a place within the shape -/
def PlaceP (s : Nat → Int) (g k r : Int) : Prop := InP g 0 (s 0 + s 1 - 1) ∧ InP k 0 (s 2 + s 3 - 1) ∧ InP r 0 (s 4 - 1)
def DriveP (s : Nat → Int) (g k : Int) : Prop := InP g 0 (s 0 + s 1 - 1) ∧ InP k 0 (s 2 + s 3 - 1)
end Go.Proofs.YthdknhjaohhfiaaGreat

namespace Go.Proofs.YthdknhjaohhfiaaGreat
open Go.RowKit F256
set_option linter.unusedVariables false
set_option linter.unusedSimpArgs false
def zeroBl : BlockD := ⟨0, (0, fun _ => 0)⟩
def drvAt (d : WorldD) (g k : Int) : DriveD := (d.groups.2 g.toNat).2 k.toNat
def ReadAns (d : WorldD) (g k r : Int) (q : BlockResultD) : Prop :=
  (∃ x, x ≠ 0 ∧ AskAns d x ∧ q = ⟨x, zeroBl⟩) ∨ (AskAns d 0 ∧ ((¬ PlaceP d.shape g k r ∧ q = ⟨3, zeroBl⟩) ∨ (PlaceP d.shape g k r ∧ ((¬ HasP d.on.1 d.on.2 g ∧ q = ⟨8, zeroBl⟩) ∨ (HasP d.on.1 d.on.2 g ∧
    (((drvAt d g k).wiped = true ∧ q = ⟨12, zeroBl⟩) ∨ ((drvAt d g k).wiped = false ∧ q = ⟨0, (drvAt d g k).blocks.2 r.toNat⟩)))))))
theorem ReadAns.one {d : WorldD} {g k r : Int} {p q : BlockResultD} (h : ReadAns d g k r p) (l : ReadAns d g k r q) : p = q := by
  rcases h with ⟨x, h1, h2, rfl⟩ | ⟨h1, h⟩ <;> rcases l with ⟨y, l1, l2, rfl⟩ | ⟨l1, l⟩
  · rw [h2.one l2]
  · exact absurd (h2.one l1) h1
  · exact absurd (l2.one h1) l1
  · rcases h with ⟨h2, rfl⟩ | ⟨h2, h⟩ <;> rcases l with ⟨l2, rfl⟩ | ⟨l2, l⟩
    · rfl
    · exact absurd l2 h2
    · exact absurd h2 l2
    · rcases h with ⟨h3, rfl⟩ | ⟨h3, h⟩ <;> rcases l with ⟨l3, rfl⟩ | ⟨l3, l⟩
      · rfl
      · exact absurd l3 h3
      · exact absurd h3 l3
      · rcases h with ⟨h4, rfl⟩ | ⟨h4, rfl⟩ <;> rcases l with ⟨l4, rfl⟩ | ⟨l4, rfl⟩
        · rfl
        · rw [h4] at l4; cases l4
        · rw [h4] at l4; cases l4
        · rfl
theorem ask_small {d : WorldD} {x : Int} (h : AskAns d x) : (-9223372036854775808 ≤ x ∧ x ≤ 9223372036854775807) := by
  rcases h with ⟨_, h⟩ | ⟨_, h | h⟩
  · exact wld_small h
  · rw [h.2]; decide
  · rw [h.2]; decide
theorem ask_ok {d : WorldD} (h : AskAns d 0) : OkWorld d := by
  rcases h with ⟨h, _⟩ | ⟨h, _⟩
  · exact absurd rfl h
  · exact h.ok
end Go.Proofs.YthdknhjaohhfiaaGreat

namespace Go.Proofs.YthdknhjaohhfiaaGreat
open Go.RowKit F256
set_option linter.unusedVariables false
set_option linter.unusedSimpArgs false
def wipedD (R : Nat) : DriveD := ⟨true, (R, fun _ => blankB)⟩
def wipeDW (d : WorldD) (g k : Int) : WorldD := { d with groups := (d.groups.1, upd d.groups.2 g.toNat ((d.groups.2 g.toNat).1, upd (d.groups.2 g.toNat).2 k.toNat (wipedD (d.shape 4).toNat))) }
def WipeDAns (d : WorldD) (g k : Int) (r : WorldResultD) : Prop := (∃ x, x ≠ 0 ∧ WldAns d x ∧ r = ⟨x, zeroW⟩) ∨ (WldAns d 0 ∧ ((¬ DriveP d.shape g k ∧ r = ⟨3, zeroW⟩) ∨ (DriveP d.shape g k ∧ r = ⟨0, wipeDW d g k⟩)))
theorem WipeDAns.one {d : WorldD} {g k : Int} {r q : WorldResultD} (h : WipeDAns d g k r) (l : WipeDAns d g k q) : r = q := by
  rcases h with ⟨x, h1, h2, rfl⟩ | ⟨h1, h⟩ <;> rcases l with ⟨y, k1, k2, rfl⟩ | ⟨k1, l⟩
  · rw [h2.one k2]
  · exact absurd (h2.one k1) h1
  · exact absurd (k2.one h1) k1
  · rcases h with ⟨h2, rfl⟩ | ⟨h2, rfl⟩ <;> rcases l with ⟨k2, rfl⟩ | ⟨k2, rfl⟩
    · rfl
    · exact absurd k2 h2
    · exact absurd h2 k2
    · rfl
end Go.Proofs.YthdknhjaohhfiaaGreat

namespace Go.Proofs.YthdknhjaohhfiaaGreat
open Go.RowKit F256
set_option linter.unusedVariables false
set_option linter.unusedSimpArgs false
def onW (d : WorldD) (g : Int) : WorldD := { d with on := (d.on.1 + 1, upd d.on.2 d.on.1 g) }
def OnAns (d : WorldD) (g : Int) (r : WorldResultD) : Prop := (∃ x, x ≠ 0 ∧ AskAns d x ∧ r = ⟨x, zeroW⟩) ∨ (AskAns d 0 ∧ ((¬ InP g 0 (d.shape 0 + d.shape 1 - 1) ∧ r = ⟨3, zeroW⟩) ∨ (InP g 0 (d.shape 0 + d.shape 1 - 1) ∧ ((HasP d.on.1 d.on.2 g ∧ r = ⟨0, d⟩) ∨ (¬ HasP d.on.1 d.on.2 g ∧ ((d.shape 5 ≤ (d.on.1 : Int) ∧ r = ⟨7, zeroW⟩) ∨ (¬ d.shape 5 ≤ (d.on.1 : Int) ∧ r = ⟨0, onW d g⟩)))))))
theorem OnAns.one {d : WorldD} {g : Int} {r q : WorldResultD} (h : OnAns d g r) (k : OnAns d g q) : r = q := by
  rcases h with ⟨x, h1, h2, rfl⟩ | ⟨h1, h⟩ <;> rcases k with ⟨y, k1, k2, rfl⟩ | ⟨k1, k⟩
  · rw [h2.one k2]
  · exact absurd (h2.one k1) h1
  · exact absurd (k2.one h1) k1
  · rcases h with ⟨h2, rfl⟩ | ⟨h2, h⟩ <;> rcases k with ⟨k2, rfl⟩ | ⟨k2, k⟩
    · rfl
    · exact absurd k2 h2
    · exact absurd h2 k2
    · rcases h with ⟨h3, rfl⟩ | ⟨h3, h⟩ <;> rcases k with ⟨k3, rfl⟩ | ⟨k3, k⟩
      · rfl
      · exact absurd h3 k3
      · exact absurd k3 h3
      · rcases h with ⟨h4, rfl⟩ | ⟨h4, rfl⟩ <;> rcases k with ⟨k4, rfl⟩ | ⟨k4, rfl⟩
        · rfl
        · exact absurd h4 k4
        · exact absurd k4 h4
        · rfl
end Go.Proofs.YthdknhjaohhfiaaGreat

namespace Go.Proofs.YthdknhjaohhfiaaGreat
open Go.RowKit F256
set_option linter.unusedVariables false
set_option linter.unusedSimpArgs false
def FailsP (d : WorldD) : Prop := d.stop ≠ -1 ∧ d.stop ≤ d.writes
def trustedW (d : WorldD) (G k : Nat) : WorldD := { trustW d G k with writes := d.writes + 1 }
def TrustAns (d : WorldD) (g k : Int) (r : WorldResultD) : Prop := (∃ x, x ≠ 0 ∧ AskAns d x ∧ r = ⟨x, zeroW⟩) ∨ (AskAns d 0 ∧ ((¬ DriveP d.shape g k ∧ r = ⟨3, zeroW⟩) ∨ (DriveP d.shape g k ∧ ((¬ HasP d.on.1 d.on.2 g ∧ r = ⟨8, zeroW⟩) ∨ (HasP d.on.1 d.on.2 g ∧ ((FailsP d ∧ r = ⟨9, cutW d⟩) ∨ (¬ FailsP d ∧ r = ⟨0, trustedW d g.toNat k.toNat⟩)))))))
theorem TrustAns.one {d : WorldD} {g k : Int} {r q : WorldResultD} (h : TrustAns d g k r) (l : TrustAns d g k q) : r = q := by
  rcases h with ⟨x, h1, h2, rfl⟩ | ⟨h1, h⟩ <;> rcases l with ⟨y, k1, k2, rfl⟩ | ⟨k1, l⟩
  · rw [h2.one k2]
  · exact absurd (h2.one k1) h1
  · exact absurd (k2.one h1) k1
  · rcases h with ⟨h2, rfl⟩ | ⟨h2, h⟩ <;> rcases l with ⟨k2, rfl⟩ | ⟨k2, l⟩
    · rfl
    · exact absurd k2 h2
    · exact absurd h2 k2
    · rcases h with ⟨h3, rfl⟩ | ⟨h3, h⟩ <;> rcases l with ⟨k3, rfl⟩ | ⟨k3, l⟩
      · rfl
      · exact absurd k3 h3
      · exact absurd h3 k3
      · rcases h with ⟨h4, rfl⟩ | ⟨h4, rfl⟩ <;> rcases l with ⟨k4, rfl⟩ | ⟨k4, rfl⟩
        · rfl
        · exact absurd h4 k4
        · exact absurd k4 h4
        · rfl
theorem ask_up {d : WorldD} (h : AskAns d 0) : d.down = false := by
  rcases h with ⟨h, _⟩ | ⟨_, ⟨_, h⟩ | ⟨h, _⟩⟩
  · exact absurd rfl h
  · cases h
  · exact h
theorem WOpen.writes {w : World} {lo hi : Nat} {d : WorldD} {v1 v2 v3 : Value} {K1 K2 K3 : List Nat} (h : WOpen w lo hi d v1 v2 v3 K1 K2 K3) (n : Int) (hn : -9223372036854775808 ≤ n ∧ n ≤ 9223372036854775807) : WOpen w lo hi { d with writes := n } v1 v2 v3 K1 K2 K3 := ⟨h.g, h.o, h.t, h.nd, h.inn, h.k0, hn, h.k5⟩
end Go.Proofs.YthdknhjaohhfiaaGreat

namespace Go.Proofs.YthdknhjaohhfiaaGreat
open Go.RowKit F256
set_option linter.unusedVariables false
set_option linter.unusedSimpArgs false
theorem next_done (o : Outc) : o.next (fun d => .done 0 d) = o := by
  cases o with
  | cut d => rfl
  | done c d =>
    show (if c = 0 then _ else _) = _
    split
    · rename_i h; rw [h]
    · rfl
theorem run_one (f : Nat → WorldD → Outc) (d : WorldD) : runO f 1 0 d = f 0 d := next_done _
theorem run_zero {f : Nat → WorldD → Outc} (hf : ∀ k d c d', f k d = .done c d' → c = 0) : ∀ (m k : Nat) (d : WorldD) (c : Int) (d' : WorldD), runO f m k d = .done c d' → c = 0
  | 0, k, d, c, d', h => by cases h; rfl
  | m + 1, k, d, c, d', h => by
    have h2 : (f k d).next (runO f m (k + 1)) = .done c d' := h
    cases e : f k d with
    | cut x => rw [e] at h2; cases h2
    | done c2 d2 =>
      rw [e, hf k d c2 d2 e] at h2
      exact run_zero hf m (k + 1) d2 c d' h2
theorem strike_zero (kd sq : Int) : ∀ (m k : Nat) (d : WorldD) (c : Int) (d' : WorldD), runO (strikeF kd sq) m k d = .done c d' → c = 0 := run_zero (fun k d c d' h => by
  unfold strikeF rawO at h
  split at h
  · cases h
  · cases h; rfl)
set_option maxHeartbeats 8000000 in
set_option maxRecDepth 20000 in
theorem striking_task (kd sq : Int) (a1 a2 B : Nat) (w0 : World) (h1 : w0.cell? ⟨a1, 0, none⟩ = some (.int .i64 kd)) (h2 : w0.cell? ⟨a2, 0, none⟩ = some (.int .i64 sq)) (l1 : a1 < B) (l2 : a2 < B) :
    TaskV 109 #[.pointer (some ⟨a1, 0, none⟩), .pointer (some ⟨a2, 0, none⟩)] (runO (strikeF kd sq) 2 0) (Fit2 2) B w0 := by
  refine ⟨enters_of Tryz.func109 (by kernel_rfl) (by kernel_rfl), fun w E d K hB hBE hBK hX hf => ?_⟩
  show Calls Tryz.prog 109 #[.pointer (some ⟨E, 0, none⟩), .pointer (some ⟨a1, 0, none⟩), .pointer (some ⟨a2, 0, none⟩)] w _
  have g1 := (hB.cell (p := ⟨a1, 0, none⟩) l1).trans h1
  have g2 := (hB.cell (p := ⟨a2, 0, none⟩) l2).trans h2
  have HX : Hid (EncB w E d K) := hX
  have HF : Hid (Fit2 2 d) := hf
  have HBK : Hid (∀ b, b ∈ K → B ≤ b) := hBK
  clear hX hf hBK h1 h2 hB
  go_enter Tryz.func109, Tryz.ntmps109
  go_wp2
  go_loopw [6] (fun i wr => ∃ (k m : Nat) (d1 : WorldD) (K1 : List Nat), k + m = 2 ∧ i = .int .i64 k ∧ EncB wr E d1 K1 ∧ (∀ x, x ∈ K1 → x ∈ K ∨ w.heap.size ≤ x) ∧ ChgL (E :: K) w wr ∧ Fit2 m d1 ∧ runO (strikeF kd sq) 2 0 d = runO (strikeF kd sq) m k d1) (fun i _ => 2 - (intOf i).toNat)
  case atStart => exact ⟨0, 2, d, K, by omega, rfl, HX.out, fun x hx => .inl hx, ChgL.refl _ _, HF.out, rfl⟩
  case round =>
    obtain ⟨k, m, d1, K1, hkm, rfl, hX1, hK1, hC1, hf1, ho⟩ := hrel
    have HK1 : Hid (∀ x, x ∈ K1 → x ∈ K ∨ w.heap.size ≤ x) := hK1
    have HC1 : Hid (ChgL (E :: K) w wr) := hC1
    have HO : Hid (runO (strikeF kd sq) 2 0 d = runO (strikeF kd sq) m k d1) := ho
    have HF1 : Hid (Fit2 m d1) := hf1
    have HX1 : Hid (EncB wr E d1 K1) := hX1
    have zr := hC1.size
    have zE := HX.out.lt
    have bB : Below B w wr := hC1.bel (fun x hx => by
      rcases List.mem_cons.1 hx with rfl | h
      · exact hBE
      · exact HBK.out x h) (by omega)
    have g1' := (bB.cell (p := ⟨a1, 0, none⟩) l1).trans g1
    have g2' := (bB.cell (p := ⟨a2, 0, none⟩) l2).trans g2
    clear hK1 hC1 ho hX1 bB
    cases m with
    | zero =>
      obtain rfl : k = 2 := by omega
      clear hf1 hkm
      go_wp2
      go_ret
      rw [HO.out]
      exact ⟨rfl, K1, HX1.out, HK1.out, HC1.out⟩
    | succ m =>
      have hk2 : k < 2 := by omega
      have t1 : (k : Int) < 2 := by omega
      have CR := strike_run E d1 K1 k kd sq wr HX1.out (by have := hf1.two; omega) (hf1.few k hk2) (by have := hf1.low; have := hf1.room; omega)
      obtain ⟨oc, hoc⟩ : ∃ x, x = rawO (fun d => strikeW d k kd sq) d1 := ⟨_, rfl⟩
      have HOC : Hid (oc = strikeF kd sq k d1) := hoc
      rw [← hoc] at CR
      clear hf1 hoc
      cases oc with
      | cut d2 =>
        go_wp2_with (go_at_call 110; refine CR.mono ?_; rintro e w5 ⟨rfl, K5, X5, s5, C5⟩)
        refine ⟨rfl, ?_⟩
        rw [HO.out]
        have e : runO (strikeF kd sq) (m + 1) k d1 = .cut d2 := by
          show (strikeF kd sq k d1).next _ = _
          rw [← HOC.out]; rfl
        rw [e]
        exact RunP.after (rv := fun c => .int .i64 c) (o := .cut d2) HK1.out HC1.out ⟨rfl, K5, X5, s5, C5⟩
      | done c d2 =>
        go_wp2_with (go_at_call 110; refine CR.mono ?_; rintro e w5 ⟨rfl, K5, X5, s5, C5⟩)
        go_roundw
        case rel =>
          have c0 : c = 0 := strike_zero kd sq 1 k d1 c d2 (by
            show (strikeF kd sq k d1).next _ = _
            rw [← HOC.out]; exact next_done _)
          refine ⟨k + 1, m, d2, K5, by omega, by go_num, X5, fun x hx => by
            rcases s5 x hx with h | h
            · exact HK1.out x h
            · exact .inr (by omega), chg_more HC1.out HK1.out C5, strikeF_fit HF1.out hk2 HOC.out.symm, ?_⟩
          rw [HO.out]
          show (strikeF kd sq k d1).next _ = _
          rw [← HOC.out, c0]
          simp [Outc.next]
        case measure => simp [intOf]; omega
theorem striking_is (kd sq : Int) (w : World) : Calls Tryz.prog 58 #[.int .i64 kd, .int .i64 sq] w fun e w' => e = .returned (.func (.func 109) #[] #[.pointer (some ⟨w.heap.size, 0, none⟩), .pointer (some ⟨w.heap.size + 1, 0, none⟩)]) ∧ Box w' w.heap.size #[.int .i64 kd] 2 ∧ Box w' (w.heap.size + 1) #[.int .i64 sq] 2 ∧ Below w.heap.size w w' := by
  have hmf : ∀ (fn : Fn) (first cap : Array Value) (w : World), (Instr.makeFunc fn first cap).run Tryz.prog w = .ok (.func fn first cap) w := fun _ _ _ _ => rfl
  have T0 := two_newb w #[.int .i64 kd] #[.int .i64 sq] 2 2
  go_enter Tryz.func58, Tryz.ntmps58
  go_wp2
  go_ret
  exact ⟨by simp, T0.b1, T0.b2, T0.bel⟩
def SbAns (d : WorldD) (kd sq : Int) (r : WorldResultD) : Prop := (∃ x, x ≠ 0 ∧ AskAns d x ∧ r = ⟨x, zeroW⟩) ∨ (AskAns d 0 ∧ r = (runO (strikeF kd sq) 2 0 d).final)
theorem SbAns.one {d : WorldD} {kd sq : Int} {r q : WorldResultD} (h : SbAns d kd sq r) (l : SbAns d kd sq q) : r = q := by
  rcases h with ⟨x, h1, h2, rfl⟩ | ⟨h1, rfl⟩ <;> rcases l with ⟨y, k1, k2, rfl⟩ | ⟨k1, rfl⟩
  · rw [h2.one k2]
  · exact absurd (h2.one k1) h1
  · exact absurd (k2.one h1) k1
  · rfl
theorem fit_ok {d : WorldD} (h : OkWorld d) (hd : d.down = false) : Fit2 1000000 d := by
  obtain ⟨hc, _⟩ := h.count
  unfold InP at hc
  refine ⟨h.form.2.2, fun T hT => ?_, hd, by omega, by omega⟩
  have := h.few T (by rw [h.form.2.2]; exact hT)
  omega
theorem Fit2.less {n m : Nat} {d : WorldD} (h : Fit2 n d) (hm : m ≤ n) : Fit2 m d := ⟨h.two, h.few, h.up, h.low, by have := h.room; omega⟩
set_option maxHeartbeats 32000000 in
set_option maxRecDepth 20000 in
theorem implSb_any (d : WorldD) (kd : Int) (sq : Int) (cs : List Value) (hi : Nat) (w : World) (h : layWorld.rd w hi d cs) (hhi : hi ≤ w.heap.size) (hsz : szWorldD d ≤ 1048576) (hkd : -9223372036854775808 ≤ kd ∧ kd ≤ 9223372036854775807) (hsq : -9223372036854775808 ≤ sq ∧ sq ≤ 9223372036854775807) :
    Calls Tryz.prog 22 #[.agg cs.toArray, .int .i64 kd, .int .i64 sq] w (ResPost (SbAns d kd sq) w) := by
  have h' := h
  obtain ⟨ao1, cap1, ao2, cap2, ao3, cap3, rfl, g1, g2, g3, k0, k4, k5⟩ := World_rd h'
  have HRD : Hid (layWorld.rd w hi d [.int .i64 (d.shape 0), .int .i64 (d.shape 1), .int .i64 (d.shape 2), .int .i64 (d.shape 3), .int .i64 (d.shape 4), .int .i64 (d.shape 5), .int .i64 (d.shape 6), .int .i64 (d.shape 7), .int .i64 (d.shape 8), .slice ao1 d.groups.1 cap1, .slice ao2 d.on.1 cap2, .slice ao3 d.tapes.1 cap3, .int .i64 d.writes, .int .i64 d.stop, .bool d.down]) := h
  have HSZ : Hid (szWorldD d ≤ 1048576) := hsz
  have Hkd : Hid (-9223372036854775808 ≤ kd ∧ kd ≤ 9223372036854775807) := hkd
  have Hsq : Hid (-9223372036854775808 ≤ sq ∧ sq ≤ 9223372036854775807) := hsq
  clear h h' hsz g1 g2 g3 k0 k4 k5 hkd hsq
  have T0 := two_newb w #[.int .i64 (d.shape 0), .int .i64 (d.shape 1), .int .i64 (d.shape 2), .int .i64 (d.shape 3), .int .i64 (d.shape 4), .int .i64 (d.shape 5), .int .i64 (d.shape 6), .int .i64 (d.shape 7), .int .i64 (d.shape 8), .slice ao1 d.groups.1 cap1, .slice ao2 d.on.1 cap2, .slice ao3 d.tapes.1 cap3, .int .i64 d.writes, .int .i64 d.stop, .bool d.down] #[.int .i64 0, .int .i64 0, .int .i64 0, .int .i64 0, .int .i64 0, .int .i64 0, .int .i64 0, .int .i64 0, .int .i64 0, .int .i64 0, .slice none 0 0, .slice none 0 0, .slice none 0 0, .int .i64 0, .int .i64 0, .bool false] 38 40
  go_enter Tryz.func22, Tryz.ntmps22
  go_wp2_with (refine wp_loadBox 38 (.tmp 3) rfl rfl (w.heap.size) rfl (cs := [.int .i64 (d.shape 0), .int .i64 (d.shape 1), .int .i64 (d.shape 2), .int .i64 (d.shape 3), .int .i64 (d.shape 4), .int .i64 (d.shape 5), .int .i64 (d.shape 6), .int .i64 (d.shape 7), .int .i64 (d.shape 8), .slice ao1 d.groups.1 cap1, .slice ao2 d.on.1 cap2, .slice ao3 d.tapes.1 cap3, .int .i64 d.writes, .int .i64 d.stop, .bool d.down]) (T0.b1) Tryz.underlying38 size_W rfl ?_)
  refine (powered_any d _ hi _ (layWorld.rd_below HRD.out T0.bel hhi) (Nat.le_trans hhi T0.bel.size) HSZ.out).mono ?_
  rintro e w1 ⟨x, rfl, hx, b1⟩
  have HT1 : Hid (Two w w1 #[.int .i64 (d.shape 0), .int .i64 (d.shape 1), .int .i64 (d.shape 2), .int .i64 (d.shape 3), .int .i64 (d.shape 4), .int .i64 (d.shape 5), .int .i64 (d.shape 6), .int .i64 (d.shape 7), .int .i64 (d.shape 8), .slice ao1 d.groups.1 cap1, .slice ao2 d.on.1 cap2, .slice ao3 d.tapes.1 cap3, .int .i64 d.writes, .int .i64 d.stop, .bool d.down] #[.int .i64 0, .int .i64 0, .int .i64 0, .int .i64 0, .int .i64 0, .int .i64 0, .int .i64 0, .int .i64 0, .int .i64 0, .int .i64 0, .slice none 0 0, .slice none 0 0, .slice none 0 0, .int .i64 0, .int .i64 0, .bool false] 38 40) := T0.call b1
  have HX : Hid (AskAns d x) := hx
  have z1 : w.heap.size + 1 < w1.heap.size := HT1.out.b2.lt
  clear b1 T0 hx
  by_cases hx0 : x = 0
  case neg =>
    have hne : (x != 0) = true := by simp [hx0]
    go_wp2_with (refine wp_storeBox 40 _ _ rfl rfl (w.heap.size + 1) rfl (cs := [.int .i64 x, .int .i64 0, .int .i64 0, .int .i64 0, .int .i64 0, .int .i64 0, .int .i64 0, .int .i64 0, .int .i64 0, .int .i64 0, .slice none 0 0, .slice none 0 0, .slice none 0 0, .int .i64 0, .int .i64 0, .bool false]) (old := [.int .i64 0, .int .i64 0, .int .i64 0, .int .i64 0, .int .i64 0, .int .i64 0, .int .i64 0, .int .i64 0, .int .i64 0, .int .i64 0, .slice none 0 0, .slice none 0 0, .slice none 0 0, .int .i64 0, .int .i64 0, .bool false]) rfl (HT1.out.b2) size_WR rfl rfl (code_one _ (ask_small HX.out) w) ?_; intro w9 X9 C9 z9)
    refine ret_box Tryz.results22 rfl X9 Tryz.underlying40 size_WR rfl rfl ?_
    exact post_code (ask_small HX.out) HT1.out.bel C9 (.inl ⟨x, hx0, HX.out, rfl⟩)
  subst hx0
  have HOK : Hid (OkWorld d) := ask_ok HX.out
  have hf0 := fit_ok HOK.out (ask_up HX.out)
  have CK := striking_is kd sq w1.drew
  have B0 : Below w1.heap.size w1 w1.drew := below_drew _
  have KS : ∀ w', Below w1.heap.size w1 w' → (Box w' w.heap.size #[.int .i64 (d.shape 0), .int .i64 (d.shape 1), .int .i64 (d.shape 2), .int .i64 (d.shape 3), .int .i64 (d.shape 4), .int .i64 (d.shape 5), .int .i64 (d.shape 6), .int .i64 (d.shape 7), .int .i64 (d.shape 8), .slice ao1 d.groups.1 cap1, .slice ao2 d.on.1 cap2, .slice ao3 d.tapes.1 cap3, .int .i64 d.writes, .int .i64 d.stop, .bool d.down] 38) := fun w' hb => HT1.out.b1.call hb
  go_upto_region 4 with fail
  refine wp_region_L 6 (fun w' => Box w' w.heap.size #[.int .i64 (d.shape 0), .int .i64 (d.shape 1), .int .i64 (d.shape 2), .int .i64 (d.shape 3), .int .i64 (d.shape 4), .int .i64 (d.shape 5), .int .i64 (d.shape 6), .int .i64 (d.shape 7), .int .i64 (d.shape 8), .slice ao1 d.groups.1 cap1, .slice ao2 d.on.1 cap2, .slice ao3 d.tapes.1 cap3, .int .i64 d.writes, .int .i64 d.stop, .bool d.down] 38) (by kernel_rfl) (KS _ B0) (fun hHeld => ?_)
  refine wpAnyL_take (i := 0) (oi := _) (v := .agg #[.int .i64 (d.shape 0), .int .i64 (d.shape 1), .int .i64 (d.shape 2), .int .i64 (d.shape 3), .int .i64 (d.shape 4), .int .i64 (d.shape 5), .int .i64 (d.shape 6), .int .i64 (d.shape 7), .int .i64 (d.shape 8), .slice ao1 d.groups.1 cap1, .slice ao2 d.on.1 cap2, .slice ao3 d.tapes.1 cap3, .int .i64 d.writes, .int .i64 d.stop, .bool d.down]) 16 rfl (by kernel_rfl) (fun _ _ _ h => h) (load_yield 38 (.tmp 3) rfl rfl (w.heap.size) rfl (cs := [.int .i64 (d.shape 0), .int .i64 (d.shape 1), .int .i64 (d.shape 2), .int .i64 (d.shape 3), .int .i64 (d.shape 4), .int .i64 (d.shape 5), .int .i64 (d.shape 6), .int .i64 (d.shape 7), .int .i64 (d.shape 8), .slice ao1 d.groups.1 cap1, .slice ao2 d.on.1 cap2, .slice ao3 d.tapes.1 cap3, .int .i64 d.writes, .int .i64 d.stop, .bool d.down]) (fun w' h => h) Tryz.underlying38 size_W rfl) (by assumption) ?_
  try simp only [List.getElem_toArray, List.getElem_cons_succ, List.getElem_cons_zero, Act.put, List.setIfInBounds_toArray, List.set_cons_zero, List.set_cons_succ]
  refine wpAnyL_take (i := 1) (oi := _) (v := ?_) 16 rfl (by kernel_rfl) (fun _ _ _ h => h) (Or.inl ⟨by rfl, ?_⟩) (by assumption) ?_
  rotate_left
  · intro w' hSw
    go_simp
    try with_reducible rfl
  try simp only [Act.put, List.setIfInBounds_toArray, List.set_cons_zero, List.set_cons_succ]
  refine wpAnyL_take (i := 2) (oi := _) (v := ?_) 16 rfl (by kernel_rfl) (fun _ _ _ h => h) (Or.inl ⟨by rfl, ?_⟩) (by assumption) ?_
  rotate_left
  · intro w' hSw
    go_simp
    try with_reducible rfl
  try simp only [Act.put, List.setIfInBounds_toArray, List.set_cons_zero, List.set_cons_succ]
  refine wpAnyL_one (i := 3) (o := _) rfl (by kernel_rfl) (fun KC hKC => ?_)
  refine step_call rfl 58 _ _ rfl #[.int .i64 kd, .int .i64 sq] ?_ Tryz.func58 (by kernel_rfl) (by kernel_rfl) CK ?_
  · simp [Act.eval, Act.put]
  rintro ee w5 ⟨rfl, q1, q2, b5'⟩
  have b5 : Below w1.heap.size w1 w5 := B0.trans b5'
  refine ⟨_, rfl, ?_⟩
  refine hKC.out _ _ (KS _ b5) (fun hHeld => ?_)
  clear hKC KC CK b5'
  try simp only [List.getElem_toArray, List.getElem_cons_succ, List.getElem_cons_zero, Act.put, List.setIfInBounds_toArray, List.set_cons_zero, List.set_cons_succ]
  refine wpAnyL_one (i := 4) (o := _) rfl (by kernel_rfl) (fun KC hKC => ?_)
  have bN : Below w5.heap.size w5 (w5.alloc (.cells #[.func (.func 109) #[] #[.pointer (some ⟨w1.heap.size, 0, none⟩), .pointer (some ⟨w1.heap.size + 1, 0, none⟩)]] 75)) := (Below.refl _ _).alloc (Nat.le_refl _) _
  have XN : Box (w5.alloc (.cells #[.func (.func 109) #[] #[.pointer (some ⟨w1.heap.size, 0, none⟩), .pointer (some ⟨w1.heap.size + 1, 0, none⟩)]] 75)) w5.heap.size #[.func (.func 109) #[] #[.pointer (some ⟨w1.heap.size, 0, none⟩), .pointer (some ⟨w1.heap.size + 1, 0, none⟩)]] 75 := box_new _ _ _
  go_simp
  refine hKC.out _ _ (KS _ (b5.trans (bN.mono b5.size))) (fun hHeld => ?_)
  clear hKC KC
  try simp only [List.getElem_toArray, List.getElem_cons_succ, List.getElem_cons_zero, Act.put, List.setIfInBounds_toArray, List.set_cons_zero, List.set_cons_succ]
  obtain ⟨w6, hw6⟩ : ∃ x, x = (w5.alloc (.cells #[.func (.func 109) #[] #[.pointer (some ⟨w1.heap.size, 0, none⟩), .pointer (some ⟨w1.heap.size + 1, 0, none⟩)]] 75)) := ⟨_, rfl⟩
  have b6 : Below w1.heap.size w1 w6 := by rw [hw6]; exact b5.trans (bN.mono b5.size)
  have z56 : w5.heap.size < w6.heap.size := by rw [hw6]; exact XN.lt
  have T6 := HT1.out.call b6
  have b56 : Below w5.heap.size w5 w6 := by rw [hw6]; exact bN
  have xN : w6.cell? ⟨w5.heap.size, 0 + 0, none⟩ = some (.func (.func 109) #[] #[.pointer (some ⟨w1.heap.size, 0, none⟩), .pointer (some ⟨w1.heap.size + 1, 0, none⟩)]) := by rw [hw6]; exact XN.cell 0
  have q1' := q1.below b56 q1.lt
  have q2' := q2.below b56 q2.lt
  have CV := carryOut_any d [.int .i64 (d.shape 0), .int .i64 (d.shape 1), .int .i64 (d.shape 2), .int .i64 (d.shape 3), .int .i64 (d.shape 4), .int .i64 (d.shape 5), .int .i64 (d.shape 6), .int .i64 (d.shape 7), .int .i64 (d.shape 8), .slice ao1 d.groups.1 cap1, .slice ao2 d.on.1 cap2, .slice ao3 d.tapes.1 cap3, .int .i64 d.writes, .int .i64 d.stop, .bool d.down] hi (fun _ => 109) (fun _ => #[.pointer (some ⟨w1.heap.size, 0, none⟩), .pointer (some ⟨w1.heap.size + 1, 0, none⟩)]) (fun _ => (runO (strikeF kd sq) 2 0)) (fun _ => Fit2 2) 1 w5.heap.size 0 1 w6 (layWorld.rd_below HRD.out T6.bel hhi) (Nat.le_trans hhi T6.bel.size) HSZ.out
    (fun i _ => striking_task kd sq w1.heap.size (w1.heap.size + 1) w6.heap.size w6 (q1'.cell 0) (q2'.cell 0) q1'.lt q2'.lt) (fun i hi => by
      have h0 : i = 0 := by omega
      subst h0
      exact xN) z56 (by decide) ⟨hf0.less (by decide), by unfold FitNext; split <;> simp [FitAll]⟩ (by
      rw [run_one]
      cases e : (runO (strikeF kd sq) 2 0) d with
      | cut x => exact ⟨show (-9223372036854775808 : Int) ≤ 0 by decide, show (0 : Int) ≤ 9223372036854775807 by decide⟩
      | done c x =>
        rw [strike_zero kd sq _ _ _ _ _ e]
        exact ⟨show (-9223372036854775808 : Int) ≤ 0 by decide, show (0 : Int) ≤ 9223372036854775807 by decide⟩)
  rw [run_one] at CV
  have CW := CV.mono (R' := fun e w' => ∃ sc s0 s1 s2 s3 s4 s5 s6 s7 s8 sp0 sl0 sq0 sp1 sl1 sq1 sp2 sl2 sq2 s9 s10 sb, e = .returned (.agg #[.int .i64 sc, .int .i64 s0, .int .i64 s1, .int .i64 s2, .int .i64 s3, .int .i64 s4, .int .i64 s5, .int .i64 s6, .int .i64 s7, .int .i64 s8, .slice sp0 sl0 sq0, .slice sp1 sl1 sq1, .slice sp2 sl2 sq2, .int .i64 s9, .int .i64 s10, .bool sb]) ∧ OwnT layWorldResult w' w6.heap.size w'.heap.size ((runO (strikeF kd sq) 2 0) d).final [.int .i64 sc, .int .i64 s0, .int .i64 s1, .int .i64 s2, .int .i64 s3, .int .i64 s4, .int .i64 s5, .int .i64 s6, .int .i64 s7, .int .i64 s8, .slice sp0 sl0 sq0, .slice sp1 sl1 sq1, .slice sp2 sl2 sq2, .int .i64 s9, .int .i64 s10, .bool sb] ∧ Below w6.heap.size w6 w') (fun e w' ⟨cs', he, ho, hb⟩ => by
    obtain ⟨sc, s0, s1, s2, s3, s4, s5, s6, s7, s8, sp0, sl0, sq0, sp1, sl1, sq1, sp2, sl2, sq2, s9, s10, sb, rfl⟩ := wres16 ho.rd
    exact ⟨sc, s0, s1, s2, s3, s4, s5, s6, s7, s8, sp0, sl0, sq0, sp1, sl1, sq1, sp2, sl2, sq2, s9, s10, sb, he, ho, hb⟩)
  clear CV hf0
  rw [← hw6]
  refine wpAnyL_one (i := 5) (o := _) rfl (by kernel_rfl) (fun KC hKC => ?_)
  refine step_call rfl 40 _ _ rfl #[.agg #[.int .i64 (d.shape 0), .int .i64 (d.shape 1), .int .i64 (d.shape 2), .int .i64 (d.shape 3), .int .i64 (d.shape 4), .int .i64 (d.shape 5), .int .i64 (d.shape 6), .int .i64 (d.shape 7), .int .i64 (d.shape 8), .slice ao1 d.groups.1 cap1, .slice ao2 d.on.1 cap2, .slice ao3 d.tapes.1 cap3, .int .i64 d.writes, .int .i64 d.stop, .bool d.down], .slice (some ⟨w5.heap.size, 0, none⟩) 1 1] ?_ Tryz.func40 (by kernel_rfl) (by kernel_rfl) CW ?_
  · simp [Act.eval, Act.put]
  rintro ee w7 ⟨sc, s0, s1, s2, s3, s4, s5, s6, s7, s8, sp0, sl0, sq0, sp1, sl1, sq1, sp2, sl2, sq2, s9, s10, sb, rfl, o7, b7⟩
  have T7 := T6.call b7
  have z7 : w6.heap.size ≤ w7.heap.size := b7.size
  refine ⟨_, rfl, ?_⟩
  refine hKC.out _ _ (KS _ (b6.trans (b7.mono b6.size))) (fun hHeld => ?_)
  clear hKC KC
  try simp only [List.getElem_toArray, List.getElem_cons_succ, List.getElem_cons_zero, Act.put, List.setIfInBounds_toArray, List.set_cons_zero, List.set_cons_succ]
  refine wpAnyL_store rfl (by kernel_rfl) (by kernel_rfl) rfl rfl 40 (.tmp 6) (.tmp 19) rfl (w.heap.size + 1) rfl (cs := [.int .i64 sc, .int .i64 s0, .int .i64 s1, .int .i64 s2, .int .i64 s3, .int .i64 s4, .int .i64 s5, .int .i64 s6, .int .i64 s7, .int .i64 s8, .slice sp0 sl0 sq0, .slice sp1 sl1 sq1, .slice sp2 sl2 sq2, .int .i64 s9, .int .i64 s10, .bool sb]) (old := [.int .i64 0, .int .i64 0, .int .i64 0, .int .i64 0, .int .i64 0, .int .i64 0, .int .i64 0, .int .i64 0, .int .i64 0, .int .i64 0, .slice none 0 0, .slice none 0 0, .slice none 0 0, .int .i64 0, .int .i64 0, .bool false]) rfl T7.b2 size_WR rfl rfl o7.one (fun w9 X9 C9 z9 => ?_)
  have z6 := b6.size
  go_wp2
  refine ret_box Tryz.results22 rfl X9 Tryz.underlying40 size_WR rfl rfl ?_
  exact ⟨_, [.int .i64 sc, .int .i64 s0, .int .i64 s1, .int .i64 s2, .int .i64 s3, .int .i64 s4, .int .i64 s5, .int .i64 s6, .int .i64 s7, .int .i64 s8, .slice sp0 sl0 sq0, .slice sp1 sl1 sq1, .slice sp2 sl2 sq2, .int .i64 s9, .int .i64 s10, .bool sb], rfl, .inr ⟨HX.out, rfl⟩, (o7.chgk C9 (fun b hb => by simp at hb; omega)).weaken (by omega) C9.size, T7.bel.trans (C9.bel (fun b hb => by simp at hb; omega) T7.bel.size)⟩
end Go.Proofs.YthdknhjaohhfiaaGreat
