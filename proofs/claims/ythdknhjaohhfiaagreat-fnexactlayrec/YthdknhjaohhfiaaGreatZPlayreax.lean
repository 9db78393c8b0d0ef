/- For every world and record the program's LayRec answers as the specification's does, writes into nothing that it is handed, and its answer is memory of its own: the law FnExactLayRec returns true at every input, and changes nothing that was there. No condition. -/
import Derived.Test.YthdknhjaohhfiaaGreatRows
import Derived.Test.YthdknhjaohhfiaaGreatZPlayreab
import Derived.Test.YthdknhjaohhfiaaGreatZPlayreaf
import Derived.Test.YthdknhjaohhfiaaGreatZPlayreag
import Derived.Test.YthdknhjaohhfiaaGreatZPlayreah
import Derived.Test.YthdknhjaohhfiaaGreatZPlayreaj
import Derived.Test.YthdknhjaohhfiaaGreatZPlayreav
import Derived.Test.YthdknhjaohhfiaaGreatZPlayreau
import Derived.Test.YthdknhjaohhfiaaGreatZPlayreaw
import Derived.Deep.DeepCutAuto
import Derived.Deep.RegionLaw
namespace Go.Proofs.YthdknhjaohhfiaaGreat
open Go.ChangeShapes Go.WideShapes Go.ChangeAt Go.RowKit F256
set_option linter.unusedVariables false
set_option linter.unusedSimpArgs false
theorem sum_upd {α : Type} (c : α → Nat) (x : Nat → α) (k : Nat) (a : α) : ∀ n : Nat, sumN (fun i => c (upd x k a i)) n ≤ sumN (fun i => c (x i)) n + (if k < n then c a else 0)
  | 0 => by simp [sumN]
  | n + 1 => by
    have ih := sum_upd c x k a n
    rw [sumN_succ, sumN_succ]
    by_cases h : n = k
    · subst h
      rw [upd_at, if_pos (by omega)]
      rw [if_neg (by omega)] at ih
      omega
    · rw [upd_ne x a h]
      by_cases h2 : k < n
      · rw [if_pos h2] at ih; rw [if_pos (by omega)]; omega
      · rw [if_neg h2] at ih; rw [if_neg (by omega)]; omega
theorem cSl_upd {α : Type} (c : α → Nat) (p : Nat × (Nat → α)) (k : Nat) (a : α) : cSl c (p.1, upd p.2 k a) ≤ cSl c p + c a := by
  have := sum_upd c p.2 k a p.1
  unfold cSl
  show sumN (fun i => c (upd p.2 k a i)) p.1 ≤ _
  split at this <;> omega
theorem ly_ex (d : WorldD) (r : RecD) : ∃ q, LyAns d r q := by
  obtain ⟨x, hx⟩ := ask_ex d
  by_cases h : x = 0
  · subst h
    rcases recs_row d.shape (fun _ => r) 1 with h2 | ⟨i, c, _, h3, h4, _⟩
    · exact ⟨_, .inr ⟨hx, .inr ⟨h2 0 (by decide), rfl⟩⟩⟩
    · exact ⟨_, .inr ⟨hx, .inl ⟨c, h3, h4, rfl⟩⟩⟩
  · exact ⟨_, .inl ⟨x, h, hx, rfl⟩⟩
theorem sumN_same {f g : Nat → Nat} : ∀ {n : Nat}, (∀ i, i < n → f i = g i) → sumN f n = sumN g n
  | 0, _ => rfl
  | n + 1, h => by rw [sumN_succ, sumN_succ, sumN_same (fun i hi => h i (by omega)), h n (by omega)]
theorem cTape_laid (x : TapeD) (r : RecD) : cTapeD (laidT x r) ≤ cTapeD x + cRecD r := by
  have h1 := sum_upd cRecD x.recs.2 x.recs.1 r (x.recs.1 + 1)
  rw [if_pos (by omega)] at h1
  have h2 : sumN (fun i => cRecD (upd x.recs.2 x.recs.1 r i)) (x.recs.1 + 1) = sumN (fun i => cRecD (x.recs.2 i)) x.recs.1 + cRecD r := by
    rw [sumN_succ, upd_at]
    have : sumN (fun i => cRecD (upd x.recs.2 x.recs.1 r i)) x.recs.1 = sumN (fun i => cRecD (x.recs.2 i)) x.recs.1 := sumN_same (fun i hi => by rw [upd_ne _ _ (by omega)])
    omega
  unfold cTapeD cSl
  show 1 + sumN (fun i => cRecD (upd x.recs.2 x.recs.1 r i)) (x.recs.1 + 1) ≤ _
  omega
theorem ly_cr {r : RecD} (h : szRecD r ≤ 1048576) : cvRecD r ≤ 20000000 := by
  have := cRec_le r
  unfold cRecD at this
  unfold cvRecD
  omega
theorem cSl_at {α : Type} (c : α → Nat) (p : Nat × (Nat → α)) (k : Nat) (hk : k < p.1) : c (p.2 k) ≤ cSl c p := by
  obtain ⟨n, x⟩ := p
  unfold cSl
  simp only at hk ⊢
  induction n with
  | zero => omega
  | succ n ih =>
    rw [sumN_succ]
    by_cases h : k = n
    · subst h; omega
    · have := ih (by omega); omega
theorem cv_cut (d : WorldD) : cvWorldD (cutW d) ≤ cvWorldD d := by
  unfold cvWorldD lenD
  show (cSl (cSl cDriveD)) d.groups + 0 + (cSl cTapeD) d.tapes ≤ _
  omega
theorem cv_laid (d : WorldD) (k : Nat) (hk : k < d.tapes.1) (r : RecD) (n : Int) : cvWorldD { appendW d k r with writes := n } ≤ 2 * cvWorldD d + cRecD r := by
  have h2 := cSl_upd cTapeD d.tapes k (laidT (d.tapes.2 k) r)
  have h3 := cTape_laid (d.tapes.2 k) r
  have h4 := cSl_at cTapeD d.tapes k hk
  unfold cvWorldD
  show (cSl (cSl cDriveD)) d.groups + lenD d.on + (cSl cTapeD) (d.tapes.1, upd d.tapes.2 k (laidT (d.tapes.2 k) r)) ≤ _
  omega
theorem ly_cv {d : WorldD} {r : RecD} {q : WorldResultD} (hq : LyAns d r q) (hsz : szWorldD d ≤ 1048576) (hsr : szRecD r ≤ 1048576) : cvWorldResultD q ≤ 90000000 := by
  have h1 := cvWorld_le d
  have hc := cRec_le r
  rcases hq with ⟨x, _, _, rfl⟩ | ⟨h0, ⟨x, _, _, rfl⟩ | ⟨_, rfl⟩⟩
  · exact Nat.zero_le _
  · exact Nat.zero_le _
  · have two := (ask_ok h0).form.2.2
    unfold layF
    split
    · exact Nat.zero_le _
    · have k1 := cv_laid d 0 (by omega) r (d.writes + 1)
      have kc := cv_cut d
      have e0 : runO (appendF r) 2 0 d = (appendF r 0 d).next (fun d1 => (appendF r 1 d1).next (fun d2 => .done 0 d2)) := rfl
      rw [e0]
      by_cases hf : d.stop ≠ -1 ∧ d.stop ≤ d.writes
      · rw [show appendF r 0 d = .cut d by unfold appendF rawO; rw [if_pos hf]]
        show cvWorldD (cutW d) ≤ _
        omega
      · rw [show appendF r 0 d = .done 0 { appendW d 0 r with writes := d.writes + 1 } by unfold appendF rawO; rw [if_neg hf]]
        show cvWorldResultD ((appendF r 1 { appendW d 0 r with writes := d.writes + 1 }).next (fun d2 => .done 0 d2)).final ≤ _
        obtain ⟨d1, hd1⟩ : ∃ x, x = ({ appendW d 0 r with writes := d.writes + 1 } : WorldD) := ⟨_, rfl⟩
        have t1 : d1.tapes.1 = 2 := by rw [hd1]; exact two
        rw [← hd1] at k1 ⊢
        have k2 := cv_laid d1 1 (by omega) r (d1.writes + 1)
        have kc1 := cv_cut d1
        by_cases hf1 : d1.stop ≠ -1 ∧ d1.stop ≤ d1.writes
        · rw [show appendF r 1 d1 = .cut d1 by unfold appendF rawO; rw [if_pos hf1]]
          show cvWorldD (cutW d1) ≤ _
          omega
        · rw [show appendF r 1 d1 = .done 0 { appendW d1 1 r with writes := d1.writes + 1 } by unfold appendF rawO; rw [if_neg hf1]]
          show cvWorldD { appendW d1 1 r with writes := d1.writes + 1 } ≤ _
          omega
theorem ly_det {d : WorldD} {r : RecD} {q : WorldResultD} {w : World} {f : Nat} {args : Array Value} (hq : LyAns d r q) (h : Calls Tryz.prog f args w (ResPost (LyAns d r) w)) : Calls Tryz.prog f args w fun e w' => ∃ cs, e = .returned (.agg cs.toArray) ∧ OwnT layWorldResult w' w.heap.size w'.heap.size q cs ∧ Below w.heap.size w w' :=
  h.mono fun e w' ⟨d', cs, h1, h2, h3, h4⟩ => ⟨cs, h1, by rw [hq.one h2]; exact h3, h4⟩
theorem secT {w : World} {lo hi : Nat} {r : RecD} {cs : List Value} (h : OwnT layRec w lo hi r cs) : ∃ s6 m6 s7 m7 s8 m8, cs = [.int .i64 r.kind, .int .i64 r.seq, .string r.name, .int .i64 r.length, .int .i64 r.group, .int .i64 r.row, .slice s6 r.rows.1 m6, .slice s7 r.data.1 m7, .slice s8 r.delta.1 m8] := by
  obtain ⟨M, h1, _⟩ := h
  obtain ⟨a, b, c, e, f, g, K6, K7, K8, rfl, _⟩ := Rec_own h1
  exact ⟨a, b, c, e, f, g, rfl⟩
theorem sz_WR : layWorldResult.sz = 16 := by kernel_rfl
theorem size_LX : (Tryz.prog.info? 31).map (·.size) = some 9 := by kernel_rfl
theorem size_IX : (Tryz.prog.info? 43).map (·.size) = some 9 := by kernel_rfl
theorem info_IX : (Tryz.prog.info? 43).map (fun i => (i.zero.map (·.cells), i.size)) = some (some #[.int .i64 0, .int .i64 0, .string ByteArray.empty, .int .i64 0, .int .i64 0, .int .i64 0, .slice none 0 0, .slice none 0 0, .slice none 0 0], 9) := by kernel_rfl
set_option maxHeartbeats 64000000 in
set_option maxRecDepth 20000 in
theorem fnExactLayRec_walk (d : WorldD) (cs : List Value)  (r : RecD) (csr : List Value) (w : World) (rd0 : layWorld.rd w w.heap.size d cs)  (rd1 : layRec.rd w w.heap.size r csr) :
    Calls Tryz.prog 4 #[.agg cs.toArray, .agg csr.toArray] w fun e w' => e = .returned (.bool true) ∧ Below w.heap.size w w' := by
  obtain ⟨v0, v1, v2, v3, v4, v5, v6, v7, v8, vp0, vl0, vq0, vp1, vl1, vq1, vp2, vl2, vq2, v9, v10, vb, rfl⟩ := world15 rd0
  obtain ⟨o6, k6, o7, k7, o8, k8, rfl, -⟩ := Rec_rd rd1
  have HR : Hid (layWorld.rd w w.heap.size d [.int .i64 v0, .int .i64 v1, .int .i64 v2, .int .i64 v3, .int .i64 v4, .int .i64 v5, .int .i64 v6, .int .i64 v7, .int .i64 v8, .slice vp0 vl0 vq0, .slice vp1 vl1 vq1, .slice vp2 vl2 vq2, .int .i64 v9, .int .i64 v10, .bool vb]) := rd0
  have HR2 : Hid (layRec.rd w w.heap.size r [.int .i64 r.kind, .int .i64 r.seq, .string r.name, .int .i64 r.length, .int .i64 r.group, .int .i64 r.row, .slice o6 r.rows.1 k6, .slice o7 r.data.1 k7, .slice o8 r.delta.1 k8]) := rd1

  clear rd0 rd1 
  have T0 := two_newb w #[.int .i64 v0, .int .i64 v1, .int .i64 v2, .int .i64 v3, .int .i64 v4, .int .i64 v5, .int .i64 v6, .int .i64 v7, .int .i64 v8, .slice vp0 vl0 vq0, .slice vp1 vl1 vq1, .slice vp2 vl2 vq2, .int .i64 v9, .int .i64 v10, .bool vb] #[.int .i64 r.kind, .int .i64 r.seq, .string r.name, .int .i64 r.length, .int .i64 r.group, .int .i64 r.row, .slice o6 r.rows.1 k6, .slice o7 r.data.1 k7, .slice o8 r.delta.1 k8] 28 31
  go_enter Tryz.func4, Tryz.ntmps4
  go_wp2_with (refine wp_loadBox 28 (.tmp 2) rfl rfl (w.heap.size) rfl (cs := [.int .i64 v0, .int .i64 v1, .int .i64 v2, .int .i64 v3, .int .i64 v4, .int .i64 v5, .int .i64 v6, .int .i64 v7, .int .i64 v8, .slice vp0 vl0 vq0, .slice vp1 vl1 vq1, .slice vp2 vl2 vq2, .int .i64 v9, .int .i64 v10, .bool vb]) T0.b1 Tryz.underlying28 size_LW rfl ?_)
  refine (szWorld_is _ d w.heap.size 1048576 _ (layWorld.rd_below HR.out T0.bel (Nat.le_refl _)) T0.bel.size (by omega)).mono ?_
  rintro e wz ⟨x, rfl, hx, bz⟩
  have TZ := T0.call bz
  have HTZ : Hid (Two w wz #[.int .i64 v0, .int .i64 v1, .int .i64 v2, .int .i64 v3, .int .i64 v4, .int .i64 v5, .int .i64 v6, .int .i64 v7, .int .i64 v8, .slice vp0 vl0 vq0, .slice vp1 vl1 vq1, .slice vp2 vl2 vq2, .int .i64 v9, .int .i64 v10, .bool vb] #[.int .i64 r.kind, .int .i64 r.seq, .string r.name, .int .i64 r.length, .int .i64 r.group, .int .i64 r.row, .slice o6 r.rows.1 k6, .slice o7 r.data.1 k7, .slice o8 r.delta.1 k8] 28 31) := TZ
  clear bz T0
  rcases hx with rfl | ⟨hsz, hx⟩
  · clear TZ
    go_wp2
    go_ret
    exact ⟨rfl, HTZ.out.bel⟩
  obtain ⟨X, rfl⟩ : ∃ X : Nat, x = (X : Int) := ⟨x.toNat, by omega⟩
  have hx0 : ¬ (X : Int) < 0 := by omega
  have HXX : Hid (X ≤ 1048576) := by show X ≤ 1048576; omega
  have HSW : Hid (szWorldD d ≤ 1048576) := by show szWorldD d ≤ 1048576; omega
  clear hx hsz
  go_wp2_with (refine wp_loadBox 31 (.tmp 3) rfl rfl (w.heap.size + 1) rfl (cs := [.int .i64 r.kind, .int .i64 r.seq, .string r.name, .int .i64 r.length, .int .i64 r.group, .int .i64 r.row, .slice o6 r.rows.1 k6, .slice o7 r.data.1 k7, .slice o8 r.delta.1 k8]) TZ.b2 Tryz.underlying31 size_LX rfl ?_)
  refine (szRec_is _ r w.heap.size X _ (layRec.rd_below HR2.out TZ.bel (Nat.le_refl _)) TZ.bel.size (by have := HXX.out; omega)).mono ?_
  rintro e w1 ⟨y, rfl, hy, b1⟩
  have T1 := TZ.call b1
  have HT1 : Hid (Two w w1 #[.int .i64 v0, .int .i64 v1, .int .i64 v2, .int .i64 v3, .int .i64 v4, .int .i64 v5, .int .i64 v6, .int .i64 v7, .int .i64 v8, .slice vp0 vl0 vq0, .slice vp1 vl1 vq1, .slice vp2 vl2 vq2, .int .i64 v9, .int .i64 v10, .bool vb] #[.int .i64 r.kind, .int .i64 r.seq, .string r.name, .int .i64 r.length, .int .i64 r.group, .int .i64 r.row, .slice o6 r.rows.1 k6, .slice o7 r.data.1 k7, .slice o8 r.delta.1 k8] 28 31) := T1
  clear b1 TZ HTZ
  rcases hy with rfl | ⟨hsr, hy⟩
  · clear T1
    go_wp2
    go_ret
    exact ⟨rfl, HT1.out.bel⟩
  have hy0 : ¬ y < 0 := by have := HXX.out; omega
  have hsz := HSW.out
  have hsr' : szRecD r ≤ 1048576 := by have := HXX.out; omega
  clear hy hsr HXX
  obtain ⟨q, hq⟩ := ly_ex d  r
  obtain ⟨N, hN⟩ : ∃ N, N = 1 + cvWorldResultD q := ⟨_, rfl⟩
  have hj : 1 + cvWorldResultD q ≤ 100000000 := by have := ly_cv hq hsz hsr'; omega
  obtain ⟨M, hM⟩ : ∃ M, M = 1 + cvWorldD d := ⟨_, rfl⟩
  have hk : 1 + cvWorldD d ≤ 50000000 := by have := cvWorld_le d; omega
  obtain ⟨M2, hM2⟩ : ∃ M2, M2 = M + cvRecD r := ⟨_, rfl⟩
  have hk2 : M + cvRecD r ≤ 100000000 := by have := ly_cr hsr'; omega
  have CT : ∀ w', Below w1.heap.size w1 w' → Calls Tryz.prog 9 #[.agg #[.int .i64 v0, .int .i64 v1, .int .i64 v2, .int .i64 v3, .int .i64 v4, .int .i64 v5, .int .i64 v6, .int .i64 v7, .int .i64 v8, .slice vp0 vl0 vq0, .slice vp1 vl1 vq1, .slice vp2 vl2 vq2, .int .i64 v9, .int .i64 v10, .bool vb]] w' fun e w'' => ∃ cs', e = .returned (.agg cs'.toArray) ∧ OwnT layWorld w'' w'.heap.size w''.heap.size d cs' ∧ Below w'.heap.size w' w'' := fun w' hb =>
    toWorld_is _ d w.heap.size w' (layWorld.rd_below (layWorld.rd_below HR.out HT1.out.bel (Nat.le_refl _)) hb HT1.out.bel.size) (Nat.le_trans HT1.out.bel.size hb.size) hsz
  have CT2 : ∀ w', Below w1.heap.size w1 w' → Calls Tryz.prog 10 #[.agg #[.int .i64 r.kind, .int .i64 r.seq, .string r.name, .int .i64 r.length, .int .i64 r.group, .int .i64 r.row, .slice o6 r.rows.1 k6, .slice o7 r.data.1 k7, .slice o8 r.delta.1 k8]] w' fun e w'' => ∃ cs', e = .returned (.agg cs'.toArray) ∧ OwnT layRec w'' w'.heap.size w''.heap.size r cs' ∧ Below w'.heap.size w' w'' := fun w' hb =>
    toRec_is _ r w.heap.size w' (layRec.rd_below (layRec.rd_below HR2.out HT1.out.bel (Nat.le_refl _)) hb HT1.out.bel.size) (Nat.le_trans HT1.out.bel.size hb.size) hsr'
  have CS := fun (cs' csr' : List Value) (hi : Nat) (w' : World) (h1 : layWorld.rd w' hi d cs') (h3 : layRec.rd w' hi r csr') (h2 : hi ≤ w'.heap.size) => ly_det hq (specLay_any d  r cs' csr' hi w' h1 h3 h2 hsz hsr')
  have CI := fun (cs' csr' : List Value) (hi : Nat) (w' : World) (h1 : layWorld.rd w' hi d cs') (h3 : layRec.rd w' hi r csr') (h2 : hi ≤ w'.heap.size) => ly_det hq (implLay_any d  r cs' csr' hi w' h1 h3 h2 hsz hsr')
  have CE := fun c1 c2 h1 h2 w' => eqWorldResult_is c1 c2 q h1 h2 w'
  have CW := fun c1 c2 h1 h2 w' => eqWorld_is c1 c2 d h1 h2 w'
  have CW2 := fun c1 c2 h1 h2 w' => eqRec_is c1 c2 r h1 h2 w'
  have CM := fun {w' : World} {lo hi : Nat} {cs : List Value} (h : OwnT layWorldResult w' lo hi q cs) => mark_T markWorldResult_is h 1 hj
  have CK := fun {w' : World} {lo hi : Nat} {cs : List Value} (h : OwnT layWorld w' lo hi d cs) => mark_T markWorld_is h 1 (by omega)
  have CK2 := fun {w' : World} {lo hi : Nat} {cs : List Value} (h : OwnT layRec w' lo hi r cs) => mark_T markRec_is h M hk2
  have CH := fun (cs : List Value) (hi : Nat) (w' : World) (h : layWorldResult.rd w' hi (mkvWorldResultD 1 q) cs) (hh : hi ≤ w'.heap.size) => heldWorldResult_is cs q hi 1 w' h hh hj
  rw [← hN] at CM CH
  rw [← hM] at CK
  rw [← hM2] at CK2
  clear hN hM hM2 hj hk hk2 hq hsz hsr' HSW T1
  go_upto_region 8 with fail
  go_cut [6] (fun v wx => ∃ b lo hi cS, v = .pointer (some ⟨b, 0, none⟩) ∧ Box wx b (cS : List Value).toArray 40 ∧ OwnT layWorldResult wx lo hi q cS ∧ Below w1.heap.size w1 wx ∧ w1.heap.size ≤ b ∧ b < wx.heap.size ∧ w1.heap.size ≤ lo ∧ hi ≤ wx.heap.size ∧ (b < lo ∨ hi ≤ b))
  case first =>
    have TD := HT1.out
    have KS : ∀ w', Below w1.heap.size w1 w' → (Box w' w.heap.size #[.int .i64 v0, .int .i64 v1, .int .i64 v2, .int .i64 v3, .int .i64 v4, .int .i64 v5, .int .i64 v6, .int .i64 v7, .int .i64 v8, .slice vp0 vl0 vq0, .slice vp1 vl1 vq1, .slice vp2 vl2 vq2, .int .i64 v9, .int .i64 v10, .bool vb] 28 ∧ Box w' (w.heap.size + 1) #[.int .i64 r.kind, .int .i64 r.seq, .string r.name, .int .i64 r.length, .int .i64 r.group, .int .i64 r.row, .slice o6 r.rows.1 k6, .slice o7 r.data.1 k7, .slice o8 r.delta.1 k8] 31) := fun w' hb => ⟨TD.b1.call hb, TD.b2.call hb⟩
    have B0 : Below w1.heap.size w1 w1.drew := below_drew _
    refine wp_region_L 6 (fun w' => Box w' w.heap.size #[.int .i64 v0, .int .i64 v1, .int .i64 v2, .int .i64 v3, .int .i64 v4, .int .i64 v5, .int .i64 v6, .int .i64 v7, .int .i64 v8, .slice vp0 vl0 vq0, .slice vp1 vl1 vq1, .slice vp2 vl2 vq2, .int .i64 v9, .int .i64 v10, .bool vb] 28 ∧ Box w' (w.heap.size + 1) #[.int .i64 r.kind, .int .i64 r.seq, .string r.name, .int .i64 r.length, .int .i64 r.group, .int .i64 r.row, .slice o6 r.rows.1 k6, .slice o7 r.data.1 k7, .slice o8 r.delta.1 k8] 31) (by kernel_rfl) (KS _ B0) (fun hHeld => ?_)
    refine wpAnyL_take (i := 0) (oi := _) (v := .agg #[.int .i64 v0, .int .i64 v1, .int .i64 v2, .int .i64 v3, .int .i64 v4, .int .i64 v5, .int .i64 v6, .int .i64 v7, .int .i64 v8, .slice vp0 vl0 vq0, .slice vp1 vl1 vq1, .slice vp2 vl2 vq2, .int .i64 v9, .int .i64 v10, .bool vb]) 16 rfl (by kernel_rfl) (fun _ _ _ h => h) (load_yield 28 (.tmp 2) rfl rfl (w.heap.size) rfl (cs := [.int .i64 v0, .int .i64 v1, .int .i64 v2, .int .i64 v3, .int .i64 v4, .int .i64 v5, .int .i64 v6, .int .i64 v7, .int .i64 v8, .slice vp0 vl0 vq0, .slice vp1 vl1 vq1, .slice vp2 vl2 vq2, .int .i64 v9, .int .i64 v10, .bool vb]) (fun w' h => h.1) Tryz.underlying28 size_LW rfl) (by assumption) ?_
    try simp only [List.getElem_toArray, List.getElem_cons_succ, List.getElem_cons_zero, Act.put, List.setIfInBounds_toArray, List.set_cons_zero, List.set_cons_succ]
    refine wpAnyL_take (i := 2) (oi := _) (v := .agg #[.int .i64 r.kind, .int .i64 r.seq, .string r.name, .int .i64 r.length, .int .i64 r.group, .int .i64 r.row, .slice o6 r.rows.1 k6, .slice o7 r.data.1 k7, .slice o8 r.delta.1 k8]) 16 rfl (by kernel_rfl) (fun _ _ _ h => h) (load_yield 31 (.tmp 3) rfl rfl (w.heap.size + 1) rfl (cs := [.int .i64 r.kind, .int .i64 r.seq, .string r.name, .int .i64 r.length, .int .i64 r.group, .int .i64 r.row, .slice o6 r.rows.1 k6, .slice o7 r.data.1 k7, .slice o8 r.delta.1 k8]) (fun w' h => h.2) Tryz.underlying31 size_LX rfl) (by assumption) ?_
    try simp only [List.getElem_toArray, List.getElem_cons_succ, List.getElem_cons_zero, Act.put, List.setIfInBounds_toArray, List.set_cons_zero, List.set_cons_succ]
    refine wpAnyL_two (i := 1) (j := 5) (oi := _) (oj := _) rfl rfl (by kernel_rfl) (by decide) (fun KC hKC => ?_) (fun KC hKC => ?_)
    · refine step_call rfl 9 _ _ rfl #[.agg #[.int .i64 v0, .int .i64 v1, .int .i64 v2, .int .i64 v3, .int .i64 v4, .int .i64 v5, .int .i64 v6, .int .i64 v7, .int .i64 v8, .slice vp0 vl0 vq0, .slice vp1 vl1 vq1, .slice vp2 vl2 vq2, .int .i64 v9, .int .i64 v10, .bool vb]] ?_ Tryz.func9 (by kernel_rfl) (by kernel_rfl) (CT w1.drew B0) ?_
      · simp [Act.eval, Act.put]
      rintro ee x1 ⟨cA, rfl, ow1, b1⟩
      have z1 := b1.size
      have bb1 : Below w1.heap.size w1 x1 := B0.trans (b1.mono B0.size)
      refine ⟨_, rfl, ?_⟩
      refine hKC.out _ _ (KS _ bb1) (fun hHeld => ?_)
      clear hKC KC
      try simp only [List.getElem_toArray, List.getElem_cons_succ, List.getElem_cons_zero, Act.put, List.setIfInBounds_toArray, List.set_cons_zero, List.set_cons_succ]
      refine wpAnyL_two (i := 3) (j := 5) (oi := _) (oj := _) rfl rfl (by kernel_rfl) (by decide) (fun KC hKC => ?_) (fun KC hKC => ?_)
      · refine step_call rfl 10 _ _ rfl #[.agg #[.int .i64 r.kind, .int .i64 r.seq, .string r.name, .int .i64 r.length, .int .i64 r.group, .int .i64 r.row, .slice o6 r.rows.1 k6, .slice o7 r.data.1 k7, .slice o8 r.delta.1 k8]] ?_ Tryz.func10 (by kernel_rfl) (by kernel_rfl) (CT2 x1 bb1) ?_
        · simp [Act.eval, Act.put]
        rintro ee x2 ⟨cB, rfl, ow2, b2⟩
        have z2 := b2.size
        have bb2 : Below w1.heap.size w1 x2 := bb1.trans (b2.mono bb1.size)
        refine ⟨_, rfl, ?_⟩
        refine hKC.out _ _ (KS _ bb2) (fun hHeld => ?_)
        clear hKC KC
        try simp only [List.getElem_toArray, List.getElem_cons_succ, List.getElem_cons_zero, Act.put, List.setIfInBounds_toArray, List.set_cons_zero, List.set_cons_succ]
        refine wpAnyL_two (i := 4) (j := 5) (oi := _) (oj := _) rfl rfl (by kernel_rfl) (by decide) (fun KC hKC => ?_) (fun KC hKC => ?_)
        · refine step_call rfl 19 _ _ rfl #[.agg cA.toArray, .agg cB.toArray] ?_ Tryz.func19 (by kernel_rfl) (by kernel_rfl) (CS cA cB x2.heap.size x2 (((ow1).call b2).weaken (Nat.le_refl _) (by omega)).rd ((ow2).weaken (Nat.le_refl _) (by omega)).rd (Nat.le_refl _)) ?_
          · simp [Act.eval, Act.put]
          rintro ee x3 ⟨cS, rfl, ow3, b3⟩
          have z3 := b3.size
          have bb3 : Below w1.heap.size w1 x3 := bb2.trans (b3.mono bb2.size)
          refine ⟨_, rfl, ?_⟩
          refine hKC.out _ _ (KS _ bb3) (fun hHeld => ?_)
          clear hKC KC
          try simp only [List.getElem_toArray, List.getElem_cons_succ, List.getElem_cons_zero, Act.put, List.setIfInBounds_toArray, List.set_cons_zero, List.set_cons_succ]
          refine wpAnyL_one (i := 5) (o := _) rfl (by kernel_rfl) (fun KC hKC => ?_)
          have b4 : Below x3.heap.size x3 (x3.alloc (.cells #[.int .i64 0, .int .i64 0, .int .i64 0, .int .i64 0, .int .i64 0, .int .i64 0, .int .i64 0, .int .i64 0, .int .i64 0, .int .i64 0, .slice none 0 0, .slice none 0 0, .slice none 0 0, .int .i64 0, .int .i64 0, .bool false] 40)) := (Below.refl _ _).alloc (Nat.le_refl _) _
          have X4 := box_new x3 #[.int .i64 0, .int .i64 0, .int .i64 0, .int .i64 0, .int .i64 0, .int .i64 0, .int .i64 0, .int .i64 0, .int .i64 0, .int .i64 0, .slice none 0 0, .slice none 0 0, .slice none 0 0, .int .i64 0, .int .i64 0, .bool false] 40
          refine step_alloc rfl 40 rfl info_WR ?_
          obtain ⟨x4, hx4⟩ : ∃ x, x = (x3.alloc (.cells #[.int .i64 0, .int .i64 0, .int .i64 0, .int .i64 0, .int .i64 0, .int .i64 0, .int .i64 0, .int .i64 0, .int .i64 0, .int .i64 0, .slice none 0 0, .slice none 0 0, .slice none 0 0, .int .i64 0, .int .i64 0, .bool false] 40)) := ⟨_, rfl⟩
          rw [← hx4] at b4 X4 ⊢
          clear hx4
          have z4 := b4.size
          have y4 : x3.heap.size < x4.heap.size := X4.lt
          have bb4 : Below w1.heap.size w1 x4 := bb3.trans (b4.mono bb3.size)
          refine hKC.out _ _ (KS _ bb4) (fun hHeld => ?_)
          clear hKC KC
          try simp only [List.getElem_toArray, List.getElem_cons_succ, List.getElem_cons_zero, Act.put, List.setIfInBounds_toArray, List.set_cons_zero, List.set_cons_succ]
          have oS := (ow3).call b4
          have bX := X4
          have hl := oS.len.trans sz_WR
          have h1 := oS.one
          refine wpAnyL_store (o := _) rfl (by kernel_rfl) (by kernel_rfl) rfl rfl 40 (.tmp 6) (.tmp 28) rfl (x3.heap.size) ?_ (cs := cS) (old := [.int .i64 0, .int .i64 0, .int .i64 0, .int .i64 0, .int .i64 0, .int .i64 0, .int .i64 0, .int .i64 0, .int .i64 0, .int .i64 0, .slice none 0 0, .slice none 0 0, .slice none 0 0, .int .i64 0, .int .i64 0, .bool false]) ?_ bX size_WR hl rfl h1 ?_
          · simp [Act.eval, Act.put]
          · simp [Act.eval, Act.put]
          intro w9 X9 C9 z9
          try simp only [List.getElem_toArray, List.getElem_cons_succ, List.getElem_cons_zero, Act.put, List.setIfInBounds_toArray, List.set_cons_zero, List.set_cons_succ]
          have zB := B0.size
          have z0 := bb4.size
          have HF : Hid (Box w9 (x3.heap.size) cS.toArray 40 ∧ OwnT layWorldResult w9 (x2.heap.size) (x3.heap.size) q cS ∧ Below w1.heap.size w1 w9 ∧ w1.heap.size ≤ x3.heap.size ∧ x3.heap.size < w9.heap.size ∧ w1.heap.size ≤ x2.heap.size ∧ x3.heap.size ≤ w9.heap.size ∧ (x3.heap.size < x2.heap.size ∨ x3.heap.size ≤ x3.heap.size)) := ⟨X9, oS.chgk C9 (fun b hb => by simp only [List.mem_cons, List.not_mem_nil, or_false] at hb; omega), bb4.trans (C9.bel (fun b hb => by simp only [List.mem_cons, List.not_mem_nil, or_false] at hb; omega) bb4.size), by omega, by omega, by omega, by omega, by omega⟩
          clear oS X9 C9 KS bX hl h1
          go_wp2
          go_meet
          exact ⟨_, _, _, _, rfl, HF.out⟩
        · have b5 : Below x2.heap.size x2 (x2.alloc (.cells #[.int .i64 0, .int .i64 0, .int .i64 0, .int .i64 0, .int .i64 0, .int .i64 0, .int .i64 0, .int .i64 0, .int .i64 0, .int .i64 0, .slice none 0 0, .slice none 0 0, .slice none 0 0, .int .i64 0, .int .i64 0, .bool false] 40)) := (Below.refl _ _).alloc (Nat.le_refl _) _
          have X5 := box_new x2 #[.int .i64 0, .int .i64 0, .int .i64 0, .int .i64 0, .int .i64 0, .int .i64 0, .int .i64 0, .int .i64 0, .int .i64 0, .int .i64 0, .slice none 0 0, .slice none 0 0, .slice none 0 0, .int .i64 0, .int .i64 0, .bool false] 40
          refine step_alloc rfl 40 rfl info_WR ?_
          obtain ⟨x5, hx5⟩ : ∃ x, x = (x2.alloc (.cells #[.int .i64 0, .int .i64 0, .int .i64 0, .int .i64 0, .int .i64 0, .int .i64 0, .int .i64 0, .int .i64 0, .int .i64 0, .int .i64 0, .slice none 0 0, .slice none 0 0, .slice none 0 0, .int .i64 0, .int .i64 0, .bool false] 40)) := ⟨_, rfl⟩
          rw [← hx5] at b5 X5 ⊢
          clear hx5
          have z5 := b5.size
          have y5 : x2.heap.size < x5.heap.size := X5.lt
          have bb5 : Below w1.heap.size w1 x5 := bb2.trans (b5.mono bb2.size)
          refine hKC.out _ _ (KS _ bb5) (fun hHeld => ?_)
          clear hKC KC
          try simp only [List.getElem_toArray, List.getElem_cons_succ, List.getElem_cons_zero, Act.put, List.setIfInBounds_toArray, List.set_cons_zero, List.set_cons_succ]
          refine wpAnyL_one (i := 4) (o := _) rfl (by kernel_rfl) (fun KC hKC => ?_)
          refine step_call rfl 19 _ _ rfl #[.agg cA.toArray, .agg cB.toArray] ?_ Tryz.func19 (by kernel_rfl) (by kernel_rfl) (CS cA cB x5.heap.size x5 ((((ow1).call b2).call b5).weaken (Nat.le_refl _) (by omega)).rd (((ow2).call b5).weaken (Nat.le_refl _) (by omega)).rd (Nat.le_refl _)) ?_
          · simp [Act.eval, Act.put]
          rintro ee x6 ⟨cS, rfl, ow6, b6⟩
          have z6 := b6.size
          have bb6 : Below w1.heap.size w1 x6 := bb5.trans (b6.mono bb5.size)
          refine ⟨_, rfl, ?_⟩
          refine hKC.out _ _ (KS _ bb6) (fun hHeld => ?_)
          clear hKC KC
          try simp only [List.getElem_toArray, List.getElem_cons_succ, List.getElem_cons_zero, Act.put, List.setIfInBounds_toArray, List.set_cons_zero, List.set_cons_succ]
          have oS := ow6
          have bX := (X5).call b6
          have hl := oS.len.trans sz_WR
          have h1 := oS.one
          refine wpAnyL_store (o := _) rfl (by kernel_rfl) (by kernel_rfl) rfl rfl 40 (.tmp 6) (.tmp 28) rfl (x2.heap.size) ?_ (cs := cS) (old := [.int .i64 0, .int .i64 0, .int .i64 0, .int .i64 0, .int .i64 0, .int .i64 0, .int .i64 0, .int .i64 0, .int .i64 0, .int .i64 0, .slice none 0 0, .slice none 0 0, .slice none 0 0, .int .i64 0, .int .i64 0, .bool false]) ?_ bX size_WR hl rfl h1 ?_
          · simp [Act.eval, Act.put]
          · simp [Act.eval, Act.put]
          intro w9 X9 C9 z9
          try simp only [List.getElem_toArray, List.getElem_cons_succ, List.getElem_cons_zero, Act.put, List.setIfInBounds_toArray, List.set_cons_zero, List.set_cons_succ]
          have zB := B0.size
          have z0 := bb6.size
          have HF : Hid (Box w9 (x2.heap.size) cS.toArray 40 ∧ OwnT layWorldResult w9 (x5.heap.size) (x6.heap.size) q cS ∧ Below w1.heap.size w1 w9 ∧ w1.heap.size ≤ x2.heap.size ∧ x2.heap.size < w9.heap.size ∧ w1.heap.size ≤ x5.heap.size ∧ x6.heap.size ≤ w9.heap.size ∧ (x2.heap.size < x5.heap.size ∨ x6.heap.size ≤ x2.heap.size)) := ⟨X9, oS.chgk C9 (fun b hb => by simp only [List.mem_cons, List.not_mem_nil, or_false] at hb; omega), bb6.trans (C9.bel (fun b hb => by simp only [List.mem_cons, List.not_mem_nil, or_false] at hb; omega) bb6.size), by omega, by omega, by omega, by omega, by omega⟩
          clear oS X9 C9 KS bX hl h1
          go_wp2
          go_meet
          exact ⟨_, _, _, _, rfl, HF.out⟩
      · have b7 : Below x1.heap.size x1 (x1.alloc (.cells #[.int .i64 0, .int .i64 0, .int .i64 0, .int .i64 0, .int .i64 0, .int .i64 0, .int .i64 0, .int .i64 0, .int .i64 0, .int .i64 0, .slice none 0 0, .slice none 0 0, .slice none 0 0, .int .i64 0, .int .i64 0, .bool false] 40)) := (Below.refl _ _).alloc (Nat.le_refl _) _
        have X7 := box_new x1 #[.int .i64 0, .int .i64 0, .int .i64 0, .int .i64 0, .int .i64 0, .int .i64 0, .int .i64 0, .int .i64 0, .int .i64 0, .int .i64 0, .slice none 0 0, .slice none 0 0, .slice none 0 0, .int .i64 0, .int .i64 0, .bool false] 40
        refine step_alloc rfl 40 rfl info_WR ?_
        obtain ⟨x7, hx7⟩ : ∃ x, x = (x1.alloc (.cells #[.int .i64 0, .int .i64 0, .int .i64 0, .int .i64 0, .int .i64 0, .int .i64 0, .int .i64 0, .int .i64 0, .int .i64 0, .int .i64 0, .slice none 0 0, .slice none 0 0, .slice none 0 0, .int .i64 0, .int .i64 0, .bool false] 40)) := ⟨_, rfl⟩
        rw [← hx7] at b7 X7 ⊢
        clear hx7
        have z7 := b7.size
        have y7 : x1.heap.size < x7.heap.size := X7.lt
        have bb7 : Below w1.heap.size w1 x7 := bb1.trans (b7.mono bb1.size)
        refine hKC.out _ _ (KS _ bb7) (fun hHeld => ?_)
        clear hKC KC
        try simp only [List.getElem_toArray, List.getElem_cons_succ, List.getElem_cons_zero, Act.put, List.setIfInBounds_toArray, List.set_cons_zero, List.set_cons_succ]
        refine wpAnyL_one (i := 3) (o := _) rfl (by kernel_rfl) (fun KC hKC => ?_)
        refine step_call rfl 10 _ _ rfl #[.agg #[.int .i64 r.kind, .int .i64 r.seq, .string r.name, .int .i64 r.length, .int .i64 r.group, .int .i64 r.row, .slice o6 r.rows.1 k6, .slice o7 r.data.1 k7, .slice o8 r.delta.1 k8]] ?_ Tryz.func10 (by kernel_rfl) (by kernel_rfl) (CT2 x7 bb7) ?_
        · simp [Act.eval, Act.put]
        rintro ee x8 ⟨cB, rfl, ow8, b8⟩
        have z8 := b8.size
        have bb8 : Below w1.heap.size w1 x8 := bb7.trans (b8.mono bb7.size)
        refine ⟨_, rfl, ?_⟩
        refine hKC.out _ _ (KS _ bb8) (fun hHeld => ?_)
        clear hKC KC
        try simp only [List.getElem_toArray, List.getElem_cons_succ, List.getElem_cons_zero, Act.put, List.setIfInBounds_toArray, List.set_cons_zero, List.set_cons_succ]
        refine wpAnyL_one (i := 4) (o := _) rfl (by kernel_rfl) (fun KC hKC => ?_)
        refine step_call rfl 19 _ _ rfl #[.agg cA.toArray, .agg cB.toArray] ?_ Tryz.func19 (by kernel_rfl) (by kernel_rfl) (CS cA cB x8.heap.size x8 ((((ow1).call b7).call b8).weaken (Nat.le_refl _) (by omega)).rd ((ow8).weaken (Nat.le_refl _) (by omega)).rd (Nat.le_refl _)) ?_
        · simp [Act.eval, Act.put]
        rintro ee x9 ⟨cS, rfl, ow9, b9⟩
        have z9 := b9.size
        have bb9 : Below w1.heap.size w1 x9 := bb8.trans (b9.mono bb8.size)
        refine ⟨_, rfl, ?_⟩
        refine hKC.out _ _ (KS _ bb9) (fun hHeld => ?_)
        clear hKC KC
        try simp only [List.getElem_toArray, List.getElem_cons_succ, List.getElem_cons_zero, Act.put, List.setIfInBounds_toArray, List.set_cons_zero, List.set_cons_succ]
        have oS := ow9
        have bX := ((X7).call b8).call b9
        have hl := oS.len.trans sz_WR
        have h1 := oS.one
        refine wpAnyL_store (o := _) rfl (by kernel_rfl) (by kernel_rfl) rfl rfl 40 (.tmp 6) (.tmp 28) rfl (x1.heap.size) ?_ (cs := cS) (old := [.int .i64 0, .int .i64 0, .int .i64 0, .int .i64 0, .int .i64 0, .int .i64 0, .int .i64 0, .int .i64 0, .int .i64 0, .int .i64 0, .slice none 0 0, .slice none 0 0, .slice none 0 0, .int .i64 0, .int .i64 0, .bool false]) ?_ bX size_WR hl rfl h1 ?_
        · simp [Act.eval, Act.put]
        · simp [Act.eval, Act.put]
        intro w9 X9 C9 z9
        try simp only [List.getElem_toArray, List.getElem_cons_succ, List.getElem_cons_zero, Act.put, List.setIfInBounds_toArray, List.set_cons_zero, List.set_cons_succ]
        have zB := B0.size
        have z0 := bb9.size
        have HF : Hid (Box w9 (x1.heap.size) cS.toArray 40 ∧ OwnT layWorldResult w9 (x8.heap.size) (x9.heap.size) q cS ∧ Below w1.heap.size w1 w9 ∧ w1.heap.size ≤ x1.heap.size ∧ x1.heap.size < w9.heap.size ∧ w1.heap.size ≤ x8.heap.size ∧ x9.heap.size ≤ w9.heap.size ∧ (x1.heap.size < x8.heap.size ∨ x9.heap.size ≤ x1.heap.size)) := ⟨X9, oS.chgk C9 (fun b hb => by simp only [List.mem_cons, List.not_mem_nil, or_false] at hb; omega), bb9.trans (C9.bel (fun b hb => by simp only [List.mem_cons, List.not_mem_nil, or_false] at hb; omega) bb9.size), by omega, by omega, by omega, by omega, by omega⟩
        clear oS X9 C9 KS bX hl h1
        go_wp2
        go_meet
        exact ⟨_, _, _, _, rfl, HF.out⟩
    · have b10 : Below w1.drew.heap.size w1.drew (w1.drew.alloc (.cells #[.int .i64 0, .int .i64 0, .int .i64 0, .int .i64 0, .int .i64 0, .int .i64 0, .int .i64 0, .int .i64 0, .int .i64 0, .int .i64 0, .slice none 0 0, .slice none 0 0, .slice none 0 0, .int .i64 0, .int .i64 0, .bool false] 40)) := (Below.refl _ _).alloc (Nat.le_refl _) _
      have X10 := box_new w1.drew #[.int .i64 0, .int .i64 0, .int .i64 0, .int .i64 0, .int .i64 0, .int .i64 0, .int .i64 0, .int .i64 0, .int .i64 0, .int .i64 0, .slice none 0 0, .slice none 0 0, .slice none 0 0, .int .i64 0, .int .i64 0, .bool false] 40
      refine step_alloc rfl 40 rfl info_WR ?_
      obtain ⟨x10, hx10⟩ : ∃ x, x = (w1.drew.alloc (.cells #[.int .i64 0, .int .i64 0, .int .i64 0, .int .i64 0, .int .i64 0, .int .i64 0, .int .i64 0, .int .i64 0, .int .i64 0, .int .i64 0, .slice none 0 0, .slice none 0 0, .slice none 0 0, .int .i64 0, .int .i64 0, .bool false] 40)) := ⟨_, rfl⟩
      rw [← hx10] at b10 X10 ⊢
      clear hx10
      have z10 := b10.size
      have y10 : w1.drew.heap.size < x10.heap.size := X10.lt
      have bb10 : Below w1.heap.size w1 x10 := B0.trans (b10.mono B0.size)
      refine hKC.out _ _ (KS _ bb10) (fun hHeld => ?_)
      clear hKC KC
      try simp only [List.getElem_toArray, List.getElem_cons_succ, List.getElem_cons_zero, Act.put, List.setIfInBounds_toArray, List.set_cons_zero, List.set_cons_succ]
      refine wpAnyL_one (i := 1) (o := _) rfl (by kernel_rfl) (fun KC hKC => ?_)
      refine step_call rfl 9 _ _ rfl #[.agg #[.int .i64 v0, .int .i64 v1, .int .i64 v2, .int .i64 v3, .int .i64 v4, .int .i64 v5, .int .i64 v6, .int .i64 v7, .int .i64 v8, .slice vp0 vl0 vq0, .slice vp1 vl1 vq1, .slice vp2 vl2 vq2, .int .i64 v9, .int .i64 v10, .bool vb]] ?_ Tryz.func9 (by kernel_rfl) (by kernel_rfl) (CT x10 bb10) ?_
      · simp [Act.eval, Act.put]
      rintro ee x11 ⟨cA, rfl, ow11, b11⟩
      have z11 := b11.size
      have bb11 : Below w1.heap.size w1 x11 := bb10.trans (b11.mono bb10.size)
      refine ⟨_, rfl, ?_⟩
      refine hKC.out _ _ (KS _ bb11) (fun hHeld => ?_)
      clear hKC KC
      try simp only [List.getElem_toArray, List.getElem_cons_succ, List.getElem_cons_zero, Act.put, List.setIfInBounds_toArray, List.set_cons_zero, List.set_cons_succ]
      refine wpAnyL_one (i := 3) (o := _) rfl (by kernel_rfl) (fun KC hKC => ?_)
      refine step_call rfl 10 _ _ rfl #[.agg #[.int .i64 r.kind, .int .i64 r.seq, .string r.name, .int .i64 r.length, .int .i64 r.group, .int .i64 r.row, .slice o6 r.rows.1 k6, .slice o7 r.data.1 k7, .slice o8 r.delta.1 k8]] ?_ Tryz.func10 (by kernel_rfl) (by kernel_rfl) (CT2 x11 bb11) ?_
      · simp [Act.eval, Act.put]
      rintro ee x12 ⟨cB, rfl, ow12, b12⟩
      have z12 := b12.size
      have bb12 : Below w1.heap.size w1 x12 := bb11.trans (b12.mono bb11.size)
      refine ⟨_, rfl, ?_⟩
      refine hKC.out _ _ (KS _ bb12) (fun hHeld => ?_)
      clear hKC KC
      try simp only [List.getElem_toArray, List.getElem_cons_succ, List.getElem_cons_zero, Act.put, List.setIfInBounds_toArray, List.set_cons_zero, List.set_cons_succ]
      refine wpAnyL_one (i := 4) (o := _) rfl (by kernel_rfl) (fun KC hKC => ?_)
      refine step_call rfl 19 _ _ rfl #[.agg cA.toArray, .agg cB.toArray] ?_ Tryz.func19 (by kernel_rfl) (by kernel_rfl) (CS cA cB x12.heap.size x12 (((ow11).call b12).weaken (Nat.le_refl _) (by omega)).rd ((ow12).weaken (Nat.le_refl _) (by omega)).rd (Nat.le_refl _)) ?_
      · simp [Act.eval, Act.put]
      rintro ee x13 ⟨cS, rfl, ow13, b13⟩
      have z13 := b13.size
      have bb13 : Below w1.heap.size w1 x13 := bb12.trans (b13.mono bb12.size)
      refine ⟨_, rfl, ?_⟩
      refine hKC.out _ _ (KS _ bb13) (fun hHeld => ?_)
      clear hKC KC
      try simp only [List.getElem_toArray, List.getElem_cons_succ, List.getElem_cons_zero, Act.put, List.setIfInBounds_toArray, List.set_cons_zero, List.set_cons_succ]
      have oS := ow13
      have bX := (((X10).call b11).call b12).call b13
      have hl := oS.len.trans sz_WR
      have h1 := oS.one
      refine wpAnyL_store (o := _) rfl (by kernel_rfl) (by kernel_rfl) rfl rfl 40 (.tmp 6) (.tmp 28) rfl (w1.drew.heap.size) ?_ (cs := cS) (old := [.int .i64 0, .int .i64 0, .int .i64 0, .int .i64 0, .int .i64 0, .int .i64 0, .int .i64 0, .int .i64 0, .int .i64 0, .int .i64 0, .slice none 0 0, .slice none 0 0, .slice none 0 0, .int .i64 0, .int .i64 0, .bool false]) ?_ bX size_WR hl rfl h1 ?_
      · simp [Act.eval, Act.put]
      · simp [Act.eval, Act.put]
      intro w9 X9 C9 z9
      try simp only [List.getElem_toArray, List.getElem_cons_succ, List.getElem_cons_zero, Act.put, List.setIfInBounds_toArray, List.set_cons_zero, List.set_cons_succ]
      have zB := B0.size
      have z0 := bb13.size
      have HF : Hid (Box w9 (w1.drew.heap.size) cS.toArray 40 ∧ OwnT layWorldResult w9 (x12.heap.size) (x13.heap.size) q cS ∧ Below w1.heap.size w1 w9 ∧ w1.heap.size ≤ w1.drew.heap.size ∧ w1.drew.heap.size < w9.heap.size ∧ w1.heap.size ≤ x12.heap.size ∧ x13.heap.size ≤ w9.heap.size ∧ (w1.drew.heap.size < x12.heap.size ∨ x13.heap.size ≤ w1.drew.heap.size)) := ⟨X9, oS.chgk C9 (fun b hb => by simp only [List.mem_cons, List.not_mem_nil, or_false] at hb; omega), bb13.trans (C9.bel (fun b hb => by simp only [List.mem_cons, List.not_mem_nil, or_false] at hb; omega) bb13.size), by omega, by omega, by omega, by omega, by omega⟩
      clear oS X9 C9 KS bX hl h1
      go_wp2
      go_meet
      exact ⟨_, _, _, _, rfl, HF.out⟩
  case rest =>
  obtain ⟨bS, lS, hS, cS, rfl, S4, OS4, B4, s1, s2, s3, s4, s5⟩ := hcut
  obtain ⟨W4, rfl⟩ : ∃ x, x = wc := ⟨_, rfl⟩
  obtain ⟨sc, s0, s1, s2, s3, s4, s5, s6, s7, s8, sp0, sl0, sq0, sp1, sl1, sq1, sp2, sl2, sq2, s9, s10, sb, rfl⟩ := wres16 OS4.rd
  have z1 : w.heap.size + 1 < w1.heap.size := HT1.out.b2.lt
  have z4 : w1.heap.size ≤ W4.heap.size := B4.size
  have P4 := HT1.out.call B4
  go_wp2_with (refine wp_loadBox 28 (.tmp 2) rfl rfl (w.heap.size) rfl (cs := [.int .i64 v0, .int .i64 v1, .int .i64 v2, .int .i64 v3, .int .i64 v4, .int .i64 v5, .int .i64 v6, .int .i64 v7, .int .i64 v8, .slice vp0 vl0 vq0, .slice vp1 vl1 vq1, .slice vp2 vl2 vq2, .int .i64 v9, .int .i64 v10, .bool vb]) P4.b1 Tryz.underlying28 size_LW rfl ?_)
  refine (CT _ B4).mono ?_
  rintro e w5 ⟨cX, rfl, oX, b5⟩
  obtain ⟨x0, x1, x2, x3, x4, x5, x6, x7, x8, xp0, xl0, xq0, xp1, xl1, xq1, xp2, xl2, xq2, x9, x10, xb, rfl⟩ := world15O oX
  have z5 : W4.heap.size ≤ w5.heap.size := b5.size
  have B5 := B4.trans (b5.mono (by omega))
  have S5 := S4.call b5
  have OS5 := OS4.call b5
  clear P4 b5 B4 S4 OS4
  go_upto_region 10 with (refine wp_allocStore 38 7 (.tmp 30) [.int .i64 x0, .int .i64 x1, .int .i64 x2, .int .i64 x3, .int .i64 x4, .int .i64 x5, .int .i64 x6, .int .i64 x7, .int .i64 x8, .slice xp0 xl0 xq0, .slice xp1 xl1 xq1, .slice xp2 xl2 xq2, .int .i64 x9, .int .i64 x10, .bool xb] _ 15 rfl rfl rfl rfl rfl rfl rfl rfl info_W rfl rfl oX.one ?_)
  have bA : Below w5.heap.size w5 (w5.alloc (.cells #[.int .i64 x0, .int .i64 x1, .int .i64 x2, .int .i64 x3, .int .i64 x4, .int .i64 x5, .int .i64 x6, .int .i64 x7, .int .i64 x8, .slice xp0 xl0 xq0, .slice xp1 xl1 xq1, .slice xp2 xl2 xq2, .int .i64 x9, .int .i64 x10, .bool xb] 38)) := (Below.refl _ _).alloc (Nat.le_refl _) _
  have X6 : Box (w5.alloc (.cells #[.int .i64 x0, .int .i64 x1, .int .i64 x2, .int .i64 x3, .int .i64 x4, .int .i64 x5, .int .i64 x6, .int .i64 x7, .int .i64 x8, .slice xp0 xl0 xq0, .slice xp1 xl1 xq1, .slice xp2 xl2 xq2, .int .i64 x9, .int .i64 x10, .bool xb] 38)) w5.heap.size #[.int .i64 x0, .int .i64 x1, .int .i64 x2, .int .i64 x3, .int .i64 x4, .int .i64 x5, .int .i64 x6, .int .i64 x7, .int .i64 x8, .slice xp0 xl0 xq0, .slice xp1 xl1 xq1, .slice xp2 xl2 xq2, .int .i64 x9, .int .i64 x10, .bool xb] 38 := box_new _ _ _
  obtain ⟨W6, hW6⟩ : ∃ x, x = w5.alloc (.cells #[.int .i64 x0, .int .i64 x1, .int .i64 x2, .int .i64 x3, .int .i64 x4, .int .i64 x5, .int .i64 x6, .int .i64 x7, .int .i64 x8, .slice xp0 xl0 xq0, .slice xp1 xl1 xq1, .slice xp2 xl2 xq2, .int .i64 x9, .int .i64 x10, .bool xb] 38) := ⟨_, rfl⟩
  rw [← hW6] at bA X6 ⊢
  have B6 := B5.trans (bA.mono (by omega))
  have S6 := S5.call bA
  have OS6 := OS5.call bA
  have OX6 := oX.call bA
  have z6 : w5.heap.size < W6.heap.size := X6.lt
  have P6 := HT1.out.call B6
  clear bA hW6 oX B5 S5 OS5
  go_wp2_with (refine wp_loadBox 31 (.tmp 3) rfl rfl (w.heap.size + 1) rfl (cs := [.int .i64 r.kind, .int .i64 r.seq, .string r.name, .int .i64 r.length, .int .i64 r.group, .int .i64 r.row, .slice o6 r.rows.1 k6, .slice o7 r.data.1 k7, .slice o8 r.delta.1 k8]) P6.b2 Tryz.underlying31 size_LX rfl ?_)
  refine (CT2 _ B6).mono ?_
  rintro e wr ⟨cR, rfl, oR, br⟩
  obtain ⟨p6, l6, p7, l7, p8, l8, rfl⟩ := secT oR
  have zr : W6.heap.size ≤ wr.heap.size := br.size
  have Br := B6.trans (br.mono (by omega))
  have Sr := S6.call br
  have OSr := OS6.call br
  have Xr := X6.call br
  have OXr := OX6.call br
  clear P6 br B6 S6 OS6 X6 OX6
  go_upto_region 11 with (refine wp_allocStore 43 8 (.tmp 32) [.int .i64 r.kind, .int .i64 r.seq, .string r.name, .int .i64 r.length, .int .i64 r.group, .int .i64 r.row, .slice p6 r.rows.1 l6, .slice p7 r.data.1 l7, .slice p8 r.delta.1 l8] _ 9 rfl rfl rfl rfl rfl rfl rfl rfl info_IX rfl rfl oR.one ?_)
  have bA : Below wr.heap.size wr (wr.alloc (.cells #[.int .i64 r.kind, .int .i64 r.seq, .string r.name, .int .i64 r.length, .int .i64 r.group, .int .i64 r.row, .slice p6 r.rows.1 l6, .slice p7 r.data.1 l7, .slice p8 r.delta.1 l8] 43)) := (Below.refl _ _).alloc (Nat.le_refl _) _
  have Y6 : Box (wr.alloc (.cells #[.int .i64 r.kind, .int .i64 r.seq, .string r.name, .int .i64 r.length, .int .i64 r.group, .int .i64 r.row, .slice p6 r.rows.1 l6, .slice p7 r.data.1 l7, .slice p8 r.delta.1 l8] 43)) wr.heap.size #[.int .i64 r.kind, .int .i64 r.seq, .string r.name, .int .i64 r.length, .int .i64 r.group, .int .i64 r.row, .slice p6 r.rows.1 l6, .slice p7 r.data.1 l7, .slice p8 r.delta.1 l8] 43 := box_new _ _ _
  obtain ⟨Wr, hWr⟩ : ∃ x, x = wr.alloc (.cells #[.int .i64 r.kind, .int .i64 r.seq, .string r.name, .int .i64 r.length, .int .i64 r.group, .int .i64 r.row, .slice p6 r.rows.1 l6, .slice p7 r.data.1 l7, .slice p8 r.delta.1 l8] 43) := ⟨_, rfl⟩
  rw [← hWr] at bA Y6 ⊢
  have B6 := Br.trans (bA.mono (by omega))
  have S6 := Sr.call bA
  have OS6 := OSr.call bA
  have X6 := Xr.call bA
  have OX6 := OXr.call bA
  have OY6 := oR.call bA
  have zr6 : wr.heap.size < Wr.heap.size := Y6.lt
  clear bA hWr oR Br Sr OSr Xr OXr
  go_wp2_with (first | (refine wp_loadBox 38 (.tmp 7) rfl rfl (w5.heap.size) rfl (cs := [.int .i64 x0, .int .i64 x1, .int .i64 x2, .int .i64 x3, .int .i64 x4, .int .i64 x5, .int .i64 x6, .int .i64 x7, .int .i64 x8, .slice xp0 xl0 xq0, .slice xp1 xl1 xq1, .slice xp2 xl2 xq2, .int .i64 x9, .int .i64 x10, .bool xb]) X6 Tryz.underlying38 size_W rfl ?_) | (refine wp_loadBox 43 (.tmp 8) rfl rfl (wr.heap.size) rfl (cs := [.int .i64 r.kind, .int .i64 r.seq, .string r.name, .int .i64 r.length, .int .i64 r.group, .int .i64 r.row, .slice p6 r.rows.1 l6, .slice p7 r.data.1 l7, .slice p8 r.delta.1 l8]) Y6 Tryz.underlying43 size_IX rfl ?_))
  refine (CI _ _ Wr.heap.size _ (OX6.weaken (Nat.le_refl _) (by omega)).rd (OY6.weaken (Nat.le_refl _) (by omega)).rd (Nat.le_refl _)).mono ?_
  rintro e w7 ⟨cG, rfl, oG, b7⟩
  obtain ⟨gc, g0, g1, g2, g3, g4, g5, g6, g7, g8, gp0, gl0, gq0, gp1, gl1, gq1, gp2, gl2, gq2, g9, g10, gb, rfl⟩ := wres16 oG.rd
  have z7 : Wr.heap.size ≤ w7.heap.size := b7.size
  have B7 := B6.trans (b7.mono (by omega))
  have S7 := S6.call b7
  have OS7 := OS6.call b7
  have X7 := X6.call b7
  have OX7 := OX6.call b7
  have Y7 := Y6.call b7
  have OY7 := OY6.call b7
  clear b7 B6 S6 OS6 X6 OX6 Y6 OY6
  go_upto_region 12 with (refine wp_allocStore 40 9 (.tmp 35) [.int .i64 gc, .int .i64 g0, .int .i64 g1, .int .i64 g2, .int .i64 g3, .int .i64 g4, .int .i64 g5, .int .i64 g6, .int .i64 g7, .int .i64 g8, .slice gp0 gl0 gq0, .slice gp1 gl1 gq1, .slice gp2 gl2 gq2, .int .i64 g9, .int .i64 g10, .bool gb] _ 16 rfl rfl rfl rfl rfl rfl rfl rfl info_WR rfl rfl oG.one ?_)
  have bA : Below w7.heap.size w7 (w7.alloc (.cells #[.int .i64 gc, .int .i64 g0, .int .i64 g1, .int .i64 g2, .int .i64 g3, .int .i64 g4, .int .i64 g5, .int .i64 g6, .int .i64 g7, .int .i64 g8, .slice gp0 gl0 gq0, .slice gp1 gl1 gq1, .slice gp2 gl2 gq2, .int .i64 g9, .int .i64 g10, .bool gb] 40)) := (Below.refl _ _).alloc (Nat.le_refl _) _
  have G8 : Box (w7.alloc (.cells #[.int .i64 gc, .int .i64 g0, .int .i64 g1, .int .i64 g2, .int .i64 g3, .int .i64 g4, .int .i64 g5, .int .i64 g6, .int .i64 g7, .int .i64 g8, .slice gp0 gl0 gq0, .slice gp1 gl1 gq1, .slice gp2 gl2 gq2, .int .i64 g9, .int .i64 g10, .bool gb] 40)) w7.heap.size #[.int .i64 gc, .int .i64 g0, .int .i64 g1, .int .i64 g2, .int .i64 g3, .int .i64 g4, .int .i64 g5, .int .i64 g6, .int .i64 g7, .int .i64 g8, .slice gp0 gl0 gq0, .slice gp1 gl1 gq1, .slice gp2 gl2 gq2, .int .i64 g9, .int .i64 g10, .bool gb] 40 := box_new _ _ _
  obtain ⟨W8, hW8⟩ : ∃ x, x = w7.alloc (.cells #[.int .i64 gc, .int .i64 g0, .int .i64 g1, .int .i64 g2, .int .i64 g3, .int .i64 g4, .int .i64 g5, .int .i64 g6, .int .i64 g7, .int .i64 g8, .slice gp0 gl0 gq0, .slice gp1 gl1 gq1, .slice gp2 gl2 gq2, .int .i64 g9, .int .i64 g10, .bool gb] 40) := ⟨_, rfl⟩
  rw [← hW8] at bA G8 ⊢
  have B8 := B7.trans (bA.mono (by omega))
  have S8 := S7.call bA
  have OS8 := OS7.call bA
  have X8 := X7.call bA
  have OX8 := OX7.call bA
  have Y8 := Y7.call bA
  have OY8 := OY7.call bA
  have OG8 := oG.call bA
  have z8 : w7.heap.size < W8.heap.size := G8.lt
  clear bA hW8 oG B7 S7 OS7 X7 OX7 Y7 OY7
  go_wp2_with (first | (refine wp_loadBox 40 (.tmp 9) rfl rfl (w7.heap.size) rfl (cs := [.int .i64 gc, .int .i64 g0, .int .i64 g1, .int .i64 g2, .int .i64 g3, .int .i64 g4, .int .i64 g5, .int .i64 g6, .int .i64 g7, .int .i64 g8, .slice gp0 gl0 gq0, .slice gp1 gl1 gq1, .slice gp2 gl2 gq2, .int .i64 g9, .int .i64 g10, .bool gb]) G8 Tryz.underlying40 size_WR rfl ?_) | (refine wp_loadBox 40 (.tmp 6) rfl rfl (bS) rfl (cs := [.int .i64 sc, .int .i64 s0, .int .i64 s1, .int .i64 s2, .int .i64 s3, .int .i64 s4, .int .i64 s5, .int .i64 s6, .int .i64 s7, .int .i64 s8, .slice sp0 sl0 sq0, .slice sp1 sl1 sq1, .slice sp2 sl2 sq2, .int .i64 s9, .int .i64 s10, .bool sb]) S8 Tryz.underlying40 size_WR rfl ?_))
  refine (CE _ _ _ _ _ OG8.rd OS8.rd (by omega) (by omega)).mono ?_
  rintro e w9 ⟨rfl, b9⟩
  have z9 : W8.heap.size ≤ w9.heap.size := b9.size
  have B9 := B8.trans (b9.mono (by omega))
  have S9 : Hid (Box w9 bS #[.int .i64 sc, .int .i64 s0, .int .i64 s1, .int .i64 s2, .int .i64 s3, .int .i64 s4, .int .i64 s5, .int .i64 s6, .int .i64 s7, .int .i64 s8, .slice sp0 sl0 sq0, .slice sp1 sl1 sq1, .slice sp2 sl2 sq2, .int .i64 s9, .int .i64 s10, .bool sb] 40) := S8.call b9
  have OS9 : Hid (OwnT layWorldResult w9 lS hS q [.int .i64 sc, .int .i64 s0, .int .i64 s1, .int .i64 s2, .int .i64 s3, .int .i64 s4, .int .i64 s5, .int .i64 s6, .int .i64 s7, .int .i64 s8, .slice sp0 sl0 sq0, .slice sp1 sl1 sq1, .slice sp2 sl2 sq2, .int .i64 s9, .int .i64 s10, .bool sb]) := OS8.call b9
  have X9 : Hid (Box w9 w5.heap.size #[.int .i64 x0, .int .i64 x1, .int .i64 x2, .int .i64 x3, .int .i64 x4, .int .i64 x5, .int .i64 x6, .int .i64 x7, .int .i64 x8, .slice xp0 xl0 xq0, .slice xp1 xl1 xq1, .slice xp2 xl2 xq2, .int .i64 x9, .int .i64 x10, .bool xb] 38) := X8.call b9
  have OX9 : Hid (OwnT layWorld w9 W4.heap.size w5.heap.size d [.int .i64 x0, .int .i64 x1, .int .i64 x2, .int .i64 x3, .int .i64 x4, .int .i64 x5, .int .i64 x6, .int .i64 x7, .int .i64 x8, .slice xp0 xl0 xq0, .slice xp1 xl1 xq1, .slice xp2 xl2 xq2, .int .i64 x9, .int .i64 x10, .bool xb]) := OX8.call b9
  have Y9 : Hid (Box w9 wr.heap.size #[.int .i64 r.kind, .int .i64 r.seq, .string r.name, .int .i64 r.length, .int .i64 r.group, .int .i64 r.row, .slice p6 r.rows.1 l6, .slice p7 r.data.1 l7, .slice p8 r.delta.1 l8] 43) := Y8.call b9
  have OY9 : Hid (OwnT layRec w9 W6.heap.size wr.heap.size r [.int .i64 r.kind, .int .i64 r.seq, .string r.name, .int .i64 r.length, .int .i64 r.group, .int .i64 r.row, .slice p6 r.rows.1 l6, .slice p7 r.data.1 l7, .slice p8 r.delta.1 l8]) := OY8.call b9
  have G9 : Hid (Box w9 w7.heap.size #[.int .i64 gc, .int .i64 g0, .int .i64 g1, .int .i64 g2, .int .i64 g3, .int .i64 g4, .int .i64 g5, .int .i64 g6, .int .i64 g7, .int .i64 g8, .slice gp0 gl0 gq0, .slice gp1 gl1 gq1, .slice gp2 gl2 gq2, .int .i64 g9, .int .i64 g10, .bool gb] 40) := G8.call b9
  have OG9 : Hid (OwnT layWorldResult w9 Wr.heap.size w7.heap.size q [.int .i64 gc, .int .i64 g0, .int .i64 g1, .int .i64 g2, .int .i64 g3, .int .i64 g4, .int .i64 g5, .int .i64 g6, .int .i64 g7, .int .i64 g8, .slice gp0 gl0 gq0, .slice gp1 gl1 gq1, .slice gp2 gl2 gq2, .int .i64 g9, .int .i64 g10, .bool gb]) := OG8.call b9
  have HB9 : Hid (Below w1.heap.size w1 w9) := B9
  have P9 : Hid (Two w w9 #[.int .i64 v0, .int .i64 v1, .int .i64 v2, .int .i64 v3, .int .i64 v4, .int .i64 v5, .int .i64 v6, .int .i64 v7, .int .i64 v8, .slice vp0 vl0 vq0, .slice vp1 vl1 vq1, .slice vp2 vl2 vq2, .int .i64 v9, .int .i64 v10, .bool vb] #[.int .i64 r.kind, .int .i64 r.seq, .string r.name, .int .i64 r.length, .int .i64 r.group, .int .i64 r.row, .slice o6 r.rows.1 k6, .slice o7 r.data.1 k7, .slice o8 r.delta.1 k8] 28 31) := HT1.out.call B9
  have CTc := fun w' (hb : Below w9.heap.size w9 w') => CT w' (HB9.out.trans (hb.mono (by omega)))
  clear b9 B8 S8 OS8 X8 OX8 Y8 OY8 G8 OG8 B9
  go_upto_region 14 with fail
  go_cut [44] (fun v wx => v = .bool false ∧ Below w9.heap.size w9 wx)
  case first =>
    have KS : ∀ w', Below w9.heap.size w9 w' → (Box w' (w5.heap.size) #[.int .i64 x0, .int .i64 x1, .int .i64 x2, .int .i64 x3, .int .i64 x4, .int .i64 x5, .int .i64 x6, .int .i64 x7, .int .i64 x8, .slice xp0 xl0 xq0, .slice xp1 xl1 xq1, .slice xp2 xl2 xq2, .int .i64 x9, .int .i64 x10, .bool xb] 38 ∧ Box w' (w.heap.size) #[.int .i64 v0, .int .i64 v1, .int .i64 v2, .int .i64 v3, .int .i64 v4, .int .i64 v5, .int .i64 v6, .int .i64 v7, .int .i64 v8, .slice vp0 vl0 vq0, .slice vp1 vl1 vq1, .slice vp2 vl2 vq2, .int .i64 v9, .int .i64 v10, .bool vb] 28) := fun w' hb => ⟨(X9.out).call hb, (P9.out.b1).call hb⟩
    have B0 : Below w9.heap.size w9 w9.drew := below_drew _
    refine wp_region_L 4 (fun w' => Box w' (w5.heap.size) #[.int .i64 x0, .int .i64 x1, .int .i64 x2, .int .i64 x3, .int .i64 x4, .int .i64 x5, .int .i64 x6, .int .i64 x7, .int .i64 x8, .slice xp0 xl0 xq0, .slice xp1 xl1 xq1, .slice xp2 xl2 xq2, .int .i64 x9, .int .i64 x10, .bool xb] 38 ∧ Box w' (w.heap.size) #[.int .i64 v0, .int .i64 v1, .int .i64 v2, .int .i64 v3, .int .i64 v4, .int .i64 v5, .int .i64 v6, .int .i64 v7, .int .i64 v8, .slice vp0 vl0 vq0, .slice vp1 vl1 vq1, .slice vp2 vl2 vq2, .int .i64 v9, .int .i64 v10, .bool vb] 28) (by kernel_rfl) (KS _ B0) (fun hHeld => ?_)
    refine wpAnyL_take (i := 0) (oi := _) (v := .agg #[.int .i64 x0, .int .i64 x1, .int .i64 x2, .int .i64 x3, .int .i64 x4, .int .i64 x5, .int .i64 x6, .int .i64 x7, .int .i64 x8, .slice xp0 xl0 xq0, .slice xp1 xl1 xq1, .slice xp2 xl2 xq2, .int .i64 x9, .int .i64 x10, .bool xb]) 16 rfl (by kernel_rfl) (fun _ _ _ h => h) (load_yield 38 (.tmp 7) rfl rfl (w5.heap.size) rfl (cs := [.int .i64 x0, .int .i64 x1, .int .i64 x2, .int .i64 x3, .int .i64 x4, .int .i64 x5, .int .i64 x6, .int .i64 x7, .int .i64 x8, .slice xp0 xl0 xq0, .slice xp1 xl1 xq1, .slice xp2 xl2 xq2, .int .i64 x9, .int .i64 x10, .bool xb]) (fun w' h => h.1) Tryz.underlying38 size_W rfl) (by assumption) ?_
    try simp only [List.getElem_toArray, List.getElem_cons_succ, List.getElem_cons_zero, Act.put, List.setIfInBounds_toArray, List.set_cons_zero, List.set_cons_succ]
    refine wpAnyL_take (i := 1) (oi := _) (v := .agg #[.int .i64 v0, .int .i64 v1, .int .i64 v2, .int .i64 v3, .int .i64 v4, .int .i64 v5, .int .i64 v6, .int .i64 v7, .int .i64 v8, .slice vp0 vl0 vq0, .slice vp1 vl1 vq1, .slice vp2 vl2 vq2, .int .i64 v9, .int .i64 v10, .bool vb]) 16 rfl (by kernel_rfl) (fun _ _ _ h => h) (load_yield 28 (.tmp 2) rfl rfl (w.heap.size) rfl (cs := [.int .i64 v0, .int .i64 v1, .int .i64 v2, .int .i64 v3, .int .i64 v4, .int .i64 v5, .int .i64 v6, .int .i64 v7, .int .i64 v8, .slice vp0 vl0 vq0, .slice vp1 vl1 vq1, .slice vp2 vl2 vq2, .int .i64 v9, .int .i64 v10, .bool vb]) (fun w' h => h.2) Tryz.underlying28 size_LW rfl) (by assumption) ?_
    try simp only [List.getElem_toArray, List.getElem_cons_succ, List.getElem_cons_zero, Act.put, List.setIfInBounds_toArray, List.set_cons_zero, List.set_cons_succ]
    refine wpAnyL_one (i := 2) (o := _) rfl (by kernel_rfl) (fun KC hKC => ?_)
    refine step_call rfl 9 _ _ rfl #[.agg #[.int .i64 v0, .int .i64 v1, .int .i64 v2, .int .i64 v3, .int .i64 v4, .int .i64 v5, .int .i64 v6, .int .i64 v7, .int .i64 v8, .slice vp0 vl0 vq0, .slice vp1 vl1 vq1, .slice vp2 vl2 vq2, .int .i64 v9, .int .i64 v10, .bool vb]] ?_ Tryz.func9 (by kernel_rfl) (by kernel_rfl) (CTc _ B0) ?_
    · simp [Act.eval, Act.put]
    rintro ee wb ⟨cs', rfl, oR, bb⟩
    have bR : Below w9.heap.size w9 wb := B0.trans (bb.mono B0.size)
    refine ⟨_, rfl, ?_⟩
    refine hKC.out _ _ (KS _ bR) (fun hHeld => ?_)
    clear hKC KC
    try simp only [List.getElem_toArray, List.getElem_cons_succ, List.getElem_cons_zero, Act.put, List.setIfInBounds_toArray, List.set_cons_zero, List.set_cons_succ]
    refine wpAnyL_one (i := 3) (o := _) rfl (by kernel_rfl) (fun KC hKC => ?_)
    refine step_call rfl 13 _ _ rfl #[.agg #[.int .i64 x0, .int .i64 x1, .int .i64 x2, .int .i64 x3, .int .i64 x4, .int .i64 x5, .int .i64 x6, .int .i64 x7, .int .i64 x8, .slice xp0 xl0 xq0, .slice xp1 xl1 xq1, .slice xp2 xl2 xq2, .int .i64 x9, .int .i64 x10, .bool xb], .agg cs'.toArray] ?_ Tryz.func13 (by kernel_rfl) (by kernel_rfl) (CW _ _ _ _ _ ((OX9.out).call bR).rd oR.rd (Nat.le_trans (by omega) bR.size) (Nat.le_refl _)) ?_
    · simp [Act.eval, Act.put]
    rintro ee wc' ⟨rfl, bc⟩
    have bC : Below w9.heap.size w9 wc' := bR.trans (bc.mono bR.size)
    refine ⟨_, rfl, ?_⟩
    refine hKC.out _ _ (KS _ bC) (fun hHeld => ?_)
    clear hKC KC
    try simp only [List.getElem_toArray, List.getElem_cons_succ, List.getElem_cons_zero, Act.put, List.setIfInBounds_toArray, List.set_cons_zero, List.set_cons_succ]
    refine wpAnyL_last (o := _) rfl (by kernel_rfl) (fun KC hKC => ?_)
    go_simp
    refine hKC.out _ _ ?_
    clear hKC KC
    try simp only [List.getElem_toArray, List.getElem_cons_succ, List.getElem_cons_zero, Act.put, List.setIfInBounds_toArray, List.set_cons_zero, List.set_cons_succ]
    refine wpAnyL_done (by kernel_rfl) ?_ _
    go_wp2
    go_meet
    exact ⟨rfl, bC⟩
  case rest =>
  obtain ⟨rfl, b10⟩ := hcut
  obtain ⟨wa, rfl⟩ : ∃ x, x = wc := ⟨_, rfl⟩
  clear CTc
  have za : w9.heap.size ≤ wa.heap.size := b10.size
  have Ba : Hid (Below w1.heap.size w1 wa) := HB9.out.trans (b10.mono (by omega))
  have Sa : Hid (Box wa bS #[.int .i64 sc, .int .i64 s0, .int .i64 s1, .int .i64 s2, .int .i64 s3, .int .i64 s4, .int .i64 s5, .int .i64 s6, .int .i64 s7, .int .i64 s8, .slice sp0 sl0 sq0, .slice sp1 sl1 sq1, .slice sp2 sl2 sq2, .int .i64 s9, .int .i64 s10, .bool sb] 40) := S9.out.call b10
  have OSa : Hid (OwnT layWorldResult wa lS hS q [.int .i64 sc, .int .i64 s0, .int .i64 s1, .int .i64 s2, .int .i64 s3, .int .i64 s4, .int .i64 s5, .int .i64 s6, .int .i64 s7, .int .i64 s8, .slice sp0 sl0 sq0, .slice sp1 sl1 sq1, .slice sp2 sl2 sq2, .int .i64 s9, .int .i64 s10, .bool sb]) := OS9.out.call b10
  have Xa : Hid (Box wa w5.heap.size #[.int .i64 x0, .int .i64 x1, .int .i64 x2, .int .i64 x3, .int .i64 x4, .int .i64 x5, .int .i64 x6, .int .i64 x7, .int .i64 x8, .slice xp0 xl0 xq0, .slice xp1 xl1 xq1, .slice xp2 xl2 xq2, .int .i64 x9, .int .i64 x10, .bool xb] 38) := X9.out.call b10
  have OXa : Hid (OwnT layWorld wa W4.heap.size w5.heap.size d [.int .i64 x0, .int .i64 x1, .int .i64 x2, .int .i64 x3, .int .i64 x4, .int .i64 x5, .int .i64 x6, .int .i64 x7, .int .i64 x8, .slice xp0 xl0 xq0, .slice xp1 xl1 xq1, .slice xp2 xl2 xq2, .int .i64 x9, .int .i64 x10, .bool xb]) := OX9.out.call b10
  have Ya : Hid (Box wa wr.heap.size #[.int .i64 r.kind, .int .i64 r.seq, .string r.name, .int .i64 r.length, .int .i64 r.group, .int .i64 r.row, .slice p6 r.rows.1 l6, .slice p7 r.data.1 l7, .slice p8 r.delta.1 l8] 43) := Y9.out.call b10
  have OYa : Hid (OwnT layRec wa W6.heap.size wr.heap.size r [.int .i64 r.kind, .int .i64 r.seq, .string r.name, .int .i64 r.length, .int .i64 r.group, .int .i64 r.row, .slice p6 r.rows.1 l6, .slice p7 r.data.1 l7, .slice p8 r.delta.1 l8]) := OY9.out.call b10
  have Ga : Hid (Box wa w7.heap.size #[.int .i64 gc, .int .i64 g0, .int .i64 g1, .int .i64 g2, .int .i64 g3, .int .i64 g4, .int .i64 g5, .int .i64 g6, .int .i64 g7, .int .i64 g8, .slice gp0 gl0 gq0, .slice gp1 gl1 gq1, .slice gp2 gl2 gq2, .int .i64 g9, .int .i64 g10, .bool gb] 40) := G9.out.call b10
  have OGa : Hid (OwnT layWorldResult wa Wr.heap.size w7.heap.size q [.int .i64 gc, .int .i64 g0, .int .i64 g1, .int .i64 g2, .int .i64 g3, .int .i64 g4, .int .i64 g5, .int .i64 g6, .int .i64 g7, .int .i64 g8, .slice gp0 gl0 gq0, .slice gp1 gl1 gq1, .slice gp2 gl2 gq2, .int .i64 g9, .int .i64 g10, .bool gb]) := OG9.out.call b10
  have Pa : Hid (Two w wa #[.int .i64 v0, .int .i64 v1, .int .i64 v2, .int .i64 v3, .int .i64 v4, .int .i64 v5, .int .i64 v6, .int .i64 v7, .int .i64 v8, .slice vp0 vl0 vq0, .slice vp1 vl1 vq1, .slice vp2 vl2 vq2, .int .i64 v9, .int .i64 v10, .bool vb] #[.int .i64 r.kind, .int .i64 r.seq, .string r.name, .int .i64 r.length, .int .i64 r.group, .int .i64 r.row, .slice o6 r.rows.1 k6, .slice o7 r.data.1 k7, .slice o8 r.delta.1 k8] 28 31) := HT1.out.call Ba.out
  have CTc := fun w' (hb : Below wa.heap.size wa w') => CT2 w' (Ba.out.trans (hb.mono (by omega)))
  clear b10 HB9 S9 OS9 X9 OX9 Y9 OY9 G9 OG9 P9
  go_upto_region 16 with fail
  go_cut [49] (fun v wx => v = .bool false ∧ Below wa.heap.size wa wx)
  case first =>
    have KS : ∀ w', Below wa.heap.size wa w' → (Box w' (wr.heap.size) #[.int .i64 r.kind, .int .i64 r.seq, .string r.name, .int .i64 r.length, .int .i64 r.group, .int .i64 r.row, .slice p6 r.rows.1 l6, .slice p7 r.data.1 l7, .slice p8 r.delta.1 l8] 43 ∧ Box w' (w.heap.size + 1) #[.int .i64 r.kind, .int .i64 r.seq, .string r.name, .int .i64 r.length, .int .i64 r.group, .int .i64 r.row, .slice o6 r.rows.1 k6, .slice o7 r.data.1 k7, .slice o8 r.delta.1 k8] 31) := fun w' hb => ⟨(Ya.out).call hb, (Pa.out.b2).call hb⟩
    have B0 : Below wa.heap.size wa wa.drew := below_drew _
    refine wp_region_L 4 (fun w' => Box w' (wr.heap.size) #[.int .i64 r.kind, .int .i64 r.seq, .string r.name, .int .i64 r.length, .int .i64 r.group, .int .i64 r.row, .slice p6 r.rows.1 l6, .slice p7 r.data.1 l7, .slice p8 r.delta.1 l8] 43 ∧ Box w' (w.heap.size + 1) #[.int .i64 r.kind, .int .i64 r.seq, .string r.name, .int .i64 r.length, .int .i64 r.group, .int .i64 r.row, .slice o6 r.rows.1 k6, .slice o7 r.data.1 k7, .slice o8 r.delta.1 k8] 31) (by kernel_rfl) (KS _ B0) (fun hHeld => ?_)
    refine wpAnyL_take (i := 0) (oi := _) (v := .agg #[.int .i64 r.kind, .int .i64 r.seq, .string r.name, .int .i64 r.length, .int .i64 r.group, .int .i64 r.row, .slice p6 r.rows.1 l6, .slice p7 r.data.1 l7, .slice p8 r.delta.1 l8]) 16 rfl (by kernel_rfl) (fun _ _ _ h => h) (load_yield 43 (.tmp 8) rfl rfl (wr.heap.size) rfl (cs := [.int .i64 r.kind, .int .i64 r.seq, .string r.name, .int .i64 r.length, .int .i64 r.group, .int .i64 r.row, .slice p6 r.rows.1 l6, .slice p7 r.data.1 l7, .slice p8 r.delta.1 l8]) (fun w' h => h.1) Tryz.underlying43 size_IX rfl) (by assumption) ?_
    try simp only [List.getElem_toArray, List.getElem_cons_succ, List.getElem_cons_zero, Act.put, List.setIfInBounds_toArray, List.set_cons_zero, List.set_cons_succ]
    refine wpAnyL_take (i := 1) (oi := _) (v := .agg #[.int .i64 r.kind, .int .i64 r.seq, .string r.name, .int .i64 r.length, .int .i64 r.group, .int .i64 r.row, .slice o6 r.rows.1 k6, .slice o7 r.data.1 k7, .slice o8 r.delta.1 k8]) 16 rfl (by kernel_rfl) (fun _ _ _ h => h) (load_yield 31 (.tmp 3) rfl rfl (w.heap.size + 1) rfl (cs := [.int .i64 r.kind, .int .i64 r.seq, .string r.name, .int .i64 r.length, .int .i64 r.group, .int .i64 r.row, .slice o6 r.rows.1 k6, .slice o7 r.data.1 k7, .slice o8 r.delta.1 k8]) (fun w' h => h.2) Tryz.underlying31 size_LX rfl) (by assumption) ?_
    try simp only [List.getElem_toArray, List.getElem_cons_succ, List.getElem_cons_zero, Act.put, List.setIfInBounds_toArray, List.set_cons_zero, List.set_cons_succ]
    refine wpAnyL_one (i := 2) (o := _) rfl (by kernel_rfl) (fun KC hKC => ?_)
    refine step_call rfl 10 _ _ rfl #[.agg #[.int .i64 r.kind, .int .i64 r.seq, .string r.name, .int .i64 r.length, .int .i64 r.group, .int .i64 r.row, .slice o6 r.rows.1 k6, .slice o7 r.data.1 k7, .slice o8 r.delta.1 k8]] ?_ Tryz.func10 (by kernel_rfl) (by kernel_rfl) (CTc _ B0) ?_
    · simp [Act.eval, Act.put]
    rintro ee wb ⟨cs', rfl, oR, bb⟩
    have bR : Below wa.heap.size wa wb := B0.trans (bb.mono B0.size)
    refine ⟨_, rfl, ?_⟩
    refine hKC.out _ _ (KS _ bR) (fun hHeld => ?_)
    clear hKC KC
    try simp only [List.getElem_toArray, List.getElem_cons_succ, List.getElem_cons_zero, Act.put, List.setIfInBounds_toArray, List.set_cons_zero, List.set_cons_succ]
    refine wpAnyL_one (i := 3) (o := _) rfl (by kernel_rfl) (fun KC hKC => ?_)
    refine step_call rfl 14 _ _ rfl #[.agg #[.int .i64 r.kind, .int .i64 r.seq, .string r.name, .int .i64 r.length, .int .i64 r.group, .int .i64 r.row, .slice p6 r.rows.1 l6, .slice p7 r.data.1 l7, .slice p8 r.delta.1 l8], .agg cs'.toArray] ?_ Tryz.func14 (by kernel_rfl) (by kernel_rfl) (CW2 _ _ _ _ _ ((OYa.out).call bR).rd oR.rd (Nat.le_trans (by omega) bR.size) (Nat.le_refl _)) ?_
    · simp [Act.eval, Act.put]
    rintro ee wc' ⟨rfl, bc⟩
    have bC : Below wa.heap.size wa wc' := bR.trans (bc.mono bR.size)
    refine ⟨_, rfl, ?_⟩
    refine hKC.out _ _ (KS _ bC) (fun hHeld => ?_)
    clear hKC KC
    try simp only [List.getElem_toArray, List.getElem_cons_succ, List.getElem_cons_zero, Act.put, List.setIfInBounds_toArray, List.set_cons_zero, List.set_cons_succ]
    refine wpAnyL_last (o := _) rfl (by kernel_rfl) (fun KC hKC => ?_)
    go_simp
    refine hKC.out _ _ ?_
    clear hKC KC
    try simp only [List.getElem_toArray, List.getElem_cons_succ, List.getElem_cons_zero, Act.put, List.setIfInBounds_toArray, List.set_cons_zero, List.set_cons_succ]
    refine wpAnyL_done (by kernel_rfl) ?_ _
    go_wp2
    go_meet
    exact ⟨rfl, bC⟩
  case rest =>
  obtain ⟨rfl, b10⟩ := hcut
  obtain ⟨w10, rfl⟩ : ∃ x, x = wc := ⟨_, rfl⟩
  clear CTc
  have z10 : wa.heap.size ≤ w10.heap.size := b10.size
  have B10 := Ba.out.trans (b10.mono (by omega))
  have S10 := Sa.out.call b10
  have OS10 := OSa.out.call b10
  have X10 := Xa.out.call b10
  have OX10 := OXa.out.call b10
  have Y10 := Ya.out.call b10
  have OY10 := OYa.out.call b10
  have G10 := Ga.out.call b10
  have OG10 := OGa.out.call b10
  clear b10 Ba Sa OSa Xa OXa Ya OYa Ga OGa Pa
  go_wp2_with (refine wp_loadBox 38 (.tmp 7) rfl rfl (w5.heap.size) rfl (cs := [.int .i64 x0, .int .i64 x1, .int .i64 x2, .int .i64 x3, .int .i64 x4, .int .i64 x5, .int .i64 x6, .int .i64 x7, .int .i64 x8, .slice xp0 xl0 xq0, .slice xp1 xl1 xq1, .slice xp2 xl2 xq2, .int .i64 x9, .int .i64 x10, .bool xb]) X10 Tryz.underlying38 size_W rfl ?_)
  refine (CK OX10).mono ?_
  rintro e wk ⟨rfl, OXk, ck⟩
  have zk : w10.heap.size ≤ wk.heap.size := ck.size
  have Bk := B10.trans (ck.bel (B := w1.heap.size) (by omega) (by omega))
  have Sk := S10.chg ck (.inl (by omega))
  have OSk := OS10.chg ck (.inl (by omega))
  have Yk := Y10.chg ck (.inr (by omega))
  have OYk := OY10.chg ck (.inr (by omega))
  have Gk := G10.chg ck (.inr (by omega))
  have OGk := OG10.chg ck (.inr (by omega))
  clear OXk ck B10 S10 OS10 X10 OX10 Y10 OY10 G10 OG10
  go_wp2_with (refine wp_loadBox 43 (.tmp 8) rfl rfl (wr.heap.size) rfl (cs := [.int .i64 r.kind, .int .i64 r.seq, .string r.name, .int .i64 r.length, .int .i64 r.group, .int .i64 r.row, .slice p6 r.rows.1 l6, .slice p7 r.data.1 l7, .slice p8 r.delta.1 l8]) Yk Tryz.underlying43 size_IX rfl ?_)
  refine (CK2 OYk).mono ?_
  rintro e w11 ⟨rfl, OY11, c11⟩
  have hm0 : ¬ (M2 : Int) < 0 := by omega
  have z11 : wk.heap.size ≤ w11.heap.size := c11.size
  have B11 := Bk.trans (c11.bel (B := w1.heap.size) (by omega) (by omega))
  have S11 := Sk.chg c11 (.inl (by omega))
  have OS11 := OSk.chg c11 (.inl (by omega))
  have G11 := Gk.chg c11 (.inr (by omega))
  have OG11 := OGk.chg c11 (.inr (by omega))
  have u_0 : w11.cell? ⟨w7.heap.size, 0, none⟩ = some (.int .i64 gc) := G11.cell 0
  have u_1 : w11.cell? ⟨w7.heap.size, 1, none⟩ = some (.int .i64 g0) := G11.cell 1
  have u_2 : w11.cell? ⟨w7.heap.size, 2, none⟩ = some (.int .i64 g1) := G11.cell 2
  have u_3 : w11.cell? ⟨w7.heap.size, 3, none⟩ = some (.int .i64 g2) := G11.cell 3
  have u_4 : w11.cell? ⟨w7.heap.size, 4, none⟩ = some (.int .i64 g3) := G11.cell 4
  have u_5 : w11.cell? ⟨w7.heap.size, 5, none⟩ = some (.int .i64 g4) := G11.cell 5
  have u_6 : w11.cell? ⟨w7.heap.size, 6, none⟩ = some (.int .i64 g5) := G11.cell 6
  have u_7 : w11.cell? ⟨w7.heap.size, 7, none⟩ = some (.int .i64 g6) := G11.cell 7
  have u_8 : w11.cell? ⟨w7.heap.size, 8, none⟩ = some (.int .i64 g7) := G11.cell 8
  have u_9 : w11.cell? ⟨w7.heap.size, 9, none⟩ = some (.int .i64 g8) := G11.cell 9
  have u_10 : w11.cell? ⟨w7.heap.size, 10, none⟩ = some (.slice gp0 gl0 gq0) := G11.cell 10
  have u_11 : w11.cell? ⟨w7.heap.size, 11, none⟩ = some (.slice gp1 gl1 gq1) := G11.cell 11
  have u_12 : w11.cell? ⟨w7.heap.size, 12, none⟩ = some (.slice gp2 gl2 gq2) := G11.cell 12
  have u_13 : w11.cell? ⟨w7.heap.size, 13, none⟩ = some (.int .i64 g9) := G11.cell 13
  have u_14 : w11.cell? ⟨w7.heap.size, 14, none⟩ = some (.int .i64 g10) := G11.cell 14
  have u_15 : w11.cell? ⟨w7.heap.size, 15, none⟩ = some (.bool gb) := G11.cell 15
  have y_0 : w11.cell? ⟨bS, 0, none⟩ = some (.int .i64 sc) := S11.cell 0
  have y_1 : w11.cell? ⟨bS, 1, none⟩ = some (.int .i64 s0) := S11.cell 1
  have y_2 : w11.cell? ⟨bS, 2, none⟩ = some (.int .i64 s1) := S11.cell 2
  have y_3 : w11.cell? ⟨bS, 3, none⟩ = some (.int .i64 s2) := S11.cell 3
  have y_4 : w11.cell? ⟨bS, 4, none⟩ = some (.int .i64 s3) := S11.cell 4
  have y_5 : w11.cell? ⟨bS, 5, none⟩ = some (.int .i64 s4) := S11.cell 5
  have y_6 : w11.cell? ⟨bS, 6, none⟩ = some (.int .i64 s5) := S11.cell 6
  have y_7 : w11.cell? ⟨bS, 7, none⟩ = some (.int .i64 s6) := S11.cell 7
  have y_8 : w11.cell? ⟨bS, 8, none⟩ = some (.int .i64 s7) := S11.cell 8
  have y_9 : w11.cell? ⟨bS, 9, none⟩ = some (.int .i64 s8) := S11.cell 9
  have y_10 : w11.cell? ⟨bS, 10, none⟩ = some (.slice sp0 sl0 sq0) := S11.cell 10
  have y_11 : w11.cell? ⟨bS, 11, none⟩ = some (.slice sp1 sl1 sq1) := S11.cell 11
  have y_12 : w11.cell? ⟨bS, 12, none⟩ = some (.slice sp2 sl2 sq2) := S11.cell 12
  have y_13 : w11.cell? ⟨bS, 13, none⟩ = some (.int .i64 s9) := S11.cell 13
  have y_14 : w11.cell? ⟨bS, 14, none⟩ = some (.int .i64 s10) := S11.cell 14
  have y_15 : w11.cell? ⟨bS, 15, none⟩ = some (.bool sb) := S11.cell 15
  clear OY11 c11 Bk Sk OSk Yk OYk Gk OGk
  go_wp2_with fail
  refine (CE _ _ _ _ _ OG11.rd OS11.rd (by omega) (by omega)).mono ?_
  rintro e w12 ⟨rfl, b12⟩
  have z12 : w11.heap.size ≤ w12.heap.size := b12.size
  have B12 := B11.trans (b12.mono (by omega))
  have S12 := S11.call b12
  have OS12 := OS11.call b12
  have G12 := G11.call b12
  have OG12 := OG11.call b12
  clear b12 B11 S11 OS11 G11 OG11 u_0 u_1 u_2 u_3 u_4 u_5 u_6 u_7 u_8 u_9 u_10 u_11 u_12 u_13 u_14 u_15 y_0 y_1 y_2 y_3 y_4 y_5 y_6 y_7 y_8 y_9 y_10 y_11 y_12 y_13 y_14 y_15
  go_wp2_with (refine wp_loadBox 40 (.tmp 9) rfl rfl (w7.heap.size) rfl (cs := [.int .i64 gc, .int .i64 g0, .int .i64 g1, .int .i64 g2, .int .i64 g3, .int .i64 g4, .int .i64 g5, .int .i64 g6, .int .i64 g7, .int .i64 g8, .slice gp0 gl0 gq0, .slice gp1 gl1 gq1, .slice gp2 gl2 gq2, .int .i64 g9, .int .i64 g10, .bool gb]) G12 Tryz.underlying40 size_WR rfl ?_)
  refine (CM OG12).mono ?_
  rintro e w13 ⟨rfl, OG13, c13⟩
  have z13 : w12.heap.size ≤ w13.heap.size := c13.size
  have B13 := B12.trans (c13.bel (B := w1.heap.size) (by omega) (by omega))
  have S13 := S12.chg c13 (.inl (by omega))
  have OS13 := OS12.chg c13 (.inl (by omega))
  have G13 := G12.chg c13 (.inr (by omega))
  clear c13 B12 S12 OS12 G12 OG12
  go_wp2_with (refine wp_loadBox 40 (.tmp 9) rfl rfl (w7.heap.size) rfl (cs := [.int .i64 gc, .int .i64 g0, .int .i64 g1, .int .i64 g2, .int .i64 g3, .int .i64 g4, .int .i64 g5, .int .i64 g6, .int .i64 g7, .int .i64 g8, .slice gp0 gl0 gq0, .slice gp1 gl1 gq1, .slice gp2 gl2 gq2, .int .i64 g9, .int .i64 g10, .bool gb]) G13 Tryz.underlying40 size_WR rfl ?_)
  refine (CH _ _ _ OG13.rd (by omega)).mono ?_
  rintro e w14 ⟨rfl, b14⟩
  have z14 : w13.heap.size ≤ w14.heap.size := b14.size
  have B14 : Hid (Below w1.heap.size w1 w14) := B13.trans (b14.mono (by omega))
  have S14 : Hid (Box w14 bS #[.int .i64 sc, .int .i64 s0, .int .i64 s1, .int .i64 s2, .int .i64 s3, .int .i64 s4, .int .i64 s5, .int .i64 s6, .int .i64 s7, .int .i64 s8, .slice sp0 sl0 sq0, .slice sp1 sl1 sq1, .slice sp2 sl2 sq2, .int .i64 s9, .int .i64 s10, .bool sb] 40) := S13.call b14
  have OS14 : Hid (OwnT layWorldResult w14 lS hS q [.int .i64 sc, .int .i64 s0, .int .i64 s1, .int .i64 s2, .int .i64 s3, .int .i64 s4, .int .i64 s5, .int .i64 s6, .int .i64 s7, .int .i64 s8, .slice sp0 sl0 sq0, .slice sp1 sl1 sq1, .slice sp2 sl2 sq2, .int .i64 s9, .int .i64 s10, .bool sb]) := OS13.call b14
  have G14 : Hid (Box w14 w7.heap.size #[.int .i64 gc, .int .i64 g0, .int .i64 g1, .int .i64 g2, .int .i64 g3, .int .i64 g4, .int .i64 g5, .int .i64 g6, .int .i64 g7, .int .i64 g8, .slice gp0 gl0 gq0, .slice gp1 gl1 gq1, .slice gp2 gl2 gq2, .int .i64 g9, .int .i64 g10, .bool gb] 40) := G13.call b14
  have OG14 : Hid (OwnT layWorldResult w14 Wr.heap.size w7.heap.size (mkvWorldResultD 1 q) [.int .i64 gc, .int .i64 g0, .int .i64 g1, .int .i64 g2, .int .i64 g3, .int .i64 g4, .int .i64 g5, .int .i64 g6, .int .i64 g7, .int .i64 g8, .slice gp0 gl0 gq0, .slice gp1 gl1 gq1, .slice gp2 gl2 gq2, .int .i64 g9, .int .i64 g10, .bool gb]) := OG13.call b14
  have P14 := HT1.out.call B14.out
  clear b14 B13 S13 OS13 G13 OG13
  have hn0 : ¬ (N : Int) < 0 := by omega
  have CTb := fun w' (hb : Below w14.heap.size w14 w') => CT w' (B14.out.trans (hb.mono (by omega)))
  have CT2b := fun w' (hb : Below w14.heap.size w14 w') => CT2 w' (B14.out.trans (hb.mono (by omega)))
  go_upto_region 31 with fail
  go_cut [13] (fun v wx => ∃ b lo hi cS, v = .pointer (some ⟨b, 0, none⟩) ∧ Box wx b (cS : List Value).toArray 40 ∧ OwnT layWorldResult wx lo hi q cS ∧ Below w14.heap.size w14 wx ∧ w14.heap.size ≤ b ∧ b < wx.heap.size ∧ w14.heap.size ≤ lo ∧ hi ≤ wx.heap.size ∧ (b < lo ∨ hi ≤ b))
  case first =>
    have TD := P14
    have KS : ∀ w', Below w14.heap.size w14 w' → (Box w' w.heap.size #[.int .i64 v0, .int .i64 v1, .int .i64 v2, .int .i64 v3, .int .i64 v4, .int .i64 v5, .int .i64 v6, .int .i64 v7, .int .i64 v8, .slice vp0 vl0 vq0, .slice vp1 vl1 vq1, .slice vp2 vl2 vq2, .int .i64 v9, .int .i64 v10, .bool vb] 28 ∧ Box w' (w.heap.size + 1) #[.int .i64 r.kind, .int .i64 r.seq, .string r.name, .int .i64 r.length, .int .i64 r.group, .int .i64 r.row, .slice o6 r.rows.1 k6, .slice o7 r.data.1 k7, .slice o8 r.delta.1 k8] 31) := fun w' hb => ⟨TD.b1.call hb, TD.b2.call hb⟩
    have B0 : Below w14.heap.size w14 w14.drew := below_drew _
    refine wp_region_L 6 (fun w' => Box w' w.heap.size #[.int .i64 v0, .int .i64 v1, .int .i64 v2, .int .i64 v3, .int .i64 v4, .int .i64 v5, .int .i64 v6, .int .i64 v7, .int .i64 v8, .slice vp0 vl0 vq0, .slice vp1 vl1 vq1, .slice vp2 vl2 vq2, .int .i64 v9, .int .i64 v10, .bool vb] 28 ∧ Box w' (w.heap.size + 1) #[.int .i64 r.kind, .int .i64 r.seq, .string r.name, .int .i64 r.length, .int .i64 r.group, .int .i64 r.row, .slice o6 r.rows.1 k6, .slice o7 r.data.1 k7, .slice o8 r.delta.1 k8] 31) (by kernel_rfl) (KS _ B0) (fun hHeld => ?_)
    refine wpAnyL_take (i := 0) (oi := _) (v := .agg #[.int .i64 v0, .int .i64 v1, .int .i64 v2, .int .i64 v3, .int .i64 v4, .int .i64 v5, .int .i64 v6, .int .i64 v7, .int .i64 v8, .slice vp0 vl0 vq0, .slice vp1 vl1 vq1, .slice vp2 vl2 vq2, .int .i64 v9, .int .i64 v10, .bool vb]) 16 rfl (by kernel_rfl) (fun _ _ _ h => h) (load_yield 28 (.tmp 2) rfl rfl (w.heap.size) rfl (cs := [.int .i64 v0, .int .i64 v1, .int .i64 v2, .int .i64 v3, .int .i64 v4, .int .i64 v5, .int .i64 v6, .int .i64 v7, .int .i64 v8, .slice vp0 vl0 vq0, .slice vp1 vl1 vq1, .slice vp2 vl2 vq2, .int .i64 v9, .int .i64 v10, .bool vb]) (fun w' h => h.1) Tryz.underlying28 size_LW rfl) (by assumption) ?_
    try simp only [List.getElem_toArray, List.getElem_cons_succ, List.getElem_cons_zero, Act.put, List.setIfInBounds_toArray, List.set_cons_zero, List.set_cons_succ]
    refine wpAnyL_take (i := 2) (oi := _) (v := .agg #[.int .i64 r.kind, .int .i64 r.seq, .string r.name, .int .i64 r.length, .int .i64 r.group, .int .i64 r.row, .slice o6 r.rows.1 k6, .slice o7 r.data.1 k7, .slice o8 r.delta.1 k8]) 16 rfl (by kernel_rfl) (fun _ _ _ h => h) (load_yield 31 (.tmp 3) rfl rfl (w.heap.size + 1) rfl (cs := [.int .i64 r.kind, .int .i64 r.seq, .string r.name, .int .i64 r.length, .int .i64 r.group, .int .i64 r.row, .slice o6 r.rows.1 k6, .slice o7 r.data.1 k7, .slice o8 r.delta.1 k8]) (fun w' h => h.2) Tryz.underlying31 size_LX rfl) (by assumption) ?_
    try simp only [List.getElem_toArray, List.getElem_cons_succ, List.getElem_cons_zero, Act.put, List.setIfInBounds_toArray, List.set_cons_zero, List.set_cons_succ]
    refine wpAnyL_two (i := 1) (j := 5) (oi := _) (oj := _) rfl rfl (by kernel_rfl) (by decide) (fun KC hKC => ?_) (fun KC hKC => ?_)
    · refine step_call rfl 9 _ _ rfl #[.agg #[.int .i64 v0, .int .i64 v1, .int .i64 v2, .int .i64 v3, .int .i64 v4, .int .i64 v5, .int .i64 v6, .int .i64 v7, .int .i64 v8, .slice vp0 vl0 vq0, .slice vp1 vl1 vq1, .slice vp2 vl2 vq2, .int .i64 v9, .int .i64 v10, .bool vb]] ?_ Tryz.func9 (by kernel_rfl) (by kernel_rfl) (CTb w14.drew B0) ?_
      · simp [Act.eval, Act.put]
      rintro ee x1 ⟨cA, rfl, ow1, b1⟩
      have z1 := b1.size
      have bb1 : Below w14.heap.size w14 x1 := B0.trans (b1.mono B0.size)
      refine ⟨_, rfl, ?_⟩
      refine hKC.out _ _ (KS _ bb1) (fun hHeld => ?_)
      clear hKC KC
      try simp only [List.getElem_toArray, List.getElem_cons_succ, List.getElem_cons_zero, Act.put, List.setIfInBounds_toArray, List.set_cons_zero, List.set_cons_succ]
      refine wpAnyL_two (i := 3) (j := 5) (oi := _) (oj := _) rfl rfl (by kernel_rfl) (by decide) (fun KC hKC => ?_) (fun KC hKC => ?_)
      · refine step_call rfl 10 _ _ rfl #[.agg #[.int .i64 r.kind, .int .i64 r.seq, .string r.name, .int .i64 r.length, .int .i64 r.group, .int .i64 r.row, .slice o6 r.rows.1 k6, .slice o7 r.data.1 k7, .slice o8 r.delta.1 k8]] ?_ Tryz.func10 (by kernel_rfl) (by kernel_rfl) (CT2b x1 bb1) ?_
        · simp [Act.eval, Act.put]
        rintro ee x2 ⟨cB, rfl, ow2, b2⟩
        have z2 := b2.size
        have bb2 : Below w14.heap.size w14 x2 := bb1.trans (b2.mono bb1.size)
        refine ⟨_, rfl, ?_⟩
        refine hKC.out _ _ (KS _ bb2) (fun hHeld => ?_)
        clear hKC KC
        try simp only [List.getElem_toArray, List.getElem_cons_succ, List.getElem_cons_zero, Act.put, List.setIfInBounds_toArray, List.set_cons_zero, List.set_cons_succ]
        refine wpAnyL_two (i := 4) (j := 5) (oi := _) (oj := _) rfl rfl (by kernel_rfl) (by decide) (fun KC hKC => ?_) (fun KC hKC => ?_)
        · refine step_call rfl 20 _ _ rfl #[.agg cA.toArray, .agg cB.toArray] ?_ Tryz.func20 (by kernel_rfl) (by kernel_rfl) (CI cA cB x2.heap.size x2 (((ow1).call b2).weaken (Nat.le_refl _) (by omega)).rd ((ow2).weaken (Nat.le_refl _) (by omega)).rd (Nat.le_refl _)) ?_
          · simp [Act.eval, Act.put]
          rintro ee x3 ⟨cS, rfl, ow3, b3⟩
          have z3 := b3.size
          have bb3 : Below w14.heap.size w14 x3 := bb2.trans (b3.mono bb2.size)
          refine ⟨_, rfl, ?_⟩
          refine hKC.out _ _ (KS _ bb3) (fun hHeld => ?_)
          clear hKC KC
          try simp only [List.getElem_toArray, List.getElem_cons_succ, List.getElem_cons_zero, Act.put, List.setIfInBounds_toArray, List.set_cons_zero, List.set_cons_succ]
          refine wpAnyL_one (i := 5) (o := _) rfl (by kernel_rfl) (fun KC hKC => ?_)
          have b4 : Below x3.heap.size x3 (x3.alloc (.cells #[.int .i64 0, .int .i64 0, .int .i64 0, .int .i64 0, .int .i64 0, .int .i64 0, .int .i64 0, .int .i64 0, .int .i64 0, .int .i64 0, .slice none 0 0, .slice none 0 0, .slice none 0 0, .int .i64 0, .int .i64 0, .bool false] 40)) := (Below.refl _ _).alloc (Nat.le_refl _) _
          have X4 := box_new x3 #[.int .i64 0, .int .i64 0, .int .i64 0, .int .i64 0, .int .i64 0, .int .i64 0, .int .i64 0, .int .i64 0, .int .i64 0, .int .i64 0, .slice none 0 0, .slice none 0 0, .slice none 0 0, .int .i64 0, .int .i64 0, .bool false] 40
          refine step_alloc rfl 40 rfl info_WR ?_
          obtain ⟨x4, hx4⟩ : ∃ x, x = (x3.alloc (.cells #[.int .i64 0, .int .i64 0, .int .i64 0, .int .i64 0, .int .i64 0, .int .i64 0, .int .i64 0, .int .i64 0, .int .i64 0, .int .i64 0, .slice none 0 0, .slice none 0 0, .slice none 0 0, .int .i64 0, .int .i64 0, .bool false] 40)) := ⟨_, rfl⟩
          rw [← hx4] at b4 X4 ⊢
          clear hx4
          have z4 := b4.size
          have y4 : x3.heap.size < x4.heap.size := X4.lt
          have bb4 : Below w14.heap.size w14 x4 := bb3.trans (b4.mono bb3.size)
          refine hKC.out _ _ (KS _ bb4) (fun hHeld => ?_)
          clear hKC KC
          try simp only [List.getElem_toArray, List.getElem_cons_succ, List.getElem_cons_zero, Act.put, List.setIfInBounds_toArray, List.set_cons_zero, List.set_cons_succ]
          have oS := (ow3).call b4
          have bX := X4
          have hl := oS.len.trans sz_WR
          have h1 := oS.one
          refine wpAnyL_store (o := _) rfl (by kernel_rfl) (by kernel_rfl) rfl rfl 40 (.tmp 13) (.tmp 79) rfl (x3.heap.size) ?_ (cs := cS) (old := [.int .i64 0, .int .i64 0, .int .i64 0, .int .i64 0, .int .i64 0, .int .i64 0, .int .i64 0, .int .i64 0, .int .i64 0, .int .i64 0, .slice none 0 0, .slice none 0 0, .slice none 0 0, .int .i64 0, .int .i64 0, .bool false]) ?_ bX size_WR hl rfl h1 ?_
          · simp [Act.eval, Act.put]
          · simp [Act.eval, Act.put]
          intro w9 X9 C9 z9
          try simp only [List.getElem_toArray, List.getElem_cons_succ, List.getElem_cons_zero, Act.put, List.setIfInBounds_toArray, List.set_cons_zero, List.set_cons_succ]
          have zB := B0.size
          have z0 := bb4.size
          have HF : Hid (Box w9 (x3.heap.size) cS.toArray 40 ∧ OwnT layWorldResult w9 (x2.heap.size) (x3.heap.size) q cS ∧ Below w14.heap.size w14 w9 ∧ w14.heap.size ≤ x3.heap.size ∧ x3.heap.size < w9.heap.size ∧ w14.heap.size ≤ x2.heap.size ∧ x3.heap.size ≤ w9.heap.size ∧ (x3.heap.size < x2.heap.size ∨ x3.heap.size ≤ x3.heap.size)) := ⟨X9, oS.chgk C9 (fun b hb => by simp only [List.mem_cons, List.not_mem_nil, or_false] at hb; omega), bb4.trans (C9.bel (fun b hb => by simp only [List.mem_cons, List.not_mem_nil, or_false] at hb; omega) bb4.size), by omega, by omega, by omega, by omega, by omega⟩
          clear oS X9 C9 KS bX hl h1
          go_wp2
          go_meet
          exact ⟨_, _, _, _, rfl, HF.out⟩
        · have b5 : Below x2.heap.size x2 (x2.alloc (.cells #[.int .i64 0, .int .i64 0, .int .i64 0, .int .i64 0, .int .i64 0, .int .i64 0, .int .i64 0, .int .i64 0, .int .i64 0, .int .i64 0, .slice none 0 0, .slice none 0 0, .slice none 0 0, .int .i64 0, .int .i64 0, .bool false] 40)) := (Below.refl _ _).alloc (Nat.le_refl _) _
          have X5 := box_new x2 #[.int .i64 0, .int .i64 0, .int .i64 0, .int .i64 0, .int .i64 0, .int .i64 0, .int .i64 0, .int .i64 0, .int .i64 0, .int .i64 0, .slice none 0 0, .slice none 0 0, .slice none 0 0, .int .i64 0, .int .i64 0, .bool false] 40
          refine step_alloc rfl 40 rfl info_WR ?_
          obtain ⟨x5, hx5⟩ : ∃ x, x = (x2.alloc (.cells #[.int .i64 0, .int .i64 0, .int .i64 0, .int .i64 0, .int .i64 0, .int .i64 0, .int .i64 0, .int .i64 0, .int .i64 0, .int .i64 0, .slice none 0 0, .slice none 0 0, .slice none 0 0, .int .i64 0, .int .i64 0, .bool false] 40)) := ⟨_, rfl⟩
          rw [← hx5] at b5 X5 ⊢
          clear hx5
          have z5 := b5.size
          have y5 : x2.heap.size < x5.heap.size := X5.lt
          have bb5 : Below w14.heap.size w14 x5 := bb2.trans (b5.mono bb2.size)
          refine hKC.out _ _ (KS _ bb5) (fun hHeld => ?_)
          clear hKC KC
          try simp only [List.getElem_toArray, List.getElem_cons_succ, List.getElem_cons_zero, Act.put, List.setIfInBounds_toArray, List.set_cons_zero, List.set_cons_succ]
          refine wpAnyL_one (i := 4) (o := _) rfl (by kernel_rfl) (fun KC hKC => ?_)
          refine step_call rfl 20 _ _ rfl #[.agg cA.toArray, .agg cB.toArray] ?_ Tryz.func20 (by kernel_rfl) (by kernel_rfl) (CI cA cB x5.heap.size x5 ((((ow1).call b2).call b5).weaken (Nat.le_refl _) (by omega)).rd (((ow2).call b5).weaken (Nat.le_refl _) (by omega)).rd (Nat.le_refl _)) ?_
          · simp [Act.eval, Act.put]
          rintro ee x6 ⟨cS, rfl, ow6, b6⟩
          have z6 := b6.size
          have bb6 : Below w14.heap.size w14 x6 := bb5.trans (b6.mono bb5.size)
          refine ⟨_, rfl, ?_⟩
          refine hKC.out _ _ (KS _ bb6) (fun hHeld => ?_)
          clear hKC KC
          try simp only [List.getElem_toArray, List.getElem_cons_succ, List.getElem_cons_zero, Act.put, List.setIfInBounds_toArray, List.set_cons_zero, List.set_cons_succ]
          have oS := ow6
          have bX := (X5).call b6
          have hl := oS.len.trans sz_WR
          have h1 := oS.one
          refine wpAnyL_store (o := _) rfl (by kernel_rfl) (by kernel_rfl) rfl rfl 40 (.tmp 13) (.tmp 79) rfl (x2.heap.size) ?_ (cs := cS) (old := [.int .i64 0, .int .i64 0, .int .i64 0, .int .i64 0, .int .i64 0, .int .i64 0, .int .i64 0, .int .i64 0, .int .i64 0, .int .i64 0, .slice none 0 0, .slice none 0 0, .slice none 0 0, .int .i64 0, .int .i64 0, .bool false]) ?_ bX size_WR hl rfl h1 ?_
          · simp [Act.eval, Act.put]
          · simp [Act.eval, Act.put]
          intro w9 X9 C9 z9
          try simp only [List.getElem_toArray, List.getElem_cons_succ, List.getElem_cons_zero, Act.put, List.setIfInBounds_toArray, List.set_cons_zero, List.set_cons_succ]
          have zB := B0.size
          have z0 := bb6.size
          have HF : Hid (Box w9 (x2.heap.size) cS.toArray 40 ∧ OwnT layWorldResult w9 (x5.heap.size) (x6.heap.size) q cS ∧ Below w14.heap.size w14 w9 ∧ w14.heap.size ≤ x2.heap.size ∧ x2.heap.size < w9.heap.size ∧ w14.heap.size ≤ x5.heap.size ∧ x6.heap.size ≤ w9.heap.size ∧ (x2.heap.size < x5.heap.size ∨ x6.heap.size ≤ x2.heap.size)) := ⟨X9, oS.chgk C9 (fun b hb => by simp only [List.mem_cons, List.not_mem_nil, or_false] at hb; omega), bb6.trans (C9.bel (fun b hb => by simp only [List.mem_cons, List.not_mem_nil, or_false] at hb; omega) bb6.size), by omega, by omega, by omega, by omega, by omega⟩
          clear oS X9 C9 KS bX hl h1
          go_wp2
          go_meet
          exact ⟨_, _, _, _, rfl, HF.out⟩
      · have b7 : Below x1.heap.size x1 (x1.alloc (.cells #[.int .i64 0, .int .i64 0, .int .i64 0, .int .i64 0, .int .i64 0, .int .i64 0, .int .i64 0, .int .i64 0, .int .i64 0, .int .i64 0, .slice none 0 0, .slice none 0 0, .slice none 0 0, .int .i64 0, .int .i64 0, .bool false] 40)) := (Below.refl _ _).alloc (Nat.le_refl _) _
        have X7 := box_new x1 #[.int .i64 0, .int .i64 0, .int .i64 0, .int .i64 0, .int .i64 0, .int .i64 0, .int .i64 0, .int .i64 0, .int .i64 0, .int .i64 0, .slice none 0 0, .slice none 0 0, .slice none 0 0, .int .i64 0, .int .i64 0, .bool false] 40
        refine step_alloc rfl 40 rfl info_WR ?_
        obtain ⟨x7, hx7⟩ : ∃ x, x = (x1.alloc (.cells #[.int .i64 0, .int .i64 0, .int .i64 0, .int .i64 0, .int .i64 0, .int .i64 0, .int .i64 0, .int .i64 0, .int .i64 0, .int .i64 0, .slice none 0 0, .slice none 0 0, .slice none 0 0, .int .i64 0, .int .i64 0, .bool false] 40)) := ⟨_, rfl⟩
        rw [← hx7] at b7 X7 ⊢
        clear hx7
        have z7 := b7.size
        have y7 : x1.heap.size < x7.heap.size := X7.lt
        have bb7 : Below w14.heap.size w14 x7 := bb1.trans (b7.mono bb1.size)
        refine hKC.out _ _ (KS _ bb7) (fun hHeld => ?_)
        clear hKC KC
        try simp only [List.getElem_toArray, List.getElem_cons_succ, List.getElem_cons_zero, Act.put, List.setIfInBounds_toArray, List.set_cons_zero, List.set_cons_succ]
        refine wpAnyL_one (i := 3) (o := _) rfl (by kernel_rfl) (fun KC hKC => ?_)
        refine step_call rfl 10 _ _ rfl #[.agg #[.int .i64 r.kind, .int .i64 r.seq, .string r.name, .int .i64 r.length, .int .i64 r.group, .int .i64 r.row, .slice o6 r.rows.1 k6, .slice o7 r.data.1 k7, .slice o8 r.delta.1 k8]] ?_ Tryz.func10 (by kernel_rfl) (by kernel_rfl) (CT2b x7 bb7) ?_
        · simp [Act.eval, Act.put]
        rintro ee x8 ⟨cB, rfl, ow8, b8⟩
        have z8 := b8.size
        have bb8 : Below w14.heap.size w14 x8 := bb7.trans (b8.mono bb7.size)
        refine ⟨_, rfl, ?_⟩
        refine hKC.out _ _ (KS _ bb8) (fun hHeld => ?_)
        clear hKC KC
        try simp only [List.getElem_toArray, List.getElem_cons_succ, List.getElem_cons_zero, Act.put, List.setIfInBounds_toArray, List.set_cons_zero, List.set_cons_succ]
        refine wpAnyL_one (i := 4) (o := _) rfl (by kernel_rfl) (fun KC hKC => ?_)
        refine step_call rfl 20 _ _ rfl #[.agg cA.toArray, .agg cB.toArray] ?_ Tryz.func20 (by kernel_rfl) (by kernel_rfl) (CI cA cB x8.heap.size x8 ((((ow1).call b7).call b8).weaken (Nat.le_refl _) (by omega)).rd ((ow8).weaken (Nat.le_refl _) (by omega)).rd (Nat.le_refl _)) ?_
        · simp [Act.eval, Act.put]
        rintro ee x9 ⟨cS, rfl, ow9, b9⟩
        have z9 := b9.size
        have bb9 : Below w14.heap.size w14 x9 := bb8.trans (b9.mono bb8.size)
        refine ⟨_, rfl, ?_⟩
        refine hKC.out _ _ (KS _ bb9) (fun hHeld => ?_)
        clear hKC KC
        try simp only [List.getElem_toArray, List.getElem_cons_succ, List.getElem_cons_zero, Act.put, List.setIfInBounds_toArray, List.set_cons_zero, List.set_cons_succ]
        have oS := ow9
        have bX := ((X7).call b8).call b9
        have hl := oS.len.trans sz_WR
        have h1 := oS.one
        refine wpAnyL_store (o := _) rfl (by kernel_rfl) (by kernel_rfl) rfl rfl 40 (.tmp 13) (.tmp 79) rfl (x1.heap.size) ?_ (cs := cS) (old := [.int .i64 0, .int .i64 0, .int .i64 0, .int .i64 0, .int .i64 0, .int .i64 0, .int .i64 0, .int .i64 0, .int .i64 0, .int .i64 0, .slice none 0 0, .slice none 0 0, .slice none 0 0, .int .i64 0, .int .i64 0, .bool false]) ?_ bX size_WR hl rfl h1 ?_
        · simp [Act.eval, Act.put]
        · simp [Act.eval, Act.put]
        intro w9 X9 C9 z9
        try simp only [List.getElem_toArray, List.getElem_cons_succ, List.getElem_cons_zero, Act.put, List.setIfInBounds_toArray, List.set_cons_zero, List.set_cons_succ]
        have zB := B0.size
        have z0 := bb9.size
        have HF : Hid (Box w9 (x1.heap.size) cS.toArray 40 ∧ OwnT layWorldResult w9 (x8.heap.size) (x9.heap.size) q cS ∧ Below w14.heap.size w14 w9 ∧ w14.heap.size ≤ x1.heap.size ∧ x1.heap.size < w9.heap.size ∧ w14.heap.size ≤ x8.heap.size ∧ x9.heap.size ≤ w9.heap.size ∧ (x1.heap.size < x8.heap.size ∨ x9.heap.size ≤ x1.heap.size)) := ⟨X9, oS.chgk C9 (fun b hb => by simp only [List.mem_cons, List.not_mem_nil, or_false] at hb; omega), bb9.trans (C9.bel (fun b hb => by simp only [List.mem_cons, List.not_mem_nil, or_false] at hb; omega) bb9.size), by omega, by omega, by omega, by omega, by omega⟩
        clear oS X9 C9 KS bX hl h1
        go_wp2
        go_meet
        exact ⟨_, _, _, _, rfl, HF.out⟩
    · have b10 : Below w14.drew.heap.size w14.drew (w14.drew.alloc (.cells #[.int .i64 0, .int .i64 0, .int .i64 0, .int .i64 0, .int .i64 0, .int .i64 0, .int .i64 0, .int .i64 0, .int .i64 0, .int .i64 0, .slice none 0 0, .slice none 0 0, .slice none 0 0, .int .i64 0, .int .i64 0, .bool false] 40)) := (Below.refl _ _).alloc (Nat.le_refl _) _
      have X10 := box_new w14.drew #[.int .i64 0, .int .i64 0, .int .i64 0, .int .i64 0, .int .i64 0, .int .i64 0, .int .i64 0, .int .i64 0, .int .i64 0, .int .i64 0, .slice none 0 0, .slice none 0 0, .slice none 0 0, .int .i64 0, .int .i64 0, .bool false] 40
      refine step_alloc rfl 40 rfl info_WR ?_
      obtain ⟨x10, hx10⟩ : ∃ x, x = (w14.drew.alloc (.cells #[.int .i64 0, .int .i64 0, .int .i64 0, .int .i64 0, .int .i64 0, .int .i64 0, .int .i64 0, .int .i64 0, .int .i64 0, .int .i64 0, .slice none 0 0, .slice none 0 0, .slice none 0 0, .int .i64 0, .int .i64 0, .bool false] 40)) := ⟨_, rfl⟩
      rw [← hx10] at b10 X10 ⊢
      clear hx10
      have z10 := b10.size
      have y10 : w14.drew.heap.size < x10.heap.size := X10.lt
      have bb10 : Below w14.heap.size w14 x10 := B0.trans (b10.mono B0.size)
      refine hKC.out _ _ (KS _ bb10) (fun hHeld => ?_)
      clear hKC KC
      try simp only [List.getElem_toArray, List.getElem_cons_succ, List.getElem_cons_zero, Act.put, List.setIfInBounds_toArray, List.set_cons_zero, List.set_cons_succ]
      refine wpAnyL_one (i := 1) (o := _) rfl (by kernel_rfl) (fun KC hKC => ?_)
      refine step_call rfl 9 _ _ rfl #[.agg #[.int .i64 v0, .int .i64 v1, .int .i64 v2, .int .i64 v3, .int .i64 v4, .int .i64 v5, .int .i64 v6, .int .i64 v7, .int .i64 v8, .slice vp0 vl0 vq0, .slice vp1 vl1 vq1, .slice vp2 vl2 vq2, .int .i64 v9, .int .i64 v10, .bool vb]] ?_ Tryz.func9 (by kernel_rfl) (by kernel_rfl) (CTb x10 bb10) ?_
      · simp [Act.eval, Act.put]
      rintro ee x11 ⟨cA, rfl, ow11, b11⟩
      have z11 := b11.size
      have bb11 : Below w14.heap.size w14 x11 := bb10.trans (b11.mono bb10.size)
      refine ⟨_, rfl, ?_⟩
      refine hKC.out _ _ (KS _ bb11) (fun hHeld => ?_)
      clear hKC KC
      try simp only [List.getElem_toArray, List.getElem_cons_succ, List.getElem_cons_zero, Act.put, List.setIfInBounds_toArray, List.set_cons_zero, List.set_cons_succ]
      refine wpAnyL_one (i := 3) (o := _) rfl (by kernel_rfl) (fun KC hKC => ?_)
      refine step_call rfl 10 _ _ rfl #[.agg #[.int .i64 r.kind, .int .i64 r.seq, .string r.name, .int .i64 r.length, .int .i64 r.group, .int .i64 r.row, .slice o6 r.rows.1 k6, .slice o7 r.data.1 k7, .slice o8 r.delta.1 k8]] ?_ Tryz.func10 (by kernel_rfl) (by kernel_rfl) (CT2b x11 bb11) ?_
      · simp [Act.eval, Act.put]
      rintro ee x12 ⟨cB, rfl, ow12, b12⟩
      have z12 := b12.size
      have bb12 : Below w14.heap.size w14 x12 := bb11.trans (b12.mono bb11.size)
      refine ⟨_, rfl, ?_⟩
      refine hKC.out _ _ (KS _ bb12) (fun hHeld => ?_)
      clear hKC KC
      try simp only [List.getElem_toArray, List.getElem_cons_succ, List.getElem_cons_zero, Act.put, List.setIfInBounds_toArray, List.set_cons_zero, List.set_cons_succ]
      refine wpAnyL_one (i := 4) (o := _) rfl (by kernel_rfl) (fun KC hKC => ?_)
      refine step_call rfl 20 _ _ rfl #[.agg cA.toArray, .agg cB.toArray] ?_ Tryz.func20 (by kernel_rfl) (by kernel_rfl) (CI cA cB x12.heap.size x12 (((ow11).call b12).weaken (Nat.le_refl _) (by omega)).rd ((ow12).weaken (Nat.le_refl _) (by omega)).rd (Nat.le_refl _)) ?_
      · simp [Act.eval, Act.put]
      rintro ee x13 ⟨cS, rfl, ow13, b13⟩
      have z13 := b13.size
      have bb13 : Below w14.heap.size w14 x13 := bb12.trans (b13.mono bb12.size)
      refine ⟨_, rfl, ?_⟩
      refine hKC.out _ _ (KS _ bb13) (fun hHeld => ?_)
      clear hKC KC
      try simp only [List.getElem_toArray, List.getElem_cons_succ, List.getElem_cons_zero, Act.put, List.setIfInBounds_toArray, List.set_cons_zero, List.set_cons_succ]
      have oS := ow13
      have bX := (((X10).call b11).call b12).call b13
      have hl := oS.len.trans sz_WR
      have h1 := oS.one
      refine wpAnyL_store (o := _) rfl (by kernel_rfl) (by kernel_rfl) rfl rfl 40 (.tmp 13) (.tmp 79) rfl (w14.drew.heap.size) ?_ (cs := cS) (old := [.int .i64 0, .int .i64 0, .int .i64 0, .int .i64 0, .int .i64 0, .int .i64 0, .int .i64 0, .int .i64 0, .int .i64 0, .int .i64 0, .slice none 0 0, .slice none 0 0, .slice none 0 0, .int .i64 0, .int .i64 0, .bool false]) ?_ bX size_WR hl rfl h1 ?_
      · simp [Act.eval, Act.put]
      · simp [Act.eval, Act.put]
      intro w9 X9 C9 z9
      try simp only [List.getElem_toArray, List.getElem_cons_succ, List.getElem_cons_zero, Act.put, List.setIfInBounds_toArray, List.set_cons_zero, List.set_cons_succ]
      have zB := B0.size
      have z0 := bb13.size
      have HF : Hid (Box w9 (w14.drew.heap.size) cS.toArray 40 ∧ OwnT layWorldResult w9 (x12.heap.size) (x13.heap.size) q cS ∧ Below w14.heap.size w14 w9 ∧ w14.heap.size ≤ w14.drew.heap.size ∧ w14.drew.heap.size < w9.heap.size ∧ w14.heap.size ≤ x12.heap.size ∧ x13.heap.size ≤ w9.heap.size ∧ (w14.drew.heap.size < x12.heap.size ∨ x13.heap.size ≤ w14.drew.heap.size)) := ⟨X9, oS.chgk C9 (fun b hb => by simp only [List.mem_cons, List.not_mem_nil, or_false] at hb; omega), bb13.trans (C9.bel (fun b hb => by simp only [List.mem_cons, List.not_mem_nil, or_false] at hb; omega) bb13.size), by omega, by omega, by omega, by omega, by omega⟩
      clear oS X9 C9 KS bX hl h1
      go_wp2
      go_meet
      exact ⟨_, _, _, _, rfl, HF.out⟩
  case rest =>
  obtain ⟨bH, lH, hH, cH, rfl, H17, OH17, b17, t1, t2, t3, t4, t5⟩ := hcut
  obtain ⟨W17, rfl⟩ : ∃ x, x = wc := ⟨_, rfl⟩
  obtain ⟨hc, h0, h1, h2, h3, h4, h5, h6, h7, h8, hp0, hl0, hq0, hp1, hl1, hq1, hp2, hl2, hq2, h9, h10, hb, rfl⟩ := wres16 OH17.rd
  have z17 : w14.heap.size ≤ W17.heap.size := b17.size
  have B17 := B14.out.trans (b17.mono (by omega))
  have S17 := S14.out.call b17
  have OS17 := OS14.out.call b17
  have G17 := G14.out.call b17
  have OG17 := OG14.out.call b17
  clear b17 B14 S14 OS14 G14 OG14 P14 CTb CT2b
  go_wp2_with (first | (refine wp_loadBox 40 (.tmp 13) rfl rfl (bH) rfl (cs := [.int .i64 hc, .int .i64 h0, .int .i64 h1, .int .i64 h2, .int .i64 h3, .int .i64 h4, .int .i64 h5, .int .i64 h6, .int .i64 h7, .int .i64 h8, .slice hp0 hl0 hq0, .slice hp1 hl1 hq1, .slice hp2 hl2 hq2, .int .i64 h9, .int .i64 h10, .bool hb]) H17 Tryz.underlying40 size_WR rfl ?_) | (refine wp_loadBox 40 (.tmp 6) rfl rfl (bS) rfl (cs := [.int .i64 sc, .int .i64 s0, .int .i64 s1, .int .i64 s2, .int .i64 s3, .int .i64 s4, .int .i64 s5, .int .i64 s6, .int .i64 s7, .int .i64 s8, .slice sp0 sl0 sq0, .slice sp1 sl1 sq1, .slice sp2 sl2 sq2, .int .i64 s9, .int .i64 s10, .bool sb]) S17 Tryz.underlying40 size_WR rfl ?_))
  refine (CE _ _ _ _ _ OH17.rd OS17.rd (by omega) (by omega)).mono ?_
  rintro e w18 ⟨rfl, b18⟩
  have z18 : W17.heap.size ≤ w18.heap.size := b18.size
  have B18 := B17.trans (b18.mono (by omega))
  have G18 := G17.call b18
  have OG18 := OG17.call b18
  clear b18 B17 S17 OS17 G17 OG17 OH17 H17
  go_wp2_with (refine wp_loadBox 40 (.tmp 9) rfl rfl (w7.heap.size) rfl (cs := [.int .i64 gc, .int .i64 g0, .int .i64 g1, .int .i64 g2, .int .i64 g3, .int .i64 g4, .int .i64 g5, .int .i64 g6, .int .i64 g7, .int .i64 g8, .slice gp0 gl0 gq0, .slice gp1 gl1 gq1, .slice gp2 gl2 gq2, .int .i64 g9, .int .i64 g10, .bool gb]) G18 Tryz.underlying40 size_WR rfl ?_)
  refine (CH _ _ _ OG18.rd (by omega)).mono ?_
  rintro e w19 ⟨rfl, b19⟩
  have HB : Hid (Below w.heap.size w w19) := (HT1.out.call (B18.trans (b19.mono (by omega)))).bel
  clear b19 B18 G18 OG18
  go_wp2
  go_ret
  exact ⟨rfl, HB.out⟩

set_option maxRecDepth 100000 in
theorem fnExactLayRec_lifted (os : Os) (started : os.Started) (H : Type) (enc : TypeId × Value → H) :
    ReturnsInHanded {} Tryz.checked os 4 .any (Rows.fnExactLayRecSpec.pre6 enc Tryz.prog Tryz.f4 Rows.fnExactLayRecRow.domain false) (Rows.fnExactLayRecSpec.post enc Tryz.prog Tryz.f4 false true false false) := by
  refine returnsInHanded_of_change (C := Tryz.checked) frame_own started (by kernel_rfl) Tryz.func4
    (ChangeSpec.witness6 (enc := enc) (C := Tryz.checked) false ⟨#[], #[.agg #[.int .i64 0, .int .i64 0, .int .i64 0, .int .i64 0, .int .i64 0, .int .i64 0, .int .i64 0, .int .i64 0, .int .i64 0, .slice none 0 0, .slice none 0 0, .slice none 0 0, .int .i64 0, .int .i64 0, .bool false], .agg #[.int .i64 0, .int .i64 0, .string ByteArray.empty, .int .i64 0, .int .i64 0, .int .i64 0, .slice none 0 0, .slice none 0 0, .slice none 0 0]], []⟩ 8 (by kernel_rfl) (by kernel_rfl) (by kernel_rfl) (by kernel_rfl)) ?_
  intro W base args ds gs before hval0 hW hcnd _
  have hval : ∀ (j : Nat) t v, Tryz.f4.params[j]? = some t → args[j]? = some v → Value.okWide Tryz.prog W .any base t v := hval0
  have hW' := hW
  obtain ⟨p, q, hA0, hV, rfl, hfz, hnd⟩ := hW
  have hA : DataW.TrodAll enc Tryz.prog W 0 (fun _ => true) true Tryz.f4.params.toList args.toList ds p := hA0
  rw [Tryz.params4] at hA hval
  obtain ⟨v0, vs0, d0, ds0, p0, q0, hargs, rfl, rfl, h0, r0⟩ := trodAll_cons hA
  obtain ⟨v1, vs1, d1, ds1, p1, q1, rfl, rfl, rfl, h1, r1⟩ := trodAll_cons r0
  obtain ⟨rfl, rfl, rfl⟩ := trodAll_nil r1
  obtain rfl : args = #[v0, v1] := by cases args; simp_all
  obtain ⟨rfl, rfl⟩ := trodVars_none hV
  have k0 := h0
  have lt0 : ∀ x ∈ p0, x.block < W.heap.size := by obtain ⟨m, hm⟩ := k0; exact DataW.trod_lt m _ _ _ hm
  have k1 := h1
  have lt1 : ∀ x ∈ p1, x.block < W.heap.size := by obtain ⟨m, hm⟩ := k1; exact DataW.trod_lt m _ _ _ hm
  obtain ⟨cs0, a0, rfl, rd0⟩ := struct_of_trod opensWorld Tryz.underlying28 (hval 0 28 v0 rfl rfl) h0
  obtain ⟨cs1, a1, rfl, rd1⟩ := struct_of_trod opensRec Tryz.underlying31 (hval 1 31 v1 rfl rfl) h1
  clear hA0 hval0
  refine (fnExactLayRec_walk a0 cs0 a1 cs1 W rd0 rd1).mono fun e W' ⟨he, bel⟩ => ?_
  subst he
  exact ⟨_, rfl, _, _, _, [], _, [], hW', trodAll_mk1 (shut_bool Tryz.underlying4 _), (trodAll_cons_mk (Below.trod frame_laid (by kernel_rfl) (of_decide_eq_true (by kernel_rfl)) k0 bel lt0) (trodAll_cons_mk (Below.trod frame_laid (by kernel_rfl) (of_decide_eq_true (by kernel_rfl)) k1 bel lt1) trodAll_mk0)), rfl, bel.frame _, fun h => by cases h⟩

end Go.Proofs.YthdknhjaohhfiaaGreat
