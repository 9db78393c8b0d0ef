/- How much there is where a thing is put. -/
import Derived.Test.YtapnjoophlckoaaZFnExactPutThingB
import Derived.Deep.DeepCutAuto
import Derived.Lib.Overlaps
import Derived.Lib.AppendZerosOnto
import Derived.Laws.IdiomCopy
import Derived.Shelf.RegionOpenPlain
import Derived.Deep.RegionLaw
namespace Go.Proofs.Ytapnjoophlckoaa
open Go.RowKit F256
set_option linter.unusedVariables false
set_option linter.unusedSimpArgs false
/-- a thing put among others -/
def putD (d : Nat × (Nat → ThingD)) (bn : ByteArray) (q : Nat × (Nat → Nat)) (i : Nat) : Nat × (Nat → ThingD) := (d.1 + 1, insF d.2 i ⟨bn, false, q⟩)
def putL (p : Nat × (Nat → ThingD)) (bn : ByteArray) (q : Nat × (Nat → Nat)) (i : Nat) : Nat × (Nat → ThingD) := putD (dropL p bn) bn q i
theorem range_box {w : World} {b : Nat} {t : TypeId} {c : List Value} (h : Box w b c.toArray t) : w.rangeAt b 0 c := fun j v hv => by
  rw [Nat.zero_add, h.cell j]
  simpa using hv
theorem raw_view {w : World} {n : Nat} {x : Nat → ThingD} {v : Value} {ce : Nat → List Value} {Ls : Nat → List Nat} (hr : w.ownsRow 0 40 layThing.sz v n (catN n ce)) (he : ∀ i, i < n → layThing.own w (x i) (ce i) (Ls i)) : View (layRaw 3) 40 w 0 0 v n ce ce :=
  ⟨hr, fun i hi => ⟨rfl, layThing.own_len (he i hi), fun u hu => layThing.own_one (he i hi) u hu⟩⟩
/-- what is put, owned -/
theorem put_own {w1 w2 D w8 : World} {m at_ : Nat} {y : Nat → ThingD} {ce : Nat → List Value} {Ls : Nat → List Nat} {vr v8 : Value} {bn : ByteArray} {q : Nat × (Nat → Nat)} {bo2 : Option Addr} {bc2 : Nat} {lo : Nat}
    (hr : w1.ownsRow 0 40 layThing.sz vr m (catN m ce)) (he : ∀ i, i < m → layThing.own w1 (y i) (ce i) (Ls i)) (nd : (vr.ownBlock.toList ++ catN m Ls).Nodup) (hlo : ∀ b, b ∈ vr.ownBlock.toList ++ catN m Ls → lo ≤ b) (hlw : lo ≤ w1.heap.size)
    (o2 : OwnT layBytes w2 w1.heap.size w2.heap.size q [.slice bo2 q.1 bc2]) (hbn : bn.size ≤ maxLen) (b12 : Below w1.heap.size w1 w2) (b2D : Below w2.heap.size w2 D) (hat : at_ ≤ m)
    (hrow : w8.ownsRow 0 40 3 v8 (m + 1) (catN (m + 1) (insF ce at_ [.string bn, .bool false, .slice bo2 q.1 bc2]))) (hv8 : ∀ b, v8.ownBlock = some b → vr.ownBlock = some b ∨ D.heap.size ≤ b) (hk1 : ∀ b, b < D.heap.size → vr.ownBlock ≠ some b → w8.heap[b]? = D.heap[b]?) :
    OwnT (layThing.slice 40) w8 lo w8.heap.size (putD (m, y) bn q at_) [v8] := by
  obtain ⟨K, a1, a2, a3⟩ := o2
  have z12 := b12.size
  have z2D := b2D.size
  have hL : ∀ b, b ∈ catN m Ls → b < w1.heap.size := fun b hb => by
    obtain ⟨i, hi, hb⟩ := mem_catN.1 hb
    exact layThing.own_lt (he i hi) b hb
  have hvr : ∀ b, vr.ownBlock = some b → b < w1.heap.size := fun b hb => (hr.lt b hb).2
  have hkL : ∀ b, b ∈ catN m Ls → w8.heap[b]? = w1.heap[b]? := fun b hb => by
    have := hL b hb
    rw [hk1 b (by omega) (fun h => (List.nodup_append.1 nd).2.2 b (by rw [h]; simp) b hb rfl), b2D.block b (by omega), b12.block b (by omega)]
  have hkK : ∀ b, b ∈ K → w8.heap[b]? = w2.heap[b]? := fun b hb => by
    have := a3 b hb
    rw [hk1 b (by omega) (fun h => by have := hvr b h; omega), b2D.block b (by omega)]
  have ht : layThing.own w8 ⟨bn, false, q⟩ [.string bn, .bool false, .slice bo2 q.1 bc2] K := Thing_mk ⟨bn, false, q⟩ (layBytes.own_kept a1 hkK) hbn
  obtain ⟨s1, s2, s3⟩ := own_ins (t := ⟨bn, false, q⟩) he (List.nodup_append.1 nd).2.1 ht a2 (fun b hb h => by have := a3 b hb; have := hL b h; omega) (v' := v8) (fun b hb => by
    rcases hv8 b hb with h | h
    · exact ⟨fun h2 => (List.nodup_append.1 nd).2.2 b (by rw [h]; simp) b h2 rfl, fun h2 => by have := a3 b h2; have := hvr b h; omega⟩
    · exact ⟨fun h2 => by have := hL b h2; omega, fun h2 => by have := a3 b h2; omega⟩) hrow hkL hat
  refine ⟨_, s1, s2, fun b hb => ⟨?_, (layThing.slice 40).own_lt s1 b hb⟩⟩
  rcases List.mem_append.1 hb with h | h
  · have h' : v8.ownBlock = some b := by simpa using h
    rcases hv8 b h' with h | h
    · exact hlo b (List.mem_append_left _ (by rw [h]; simp))
    · omega
  · rcases s3 b h with h | h
    · exact hlo b (List.mem_append_right _ h)
    · have := a3 b h; omega
set_option maxHeartbeats 8000000 in
set_option maxRecDepth 20000 in
theorem specPut_any (p : Nat × (Nat → ThingD)) (bn : ByteArray) (q : Nat × (Nat → Nat)) (at_ : Nat) (v u : Value) (h1 h2 : Nat) (w : World) (r0 : (layThing.slice 40).rd w h1 p [v]) (r2 : layBytes.rd w h2 q [u]) (u1 : h1 ≤ w.heap.size) (u2 : h2 ≤ w.heap.size) (hsz : szSl szThingD p ≤ 1048576) (hbs : bn.size ≤ 1048576) (hbb : q.1 ≤ 1048576) (hA : AtP (dropL p bn).1 (dropL p bn).2 bn at_) :
    Calls Try.prog 7 #[v, .string bn, u] w fun e w' => ∃ v', e = .returned v' ∧ OwnT (layThing.slice 40) w' w.heap.size w'.heap.size (putL p bn q at_) [v'] ∧ Below w.heap.size w w' := by
  have hn1 := szSl_n hsz
  obtain ⟨ao, cap, hv⟩ := sl_form r0
  obtain rfl := one_eq hv
  obtain ⟨bo, bc, hv'⟩ := bytes_form r2
  obtain rfl := one_eq hv'
  have CD := specDrop_any p bn _ h1 w r0 u1 hsz
  have hm0 : (dropL p bn).1 ≤ p.1 := kept_le _ _
  unfold putL
  obtain ⟨⟨m, y⟩, hD⟩ : ∃ d, d = dropL p bn := ⟨_, rfl⟩
  rw [← hD] at CD hA hm0 ⊢
  simp only at hA hm0
  have R2 : Hid (layBytes.rd w h2 q [.slice bo q.1 bc]) := r2
  have HA : Hid (AtP m y bn at_) := hA
  have hat : at_ ≤ m := hA.le
  clear r0 r2 hv hv' hsz hD hA
  go_enter Try.func7, Try.ntmps7
  go_wp2_with fail
  refine CD.mono ?_
  rintro e w1 ⟨vr, rfl, ⟨L, k1, k2, k3⟩, b1⟩
  obtain ⟨vr', ce, Ls, e1, rfl, hr, he⟩ := k1
  obtain rfl := one_eq e1
  have HR : Hid (w1.ownsRow 0 40 layThing.sz vr m (catN m ce)) := hr
  have HE : Hid (∀ i, i < m → layThing.own w1 (y i) (ce i) (Ls i)) := he
  have HND : Hid ((vr.ownBlock.toList ++ catN m Ls).Nodup) := k2
  have HLO : Hid (∀ b, b ∈ vr.ownBlock.toList ++ catN m Ls → w.heap.size ≤ b) := fun b hb => (k3 b hb).1
  have HB1 : Hid (Below w.heap.size w w1) := b1
  have z1 := b1.size
  have bA : Below w1.heap.size w1 (w1.alloc (.cells #[] 5)) := (Below.refl _ _).alloc (Nat.le_refl _) _
  obtain ⟨v', w2, hrun, o2, b2⟩ := run_appendRB 23 (w1.alloc (.cells #[] 5)) w1.heap.size (lit_row w1 5) (layBytes.rd_below (layBytes.rd_below R2.out b1 u2) bA (by omega)) (show q.1 ≤ 10000000 by omega)
  obtain ⟨bo2, bc2, hv⟩ := bytes_formT o2
  obtain rfl := one_eq hv
  have HO2 : Hid (OwnT layBytes w2 w1.heap.size w2.heap.size q [.slice bo2 q.1 bc2]) := o2
  have B2 : Below w1.heap.size w1 w2 := bA.trans b2
  have HB2 : Hid (Below w1.heap.size w1 w2) := B2
  have z2 := B2.size
  have one3 : ∀ u, u ∈ ([.string bn, .bool false, .slice bo2 q.1 bc2] : List Value) → u.oneCell' = true := fun u hu => by
    simp only [List.mem_cons, List.not_mem_nil, or_false] at hu
    rcases hu with rfl | rfl | rfl <;> rfl
  have H3 : Hid (∀ u, u ∈ ([.string bn, .bool false, .slice bo2 q.1 bc2] : List Value) → u.oneCell' = true) := one3
  clear CD k2 k3 e1 hr he b1 hv b2 bA o2 B2 R2
  go_upto_region 3 with (first | (at_builtin; refine wp_run2 rfl (.tmp 14) (.tmp 15) rfl ?_ ?_ hrun ?_; (simp [Act.eval]); (simp [Act.eval])) | (refine wp_allocStore 40 8 (.tmp 17) [.string bn, .bool false, .slice bo2 q.1 bc2] _ 3 rfl rfl rfl rfl rfl rfl rfl rfl info_ThingZ rfl rfl one3 ?_))
  have b3 : Below w2.heap.size w2 (w2.alloc (.cells #[.string bn, .bool false, .slice bo2 q.1 bc2] 40)) := (Below.refl _ _).alloc (Nat.le_refl _) _
  have X3 : Box (w2.alloc (.cells #[.string bn, .bool false, .slice bo2 q.1 bc2] 40)) w2.heap.size #[.string bn, .bool false, .slice bo2 q.1 bc2] 40 := box_new _ _ _
  obtain ⟨W3, hW3⟩ : ∃ x, x = w2.alloc (.cells #[.string bn, .bool false, .slice bo2 q.1 bc2] 40) := ⟨_, rfl⟩
  rw [← hW3] at b3 X3 ⊢
  have HB3 : Hid (Below w2.heap.size w2 W3) := b3
  have HX3 : Hid (Box W3 w2.heap.size ([.string bn, .bool false, .slice bo2 q.1 bc2] : List Value).toArray 40) := X3
  have z3 := b3.size
  have B13 : Below w1.heap.size w1 W3 := HB2.out.trans (b3.mono z2)
  have HB13 : Hid (Below w1.heap.size w1 W3) := B13
  obtain ⟨ar, cr, hvr⟩ : ∃ a c, vr = .slice a m c := by
    rcases HR.out.2 with ⟨hv, hn⟩ | ⟨g, cap, cur, rfl, _⟩
    · exact ⟨none, 0, by rw [hv, hn]⟩
    · exact ⟨_, _, rfl⟩
  subst hvr
  have HC0 : Hid (∀ k, k < m → ∃ g, ar = some ⟨g, 0, none⟩ ∧ W3.cell? ⟨g, k * 3, none⟩ = some (.string (y k).name)) := fun k hk => by
    have hr := HR.out
    rcases hr.2 with ⟨hv, hn⟩ | ⟨g, cap, cur, e9, hbg, hgg, _⟩
    · omega
    · cases e9
      refine ⟨g, rfl, ?_⟩
      have hlen := fun i (hi : i < m) => layThing.own_len (HE.out i hi)
      have h9 := hr.cellAt (k * 3) (by have := mul_lt (s := 3) (j := 0) hk (by omega); exact this)
      obtain ⟨o9, c9, e9⟩ := Thing_cellsO (HE.out k hk)
      have h8 := catN_get (s := 3) hlen hk (show 0 < 3 by omega)
      rw [Nat.add_zero] at h8
      rw [h8, e9] at h9
      exact (HB13.out.cell (p := ⟨g, k * 3, none⟩) (by show g < _; exact (hr.lt g rfl).2)).trans h9
  clear hW3 X3 b3 B13 hrun one3
  go_wp2
  go_loopw [9] (fun z wr => ∃ k : Nat, k ≤ at_ ∧ z = .int .i64 k ∧ wr = W3) (fun z _ => m - (intOf z).toNat)
  case atStart => exact ⟨0, Nat.zero_le _, rfl, rfl⟩
  case round =>
    obtain ⟨k, hk, rfl, rfl⟩ := hrel
    by_cases hlt : k < at_
    · obtain ⟨g, rfl, c0⟩ := HC0.out k (by omega)
      obtain ⟨lt, hlt1⟩ : ∃ t, Op.bytesLess (y k).name.toList bn.toList = t := ⟨_, rfl⟩
      obtain ⟨eq, heq1⟩ : ∃ t, ((y k).name.toList == bn.toList) = t := ⟨_, rfl⟩
      have heq2 : decide ((y k).name.toList = bn.toList) = eq := by rw [← heq1, Bool.eq_iff_iff]; simp
      have hle : (lt || eq) = true := by rw [← hlt1, ← heq1]; exact HA.out.ahead k hlt
      have i1 : (0 : Int) ≤ (k : Int) := by omega
      have i2 : (k : Int) < (m : Int) := by omega
      clear HC0
      go_wp2
      go_roundw
      case rel => exact ⟨k + 1, by omega, by go_num, by simp⟩
      case measure => simp [intOf]; omega
    · obtain rfl : k = at_ := by omega
      clear hk hlt
      have EX : ∀ (Q : Prop), ((m = k → Q) ∧ (∀ g, k < m → ar = some ⟨g, 0, none⟩ → wr.cell? ⟨g, k * 3, none⟩ = some (.string (y k).name) → leS (y k).name bn = false → Q)) → Q := fun Q ⟨hq1, hq2⟩ => by
        by_cases c : k < m
        · obtain ⟨g, e, hc⟩ := HC0.out k c
          exact hq2 g c e hc (HA.out.here c)
        · exact hq1 (by omega)
      have V9 : View (layRaw 3) 40 wr.drew 0 0 (.slice ar m cr) m ce ce := ((raw_view HR.out HE.out).below HB13.out (Nat.zero_le _)).drew
      have X9 : Box wr.drew w2.heap.size ([.string bn, .bool false, .slice bo2 q.1 bc2] : List Value).toArray 40 := HX3.out
      have rg9 : wr.drew.rangeAt w2.heap.size 0 [.string bn, .bool false, .slice bo2 q.1 bc2] := range_box X9
      have HBw : Hid (Below w.heap.size w wr) := HB1.out.trans (HB13.out.mono z1)
      obtain ⟨D, hD⟩ : ∃ D, D = wr.drew := ⟨_, rfl⟩
      have HD : Hid (D = wr.drew) := hD
      have bD : Below w2.heap.size w2 D := by rw [hD]; exact HB3.out.trans (show Below w2.heap.size wr wr.drew from ⟨rfl, rfl, rfl, Nat.le_refl _, fun _ _ => rfl⟩)
      have HBD : Hid (Below w.heap.size w D) := by rw [hD]; exact HBw.out.trans (show Below w.heap.size wr wr.drew from ⟨rfl, rfl, rfl, Nat.le_refl _, fun _ _ => rfl⟩)
      rw [← hD] at V9 X9 rg9
      have zD : wr.heap.size = D.heap.size := by rw [hD]; rfl
      clear hD
      obtain ⟨aU, cU, hUr, sU, hUz⟩ := V9.upto_ (Nat.zero_le _) (al := k) hat
      obtain ⟨aF, cF, hFr, sF, rF, hFz⟩ := V9.from_ (Nat.zero_le _) (al := k) hat
      have hAU : ∀ b off, aU = some ⟨b, off, none⟩ → b < D.heap.size := fun b off e => by
        rcases V9.form2 with ⟨e3, e4⟩ | ⟨g, cp, e3, e4, hg⟩
        · have hz : k = 0 := by omega
          have := hUr D
          rw [e3, hz, run_upto0 D] at this
          simp only [Result.ok.injEq, Value.slice.injEq, and_true] at this
          rw [← this.1] at e
          cases e
        · have := hUr D
          rw [e3, run_upto9 g m cp k hat e4 D] at this
          simp only [Result.ok.injEq, Value.slice.injEq, and_true] at this
          rw [← this.1] at e
          cases e
          exact hg
      have hAF : ∀ b off, aF = some ⟨b, off, none⟩ → b < D.heap.size := fun b off e => by
        rcases V9.form2 with ⟨e3, e4⟩ | ⟨g, cp, e3, e4, hg⟩
        · have hz : k = 0 := by omega
          have := hFr D
          rw [e3, hz, run_from0 D] at this
          simp only [Result.ok.injEq, Value.slice.injEq, and_true] at this
          rw [← this.1] at e
          cases e
        · have := hFr D
          rw [e3, run_from9 g m cp k hat D] at this
          simp only [Result.ok.injEq, Value.slice.injEq, and_true] at this
          rw [← this.1] at e
          split at e <;> cases e <;> exact hg
      have hiD : 0 ≤ D.heap.size := Nat.zero_le _
      have hpD : w2.heap.size < D.heap.size := X9.lt
      have RR : (layRaw 3).rd D 0 ([.string bn, .bool false, .slice bo2 q.1 bc2] : List Value) [.string bn, .bool false, .slice bo2 q.1 bc2] := ⟨rfl, rfl, H3.out⟩
      have HUS : Hid (Src (layRaw 3) D 0 aU k ce ce) := sU
      have HFS : Hid (Src (layRaw 3) D 0 aF (m - k) (fun j => ce (k + j)) (fun j => ce (k + j))) := sF
      have FIN : Hid (∀ (w8 : World) (v8 : Value) (cv8 : Nat → List Value), View (layRaw 3) 40 w8 D.heap.size 0 v8 (k + 1 + (m - k)) (cat2 (cat2 ce k (fun _ => [.string bn, .bool false, .slice bo2 q.1 bc2])) (k + 1) (fun j => ce (k + j))) cv8 → Below D.heap.size D w8 → OwnT (layThing.slice 40) w8 w.heap.size w8.heap.size (putD (m, y) bn q k) [v8] ∧ Below w.heap.size w w8) := fun w8 v8 cv8 V8 b8 => by
        have eN : k + 1 + (m - k) = m + 1 := by omega
        rw [eN] at V8
        have ec : catN (m + 1) cv8 = catN (m + 1) (insF ce k [.string bn, .bool false, .slice bo2 q.1 bc2]) := catN_congr (fun i hi => by
          have := (V8.each i hi).1
          rw [this, insF_cat2])
        have hrow := V8.row
        rw [ec] at hrow
        refine ⟨put_own (D := D) HR.out HE.out HND.out HLO.out z1 HO2.out (by unfold maxLen; omega) HB2.out bD hat (row_base hrow) (fun b hb => .inr (V8.row.lt b hb).1) (fun b hb _ => b8.block b hb), HBD.out.trans (b8.mono HBD.out.size)⟩
      clear V9 X9 sU sF rF bD
      have GO : ∀ (Q : Prop), Q → Q := fun _ h => h
      refine EX _ ⟨fun hmk => ?_, fun g hkm har hc hle => ?_⟩
      · have hge : ¬ ((k : Int) < (m : Int)) := by omega
        clear hmk EX HC0 GO
        go_upto_region 6 with fail
        refine wp_region_M 7 (fun w' => w'.rangeAt w2.heap.size 0 [.string bn, .bool false, .slice bo2 q.1 bc2]) mixedO (by rw [← HD.out]; exact rg9) (fun hHeld => ?_)
        rw [← HD.out] at hHeld ⊢
        refine wpAnyM_pure (i := 1) (oi := _) (v := ?_) rfl (by kernel_rfl) (fun _ _ _ h => h) (Or.inl ⟨by kernel_rfl, ?_⟩) (by assumption) ?_
        rotate_left
        · intro w' hSw
          go_simp
          try with_reducible rfl
        try simp only [List.getElem_toArray, List.getElem_cons_succ, List.getElem_cons_zero, Act.put, List.setIfInBounds_toArray, List.set_cons_zero, List.set_cons_succ]
        refine wpAnyM_pure (i := 2) (oi := _) (v := ?_) rfl (by kernel_rfl) (fun _ _ _ h => h) (Or.inl ⟨by kernel_rfl, ?_⟩) (by assumption) ?_
        rotate_left
        · intro w' hSw
          go_simp
          try with_reducible rfl
        try simp only [List.getElem_toArray, List.getElem_cons_succ, List.getElem_cons_zero, Act.put, List.setIfInBounds_toArray, List.set_cons_zero, List.set_cons_succ]
        refine wpAnyM_pure (i := 3) (oi := _) (v := ?_) rfl (by kernel_rfl) (fun _ _ _ h => h) (Or.inl ⟨by kernel_rfl, ?_⟩) (by assumption) ?_
        rotate_left
        · intro w' hSw
          have hSl' := hUr w'
          go_simp
          try with_reducible rfl
        try simp only [List.getElem_toArray, List.getElem_cons_succ, List.getElem_cons_zero, Act.put, List.setIfInBounds_toArray, List.set_cons_zero, List.set_cons_succ]
        refine wpAnyM_take (i := 5) (oi := _) (v := .agg ([.string bn, .bool false, .slice bo2 q.1 bc2] : List Value).toArray) 16 rfl (by kernel_rfl) (fun _ _ _ h => h) (yieldsIf_load_mid (by kernel_rfl) 40 (.tmp 8) rfl w2.heap.size (0) (by simp [Act.eval, Act.put]) ([.string bn, .bool false, .slice bo2 q.1 bc2] : List Value) _ (fun w h => h) Try.underlying40 rfl (info_Thing3 rfl)) (by assumption) ?_
        try simp only [List.getElem_toArray, List.getElem_cons_succ, List.getElem_cons_zero, Act.put, List.setIfInBounds_toArray, List.set_cons_zero, List.set_cons_succ]
        refine wpAnyM_pure (i := 8) (oi := _) (v := ?_) rfl (by kernel_rfl) (fun _ _ _ h => h) (Or.inl ⟨by kernel_rfl, ?_⟩) (by assumption) ?_
        rotate_left
        · intro w' hSw
          go_simp
          try with_reducible rfl
        try simp only [List.getElem_toArray, List.getElem_cons_succ, List.getElem_cons_zero, Act.put, List.setIfInBounds_toArray, List.set_cons_zero, List.set_cons_succ]
        refine wpAnyM_pure (i := 9) (oi := _) (v := ?_) rfl (by kernel_rfl) (fun _ _ _ h => h) (Or.inl ⟨by kernel_rfl, ?_⟩) (by assumption) ?_
        rotate_left
        · intro w' hSw
          go_simp
          try with_reducible rfl
        try simp only [List.getElem_toArray, List.getElem_cons_succ, List.getElem_cons_zero, Act.put, List.setIfInBounds_toArray, List.set_cons_zero, List.set_cons_succ]
        refine wpAnyM_pure (i := 10) (oi := _) (v := ?_) rfl (by kernel_rfl) (fun _ _ _ h => h) (Or.inl ⟨by kernel_rfl, ?_⟩) (by assumption) ?_
        rotate_left
        · intro w' hSw
          have hSl' := hFr w'
          go_simp
          try with_reducible rfl
        try simp only [List.getElem_toArray, List.getElem_cons_succ, List.getElem_cons_zero, Act.put, List.setIfInBounds_toArray, List.set_cons_zero, List.set_cons_succ]
        refine wpAnyM_twoS (i := 0) (j := 6) (o := _) (o' := _) rfl rfl (by kernel_rfl) (fun KC hKC => ?_) (fun KC hKC => ?_)
        · refine step_build0 rfl rfl ?_
          have bA : Below D.heap.size D (D.alloc (.cells #[] 40)) := (Below.refl _ _).alloc (Nat.le_refl _) _
          refine hKC _ _ (range_below rg9 bA hpD) ?_
          clear hKC KC
          try simp only [List.getElem_toArray, List.getElem_cons_succ, List.getElem_cons_zero, Act.put, List.setIfInBounds_toArray, List.set_cons_zero, List.set_cons_succ]
          have VL := View.lit0 (E := (layRaw 3)) (t := 40) ce ce D 0
          have zA1 : D.heap.size < (D.alloc (.cells #[] 40)).heap.size := (box_new D #[] 40).lt
          obtain ⟨D1, hD1⟩ : ∃ x, x = D.alloc (.cells #[] 40) := ⟨_, rfl⟩
          rw [← hD1] at bA VL zA1 ⊢
          clear hD1
          refine wpAnyM_twoS (i := 4) (j := 6) (o := _) (o' := _) rfl rfl (by kernel_rfl) (fun KC hKC => ?_) (fun KC hKC => ?_)
          · skip
            obtain ⟨v4, w4, cv4, runv4, V4, bw4⟩ := ins_up (lo := 0) HUS.out hUz hAU bA hiD (by omega) VL
            refine step_run2 rfl (.tmp 33) (.tmp 36) rfl (by simp [Act.eval, Act.put]) (by simp [Act.eval, Act.put]) runv4 ?_
            have b4D := bA.trans bw4
            refine hKC _ _ (range_below rg9 b4D hpD) ?_
            clear hKC KC
            try simp only [List.getElem_toArray, List.getElem_cons_succ, List.getElem_cons_zero, Act.put, List.setIfInBounds_toArray, List.set_cons_zero, List.set_cons_succ]
            refine wpAnyM_oneS (i := 6) (o := _) rfl (by kernel_rfl) (fun KC hKC => ?_)
            refine step_build1T rfl (.tmp 38) rfl bn false bo2 q.1 bc2 (by simp [Act.eval, Act.put]) ?_
            have b6 : Below w4.heap.size w4 (w4.alloc (.cells #[.string bn, .bool false, .slice bo2 q.1 bc2] 40)) := (Below.refl _ _).alloc (Nat.le_refl _) _
            have b6D := b4D.trans (b6.mono b4D.size)
            refine hKC _ _ (range_below rg9 b6D hpD) ?_
            clear hKC KC
            try simp only [List.getElem_toArray, List.getElem_cons_succ, List.getElem_cons_zero, Act.put, List.setIfInBounds_toArray, List.set_cons_zero, List.set_cons_succ]
            have V6 := V4.below b6 (Nat.zero_le _)
            have X6 : Box (w4.alloc (.cells #[.string bn, .bool false, .slice bo2 q.1 bc2] 40)) w4.heap.size ([.string bn, .bool false, .slice bo2 q.1 bc2] : List Value).toArray 40 := box_new _ _ _
            obtain ⟨v7, w7, cv7, runv7, V7, bw7⟩ := ins_one b6D hiD (by omega) V6 X6 ((layRaw 3).rd_below RR b6D hiD)
            refine wpAnyM_one (i := 7) (o := _) rfl (by kernel_rfl) (by kernel_rfl) (fun KC hKC => ?_)
            refine step_run2 rfl (.tmp 37) (.tmp 39) rfl (by simp [Act.eval, Act.put]) (by simp [Act.eval, Act.put]) runv7 ?_
            refine hKC _ _ ?_
            clear hKC KC
            try simp only [List.getElem_toArray, List.getElem_cons_succ, List.getElem_cons_zero, Act.put, List.setIfInBounds_toArray, List.set_cons_zero, List.set_cons_succ]
            have b7D := b6D.trans bw7
            obtain ⟨v8, w8, cv8, runv8, V8, bw8⟩ := ins_rest HFS.out hFz hAF b7D hiD (by omega) V7
            refine wpAnyM_one (i := 11) (o := _) rfl (by kernel_rfl) (by kernel_rfl) (fun KC hKC => ?_)
            refine step_run2 rfl (.tmp 40) (.tmp 43) rfl (by simp [Act.eval, Act.put]) (by simp [Act.eval, Act.put]) runv8 ?_
            refine hKC _ _ ?_
            clear hKC KC
            try simp only [List.getElem_toArray, List.getElem_cons_succ, List.getElem_cons_zero, Act.put, List.setIfInBounds_toArray, List.set_cons_zero, List.set_cons_succ]
            refine wpAnyM_pureL (i := 12) (oi := _) (v := ?_) rfl (by kernel_rfl) (fun _ _ _ h => h) (Or.inl ⟨by kernel_rfl, ?_⟩) ?_
            rotate_left
            · intro w' hSw
              go_simp
              try with_reducible rfl
            try simp only [List.getElem_toArray, List.getElem_cons_succ, List.getElem_cons_zero, Act.put, List.setIfInBounds_toArray, List.set_cons_zero, List.set_cons_succ]
            refine wpAnyM_done (by kernel_rfl) ?_ _
            obtain ⟨F1, F2⟩ := FIN.out w8 v8 cv8 V8 (b7D.trans bw8)
            have HF1 : Hid (OwnT (layThing.slice 40) w8 w.heap.size w8.heap.size (putD (m, y) bn q k) [v8]) := F1
            have HF2 : Hid (Below w.heap.size w w8) := F2
            clear F1 F2 V8 V7 bw7 bw8 b7D hHeld runv7 runv8 hUr hFr hUz hFz hAU hAF rg9 HUS HFS HBD
            go_wp2
            go_ret
            exact ⟨_, rfl, HF1.out, HF2.out⟩
          · refine step_build1T rfl (.tmp 38) rfl bn false bo2 q.1 bc2 (by simp [Act.eval, Act.put]) ?_
            have b6 : Below D1.heap.size D1 (D1.alloc (.cells #[.string bn, .bool false, .slice bo2 q.1 bc2] 40)) := (Below.refl _ _).alloc (Nat.le_refl _) _
            have b6D := bA.trans (b6.mono bA.size)
            refine hKC _ _ (range_below rg9 b6D hpD) ?_
            clear hKC KC
            try simp only [List.getElem_toArray, List.getElem_cons_succ, List.getElem_cons_zero, Act.put, List.setIfInBounds_toArray, List.set_cons_zero, List.set_cons_succ]
            have VL6 := VL.below b6 (Nat.zero_le _)
            have X6 : Box (D1.alloc (.cells #[.string bn, .bool false, .slice bo2 q.1 bc2] 40)) D1.heap.size ([.string bn, .bool false, .slice bo2 q.1 bc2] : List Value).toArray 40 := box_new _ _ _
            have z6 : D1.heap.size < (D1.alloc (.cells #[.string bn, .bool false, .slice bo2 q.1 bc2] 40)).heap.size := X6.lt
            have zA := bA.size
            obtain ⟨D2, hD2⟩ : ∃ x, x = D1.alloc (.cells #[.string bn, .bool false, .slice bo2 q.1 bc2] 40) := ⟨_, rfl⟩
            rw [← hD2] at b6 b6D VL6 X6 z6 ⊢
            clear hD2
            obtain ⟨v4, w4, cv4, runv4, ⟨V4, X4⟩, bw4⟩ := ins_up4 HUS.out hUz hAU b6D hiD (by omega) VL6 X6 (fun h => by simp [Value.ownBlock] at h; omega)
            refine wpAnyM_oneS (i := 4) (o := _) rfl (by kernel_rfl) (fun KC hKC => ?_)
            refine step_run2 rfl (.tmp 33) (.tmp 36) rfl (by simp [Act.eval, Act.put]) (by simp [Act.eval, Act.put]) runv4 ?_
            have b4D := b6D.trans bw4
            refine hKC _ _ (range_below rg9 b4D hpD) ?_
            clear hKC KC
            try simp only [List.getElem_toArray, List.getElem_cons_succ, List.getElem_cons_zero, Act.put, List.setIfInBounds_toArray, List.set_cons_zero, List.set_cons_succ]
            obtain ⟨v7, w7, cv7, runv7, V7, bw7⟩ := ins_one b4D hiD (by omega) V4 X4 ((layRaw 3).rd_below RR b4D hiD)
            refine wpAnyM_one (i := 7) (o := _) rfl (by kernel_rfl) (by kernel_rfl) (fun KC hKC => ?_)
            refine step_run2 rfl (.tmp 37) (.tmp 39) rfl (by simp [Act.eval, Act.put]) (by simp [Act.eval, Act.put]) runv7 ?_
            refine hKC _ _ ?_
            clear hKC KC
            try simp only [List.getElem_toArray, List.getElem_cons_succ, List.getElem_cons_zero, Act.put, List.setIfInBounds_toArray, List.set_cons_zero, List.set_cons_succ]
            have b7D := b4D.trans bw7
            obtain ⟨v8, w8, cv8, runv8, V8, bw8⟩ := ins_rest HFS.out hFz hAF b7D hiD (by omega) V7
            refine wpAnyM_one (i := 11) (o := _) rfl (by kernel_rfl) (by kernel_rfl) (fun KC hKC => ?_)
            refine step_run2 rfl (.tmp 40) (.tmp 43) rfl (by simp [Act.eval, Act.put]) (by simp [Act.eval, Act.put]) runv8 ?_
            refine hKC _ _ ?_
            clear hKC KC
            try simp only [List.getElem_toArray, List.getElem_cons_succ, List.getElem_cons_zero, Act.put, List.setIfInBounds_toArray, List.set_cons_zero, List.set_cons_succ]
            refine wpAnyM_pureL (i := 12) (oi := _) (v := ?_) rfl (by kernel_rfl) (fun _ _ _ h => h) (Or.inl ⟨by kernel_rfl, ?_⟩) ?_
            rotate_left
            · intro w' hSw
              go_simp
              try with_reducible rfl
            try simp only [List.getElem_toArray, List.getElem_cons_succ, List.getElem_cons_zero, Act.put, List.setIfInBounds_toArray, List.set_cons_zero, List.set_cons_succ]
            refine wpAnyM_done (by kernel_rfl) ?_ _
            obtain ⟨F1, F2⟩ := FIN.out w8 v8 cv8 V8 (b7D.trans bw8)
            have HF1 : Hid (OwnT (layThing.slice 40) w8 w.heap.size w8.heap.size (putD (m, y) bn q k) [v8]) := F1
            have HF2 : Hid (Below w.heap.size w w8) := F2
            clear F1 F2 V8 V7 bw7 bw8 b7D hHeld runv7 runv8 hUr hFr hUz hFz hAU hAF rg9 HUS HFS HBD
            go_wp2
            go_ret
            exact ⟨_, rfl, HF1.out, HF2.out⟩
        · refine step_build1T rfl (.tmp 38) rfl bn false bo2 q.1 bc2 (by simp [Act.eval, Act.put]) ?_
          have bA : Below D.heap.size D (D.alloc (.cells #[.string bn, .bool false, .slice bo2 q.1 bc2] 40)) := (Below.refl _ _).alloc (Nat.le_refl _) _
          refine hKC _ _ (range_below rg9 bA hpD) ?_
          clear hKC KC
          try simp only [List.getElem_toArray, List.getElem_cons_succ, List.getElem_cons_zero, Act.put, List.setIfInBounds_toArray, List.set_cons_zero, List.set_cons_succ]
          have XA : Box (D.alloc (.cells #[.string bn, .bool false, .slice bo2 q.1 bc2] 40)) D.heap.size ([.string bn, .bool false, .slice bo2 q.1 bc2] : List Value).toArray 40 := box_new _ _ _
          have zA : D.heap.size < (D.alloc (.cells #[.string bn, .bool false, .slice bo2 q.1 bc2] 40)).heap.size := XA.lt
          obtain ⟨D1, hD1⟩ : ∃ x, x = D.alloc (.cells #[.string bn, .bool false, .slice bo2 q.1 bc2] 40) := ⟨_, rfl⟩
          rw [← hD1] at bA XA zA ⊢
          clear hD1
          refine wpAnyM_oneS (i := 0) (o := _) rfl (by kernel_rfl) (fun KC hKC => ?_)
          refine step_build0 rfl rfl ?_
          have b6 : Below D1.heap.size D1 (D1.alloc (.cells #[] 40)) := (Below.refl _ _).alloc (Nat.le_refl _) _
          have b6D := bA.trans (b6.mono bA.size)
          refine hKC _ _ (range_below rg9 b6D hpD) ?_
          clear hKC KC
          try simp only [List.getElem_toArray, List.getElem_cons_succ, List.getElem_cons_zero, Act.put, List.setIfInBounds_toArray, List.set_cons_zero, List.set_cons_succ]
          have VL := (View.lit0 (E := (layRaw 3)) (t := 40) ce ce D1 0).weakL (lo' := D.heap.size) (by omega)
          have X6 := XA.below b6 zA
          obtain ⟨D2, hD2⟩ : ∃ x, x = D1.alloc (.cells #[] 40) := ⟨_, rfl⟩
          rw [← hD2] at b6 b6D VL X6 ⊢
          clear hD2
          obtain ⟨v4, w4, cv4, runv4, ⟨V4, X4⟩, bw4⟩ := ins_up4 HUS.out hUz hAU b6D hiD (by omega) VL X6 (fun h => by simp [Value.ownBlock] at h; omega)
          refine wpAnyM_oneS (i := 4) (o := _) rfl (by kernel_rfl) (fun KC hKC => ?_)
          refine step_run2 rfl (.tmp 33) (.tmp 36) rfl (by simp [Act.eval, Act.put]) (by simp [Act.eval, Act.put]) runv4 ?_
          have b4D := b6D.trans bw4
          refine hKC _ _ (range_below rg9 b4D hpD) ?_
          clear hKC KC
          try simp only [List.getElem_toArray, List.getElem_cons_succ, List.getElem_cons_zero, Act.put, List.setIfInBounds_toArray, List.set_cons_zero, List.set_cons_succ]
          obtain ⟨v7, w7, cv7, runv7, V7, bw7⟩ := ins_one b4D hiD (by omega) V4 X4 ((layRaw 3).rd_below RR b4D hiD)
          refine wpAnyM_one (i := 7) (o := _) rfl (by kernel_rfl) (by kernel_rfl) (fun KC hKC => ?_)
          refine step_run2 rfl (.tmp 37) (.tmp 39) rfl (by simp [Act.eval, Act.put]) (by simp [Act.eval, Act.put]) runv7 ?_
          refine hKC _ _ ?_
          clear hKC KC
          try simp only [List.getElem_toArray, List.getElem_cons_succ, List.getElem_cons_zero, Act.put, List.setIfInBounds_toArray, List.set_cons_zero, List.set_cons_succ]
          have b7D := b4D.trans bw7
          obtain ⟨v8, w8, cv8, runv8, V8, bw8⟩ := ins_rest HFS.out hFz hAF b7D hiD (by omega) V7
          refine wpAnyM_one (i := 11) (o := _) rfl (by kernel_rfl) (by kernel_rfl) (fun KC hKC => ?_)
          refine step_run2 rfl (.tmp 40) (.tmp 43) rfl (by simp [Act.eval, Act.put]) (by simp [Act.eval, Act.put]) runv8 ?_
          refine hKC _ _ ?_
          clear hKC KC
          try simp only [List.getElem_toArray, List.getElem_cons_succ, List.getElem_cons_zero, Act.put, List.setIfInBounds_toArray, List.set_cons_zero, List.set_cons_succ]
          refine wpAnyM_pureL (i := 12) (oi := _) (v := ?_) rfl (by kernel_rfl) (fun _ _ _ h => h) (Or.inl ⟨by kernel_rfl, ?_⟩) ?_
          rotate_left
          · intro w' hSw
            go_simp
            try with_reducible rfl
          try simp only [List.getElem_toArray, List.getElem_cons_succ, List.getElem_cons_zero, Act.put, List.setIfInBounds_toArray, List.set_cons_zero, List.set_cons_succ]
          refine wpAnyM_done (by kernel_rfl) ?_ _
          obtain ⟨F1, F2⟩ := FIN.out w8 v8 cv8 V8 (b7D.trans bw8)
          have HF1 : Hid (OwnT (layThing.slice 40) w8 w.heap.size w8.heap.size (putD (m, y) bn q k) [v8]) := F1
          have HF2 : Hid (Below w.heap.size w w8) := F2
          clear F1 F2 V8 V7 bw7 bw8 b7D hHeld runv7 runv8 hUr hFr hUz hFz hAU hAF rg9 HUS HFS HBD
          go_wp2
          go_ret
          exact ⟨_, rfl, HF1.out, HF2.out⟩
      · have i1 : (0 : Int) ≤ (k : Int) := by omega
        have i2 : (k : Int) < (m : Int) := by omega
        obtain ⟨lt, hlt1⟩ : ∃ t, Op.bytesLess (y k).name.toList bn.toList = t := ⟨_, rfl⟩
        obtain ⟨eq, heq1⟩ : ∃ t, ((y k).name.toList == bn.toList) = t := ⟨_, rfl⟩
        have heq2 : decide ((y k).name.toList = bn.toList) = eq := by rw [← heq1, Bool.eq_iff_iff]; simp
        have hor : (lt || eq) = false := by rw [← hlt1, ← heq1]; exact hle
        subst har
        clear hle EX HC0 GO hkm
        go_upto_region 6 with fail
        refine wp_region_M 7 (fun w' => w'.rangeAt w2.heap.size 0 [.string bn, .bool false, .slice bo2 q.1 bc2]) mixedO (by rw [← HD.out]; exact rg9) (fun hHeld => ?_)
        rw [← HD.out] at hHeld ⊢
        refine wpAnyM_pure (i := 1) (oi := _) (v := ?_) rfl (by kernel_rfl) (fun _ _ _ h => h) (Or.inl ⟨by kernel_rfl, ?_⟩) (by assumption) ?_
        rotate_left
        · intro w' hSw
          go_simp
          try with_reducible rfl
        try simp only [List.getElem_toArray, List.getElem_cons_succ, List.getElem_cons_zero, Act.put, List.setIfInBounds_toArray, List.set_cons_zero, List.set_cons_succ]
        refine wpAnyM_pure (i := 2) (oi := _) (v := ?_) rfl (by kernel_rfl) (fun _ _ _ h => h) (Or.inl ⟨by kernel_rfl, ?_⟩) (by assumption) ?_
        rotate_left
        · intro w' hSw
          go_simp
          try with_reducible rfl
        try simp only [List.getElem_toArray, List.getElem_cons_succ, List.getElem_cons_zero, Act.put, List.setIfInBounds_toArray, List.set_cons_zero, List.set_cons_succ]
        refine wpAnyM_pure (i := 3) (oi := _) (v := ?_) rfl (by kernel_rfl) (fun _ _ _ h => h) (Or.inl ⟨by kernel_rfl, ?_⟩) (by assumption) ?_
        rotate_left
        · intro w' hSw
          have hSl' := hUr w'
          go_simp
          try with_reducible rfl
        try simp only [List.getElem_toArray, List.getElem_cons_succ, List.getElem_cons_zero, Act.put, List.setIfInBounds_toArray, List.set_cons_zero, List.set_cons_succ]
        refine wpAnyM_take (i := 5) (oi := _) (v := .agg ([.string bn, .bool false, .slice bo2 q.1 bc2] : List Value).toArray) 16 rfl (by kernel_rfl) (fun _ _ _ h => h) (yieldsIf_load_mid (by kernel_rfl) 40 (.tmp 8) rfl w2.heap.size (0) (by simp [Act.eval, Act.put]) ([.string bn, .bool false, .slice bo2 q.1 bc2] : List Value) _ (fun w h => h) Try.underlying40 rfl (info_Thing3 rfl)) (by assumption) ?_
        try simp only [List.getElem_toArray, List.getElem_cons_succ, List.getElem_cons_zero, Act.put, List.setIfInBounds_toArray, List.set_cons_zero, List.set_cons_succ]
        refine wpAnyM_pure (i := 8) (oi := _) (v := ?_) rfl (by kernel_rfl) (fun _ _ _ h => h) (Or.inl ⟨by kernel_rfl, ?_⟩) (by assumption) ?_
        rotate_left
        · intro w' hSw
          go_simp
          try with_reducible rfl
        try simp only [List.getElem_toArray, List.getElem_cons_succ, List.getElem_cons_zero, Act.put, List.setIfInBounds_toArray, List.set_cons_zero, List.set_cons_succ]
        refine wpAnyM_pure (i := 9) (oi := _) (v := ?_) rfl (by kernel_rfl) (fun _ _ _ h => h) (Or.inl ⟨by kernel_rfl, ?_⟩) (by assumption) ?_
        rotate_left
        · intro w' hSw
          go_simp
          try with_reducible rfl
        try simp only [List.getElem_toArray, List.getElem_cons_succ, List.getElem_cons_zero, Act.put, List.setIfInBounds_toArray, List.set_cons_zero, List.set_cons_succ]
        refine wpAnyM_pure (i := 10) (oi := _) (v := ?_) rfl (by kernel_rfl) (fun _ _ _ h => h) (Or.inl ⟨by kernel_rfl, ?_⟩) (by assumption) ?_
        rotate_left
        · intro w' hSw
          have hSl' := hFr w'
          go_simp
          try with_reducible rfl
        try simp only [List.getElem_toArray, List.getElem_cons_succ, List.getElem_cons_zero, Act.put, List.setIfInBounds_toArray, List.set_cons_zero, List.set_cons_succ]
        refine wpAnyM_twoS (i := 0) (j := 6) (o := _) (o' := _) rfl rfl (by kernel_rfl) (fun KC hKC => ?_) (fun KC hKC => ?_)
        · refine step_build0 rfl rfl ?_
          have bA : Below D.heap.size D (D.alloc (.cells #[] 40)) := (Below.refl _ _).alloc (Nat.le_refl _) _
          refine hKC _ _ (range_below rg9 bA hpD) ?_
          clear hKC KC
          try simp only [List.getElem_toArray, List.getElem_cons_succ, List.getElem_cons_zero, Act.put, List.setIfInBounds_toArray, List.set_cons_zero, List.set_cons_succ]
          have VL := View.lit0 (E := (layRaw 3)) (t := 40) ce ce D 0
          have zA1 : D.heap.size < (D.alloc (.cells #[] 40)).heap.size := (box_new D #[] 40).lt
          obtain ⟨D1, hD1⟩ : ∃ x, x = D.alloc (.cells #[] 40) := ⟨_, rfl⟩
          rw [← hD1] at bA VL zA1 ⊢
          clear hD1
          refine wpAnyM_twoS (i := 4) (j := 6) (o := _) (o' := _) rfl rfl (by kernel_rfl) (fun KC hKC => ?_) (fun KC hKC => ?_)
          · skip
            obtain ⟨v4, w4, cv4, runv4, V4, bw4⟩ := ins_up (lo := 0) HUS.out hUz hAU bA hiD (by omega) VL
            refine step_run2 rfl (.tmp 33) (.tmp 36) rfl (by simp [Act.eval, Act.put]) (by simp [Act.eval, Act.put]) runv4 ?_
            have b4D := bA.trans bw4
            refine hKC _ _ (range_below rg9 b4D hpD) ?_
            clear hKC KC
            try simp only [List.getElem_toArray, List.getElem_cons_succ, List.getElem_cons_zero, Act.put, List.setIfInBounds_toArray, List.set_cons_zero, List.set_cons_succ]
            refine wpAnyM_oneS (i := 6) (o := _) rfl (by kernel_rfl) (fun KC hKC => ?_)
            refine step_build1T rfl (.tmp 38) rfl bn false bo2 q.1 bc2 (by simp [Act.eval, Act.put]) ?_
            have b6 : Below w4.heap.size w4 (w4.alloc (.cells #[.string bn, .bool false, .slice bo2 q.1 bc2] 40)) := (Below.refl _ _).alloc (Nat.le_refl _) _
            have b6D := b4D.trans (b6.mono b4D.size)
            refine hKC _ _ (range_below rg9 b6D hpD) ?_
            clear hKC KC
            try simp only [List.getElem_toArray, List.getElem_cons_succ, List.getElem_cons_zero, Act.put, List.setIfInBounds_toArray, List.set_cons_zero, List.set_cons_succ]
            have V6 := V4.below b6 (Nat.zero_le _)
            have X6 : Box (w4.alloc (.cells #[.string bn, .bool false, .slice bo2 q.1 bc2] 40)) w4.heap.size ([.string bn, .bool false, .slice bo2 q.1 bc2] : List Value).toArray 40 := box_new _ _ _
            obtain ⟨v7, w7, cv7, runv7, V7, bw7⟩ := ins_one b6D hiD (by omega) V6 X6 ((layRaw 3).rd_below RR b6D hiD)
            refine wpAnyM_one (i := 7) (o := _) rfl (by kernel_rfl) (by kernel_rfl) (fun KC hKC => ?_)
            refine step_run2 rfl (.tmp 37) (.tmp 39) rfl (by simp [Act.eval, Act.put]) (by simp [Act.eval, Act.put]) runv7 ?_
            refine hKC _ _ ?_
            clear hKC KC
            try simp only [List.getElem_toArray, List.getElem_cons_succ, List.getElem_cons_zero, Act.put, List.setIfInBounds_toArray, List.set_cons_zero, List.set_cons_succ]
            have b7D := b6D.trans bw7
            obtain ⟨v8, w8, cv8, runv8, V8, bw8⟩ := ins_rest HFS.out hFz hAF b7D hiD (by omega) V7
            refine wpAnyM_one (i := 11) (o := _) rfl (by kernel_rfl) (by kernel_rfl) (fun KC hKC => ?_)
            refine step_run2 rfl (.tmp 40) (.tmp 43) rfl (by simp [Act.eval, Act.put]) (by simp [Act.eval, Act.put]) runv8 ?_
            refine hKC _ _ ?_
            clear hKC KC
            try simp only [List.getElem_toArray, List.getElem_cons_succ, List.getElem_cons_zero, Act.put, List.setIfInBounds_toArray, List.set_cons_zero, List.set_cons_succ]
            refine wpAnyM_pureL (i := 12) (oi := _) (v := ?_) rfl (by kernel_rfl) (fun _ _ _ h => h) (Or.inl ⟨by kernel_rfl, ?_⟩) ?_
            rotate_left
            · intro w' hSw
              go_simp
              try with_reducible rfl
            try simp only [List.getElem_toArray, List.getElem_cons_succ, List.getElem_cons_zero, Act.put, List.setIfInBounds_toArray, List.set_cons_zero, List.set_cons_succ]
            refine wpAnyM_done (by kernel_rfl) ?_ _
            obtain ⟨F1, F2⟩ := FIN.out w8 v8 cv8 V8 (b7D.trans bw8)
            have HF1 : Hid (OwnT (layThing.slice 40) w8 w.heap.size w8.heap.size (putD (m, y) bn q k) [v8]) := F1
            have HF2 : Hid (Below w.heap.size w w8) := F2
            clear F1 F2 V8 V7 bw7 bw8 b7D hHeld runv7 runv8 hUr hFr hUz hFz hAU hAF rg9 HUS HFS HBD
            go_wp2
            go_ret
            exact ⟨_, rfl, HF1.out, HF2.out⟩
          · refine step_build1T rfl (.tmp 38) rfl bn false bo2 q.1 bc2 (by simp [Act.eval, Act.put]) ?_
            have b6 : Below D1.heap.size D1 (D1.alloc (.cells #[.string bn, .bool false, .slice bo2 q.1 bc2] 40)) := (Below.refl _ _).alloc (Nat.le_refl _) _
            have b6D := bA.trans (b6.mono bA.size)
            refine hKC _ _ (range_below rg9 b6D hpD) ?_
            clear hKC KC
            try simp only [List.getElem_toArray, List.getElem_cons_succ, List.getElem_cons_zero, Act.put, List.setIfInBounds_toArray, List.set_cons_zero, List.set_cons_succ]
            have VL6 := VL.below b6 (Nat.zero_le _)
            have X6 : Box (D1.alloc (.cells #[.string bn, .bool false, .slice bo2 q.1 bc2] 40)) D1.heap.size ([.string bn, .bool false, .slice bo2 q.1 bc2] : List Value).toArray 40 := box_new _ _ _
            have z6 : D1.heap.size < (D1.alloc (.cells #[.string bn, .bool false, .slice bo2 q.1 bc2] 40)).heap.size := X6.lt
            have zA := bA.size
            obtain ⟨D2, hD2⟩ : ∃ x, x = D1.alloc (.cells #[.string bn, .bool false, .slice bo2 q.1 bc2] 40) := ⟨_, rfl⟩
            rw [← hD2] at b6 b6D VL6 X6 z6 ⊢
            clear hD2
            obtain ⟨v4, w4, cv4, runv4, ⟨V4, X4⟩, bw4⟩ := ins_up4 HUS.out hUz hAU b6D hiD (by omega) VL6 X6 (fun h => by simp [Value.ownBlock] at h; omega)
            refine wpAnyM_oneS (i := 4) (o := _) rfl (by kernel_rfl) (fun KC hKC => ?_)
            refine step_run2 rfl (.tmp 33) (.tmp 36) rfl (by simp [Act.eval, Act.put]) (by simp [Act.eval, Act.put]) runv4 ?_
            have b4D := b6D.trans bw4
            refine hKC _ _ (range_below rg9 b4D hpD) ?_
            clear hKC KC
            try simp only [List.getElem_toArray, List.getElem_cons_succ, List.getElem_cons_zero, Act.put, List.setIfInBounds_toArray, List.set_cons_zero, List.set_cons_succ]
            obtain ⟨v7, w7, cv7, runv7, V7, bw7⟩ := ins_one b4D hiD (by omega) V4 X4 ((layRaw 3).rd_below RR b4D hiD)
            refine wpAnyM_one (i := 7) (o := _) rfl (by kernel_rfl) (by kernel_rfl) (fun KC hKC => ?_)
            refine step_run2 rfl (.tmp 37) (.tmp 39) rfl (by simp [Act.eval, Act.put]) (by simp [Act.eval, Act.put]) runv7 ?_
            refine hKC _ _ ?_
            clear hKC KC
            try simp only [List.getElem_toArray, List.getElem_cons_succ, List.getElem_cons_zero, Act.put, List.setIfInBounds_toArray, List.set_cons_zero, List.set_cons_succ]
            have b7D := b4D.trans bw7
            obtain ⟨v8, w8, cv8, runv8, V8, bw8⟩ := ins_rest HFS.out hFz hAF b7D hiD (by omega) V7
            refine wpAnyM_one (i := 11) (o := _) rfl (by kernel_rfl) (by kernel_rfl) (fun KC hKC => ?_)
            refine step_run2 rfl (.tmp 40) (.tmp 43) rfl (by simp [Act.eval, Act.put]) (by simp [Act.eval, Act.put]) runv8 ?_
            refine hKC _ _ ?_
            clear hKC KC
            try simp only [List.getElem_toArray, List.getElem_cons_succ, List.getElem_cons_zero, Act.put, List.setIfInBounds_toArray, List.set_cons_zero, List.set_cons_succ]
            refine wpAnyM_pureL (i := 12) (oi := _) (v := ?_) rfl (by kernel_rfl) (fun _ _ _ h => h) (Or.inl ⟨by kernel_rfl, ?_⟩) ?_
            rotate_left
            · intro w' hSw
              go_simp
              try with_reducible rfl
            try simp only [List.getElem_toArray, List.getElem_cons_succ, List.getElem_cons_zero, Act.put, List.setIfInBounds_toArray, List.set_cons_zero, List.set_cons_succ]
            refine wpAnyM_done (by kernel_rfl) ?_ _
            obtain ⟨F1, F2⟩ := FIN.out w8 v8 cv8 V8 (b7D.trans bw8)
            have HF1 : Hid (OwnT (layThing.slice 40) w8 w.heap.size w8.heap.size (putD (m, y) bn q k) [v8]) := F1
            have HF2 : Hid (Below w.heap.size w w8) := F2
            clear F1 F2 V8 V7 bw7 bw8 b7D hHeld runv7 runv8 hUr hFr hUz hFz hAU hAF rg9 HUS HFS HBD
            go_wp2
            go_ret
            exact ⟨_, rfl, HF1.out, HF2.out⟩
        · refine step_build1T rfl (.tmp 38) rfl bn false bo2 q.1 bc2 (by simp [Act.eval, Act.put]) ?_
          have bA : Below D.heap.size D (D.alloc (.cells #[.string bn, .bool false, .slice bo2 q.1 bc2] 40)) := (Below.refl _ _).alloc (Nat.le_refl _) _
          refine hKC _ _ (range_below rg9 bA hpD) ?_
          clear hKC KC
          try simp only [List.getElem_toArray, List.getElem_cons_succ, List.getElem_cons_zero, Act.put, List.setIfInBounds_toArray, List.set_cons_zero, List.set_cons_succ]
          have XA : Box (D.alloc (.cells #[.string bn, .bool false, .slice bo2 q.1 bc2] 40)) D.heap.size ([.string bn, .bool false, .slice bo2 q.1 bc2] : List Value).toArray 40 := box_new _ _ _
          have zA : D.heap.size < (D.alloc (.cells #[.string bn, .bool false, .slice bo2 q.1 bc2] 40)).heap.size := XA.lt
          obtain ⟨D1, hD1⟩ : ∃ x, x = D.alloc (.cells #[.string bn, .bool false, .slice bo2 q.1 bc2] 40) := ⟨_, rfl⟩
          rw [← hD1] at bA XA zA ⊢
          clear hD1
          refine wpAnyM_oneS (i := 0) (o := _) rfl (by kernel_rfl) (fun KC hKC => ?_)
          refine step_build0 rfl rfl ?_
          have b6 : Below D1.heap.size D1 (D1.alloc (.cells #[] 40)) := (Below.refl _ _).alloc (Nat.le_refl _) _
          have b6D := bA.trans (b6.mono bA.size)
          refine hKC _ _ (range_below rg9 b6D hpD) ?_
          clear hKC KC
          try simp only [List.getElem_toArray, List.getElem_cons_succ, List.getElem_cons_zero, Act.put, List.setIfInBounds_toArray, List.set_cons_zero, List.set_cons_succ]
          have VL := (View.lit0 (E := (layRaw 3)) (t := 40) ce ce D1 0).weakL (lo' := D.heap.size) (by omega)
          have X6 := XA.below b6 zA
          obtain ⟨D2, hD2⟩ : ∃ x, x = D1.alloc (.cells #[] 40) := ⟨_, rfl⟩
          rw [← hD2] at b6 b6D VL X6 ⊢
          clear hD2
          obtain ⟨v4, w4, cv4, runv4, ⟨V4, X4⟩, bw4⟩ := ins_up4 HUS.out hUz hAU b6D hiD (by omega) VL X6 (fun h => by simp [Value.ownBlock] at h; omega)
          refine wpAnyM_oneS (i := 4) (o := _) rfl (by kernel_rfl) (fun KC hKC => ?_)
          refine step_run2 rfl (.tmp 33) (.tmp 36) rfl (by simp [Act.eval, Act.put]) (by simp [Act.eval, Act.put]) runv4 ?_
          have b4D := b6D.trans bw4
          refine hKC _ _ (range_below rg9 b4D hpD) ?_
          clear hKC KC
          try simp only [List.getElem_toArray, List.getElem_cons_succ, List.getElem_cons_zero, Act.put, List.setIfInBounds_toArray, List.set_cons_zero, List.set_cons_succ]
          obtain ⟨v7, w7, cv7, runv7, V7, bw7⟩ := ins_one b4D hiD (by omega) V4 X4 ((layRaw 3).rd_below RR b4D hiD)
          refine wpAnyM_one (i := 7) (o := _) rfl (by kernel_rfl) (by kernel_rfl) (fun KC hKC => ?_)
          refine step_run2 rfl (.tmp 37) (.tmp 39) rfl (by simp [Act.eval, Act.put]) (by simp [Act.eval, Act.put]) runv7 ?_
          refine hKC _ _ ?_
          clear hKC KC
          try simp only [List.getElem_toArray, List.getElem_cons_succ, List.getElem_cons_zero, Act.put, List.setIfInBounds_toArray, List.set_cons_zero, List.set_cons_succ]
          have b7D := b4D.trans bw7
          obtain ⟨v8, w8, cv8, runv8, V8, bw8⟩ := ins_rest HFS.out hFz hAF b7D hiD (by omega) V7
          refine wpAnyM_one (i := 11) (o := _) rfl (by kernel_rfl) (by kernel_rfl) (fun KC hKC => ?_)
          refine step_run2 rfl (.tmp 40) (.tmp 43) rfl (by simp [Act.eval, Act.put]) (by simp [Act.eval, Act.put]) runv8 ?_
          refine hKC _ _ ?_
          clear hKC KC
          try simp only [List.getElem_toArray, List.getElem_cons_succ, List.getElem_cons_zero, Act.put, List.setIfInBounds_toArray, List.set_cons_zero, List.set_cons_succ]
          refine wpAnyM_pureL (i := 12) (oi := _) (v := ?_) rfl (by kernel_rfl) (fun _ _ _ h => h) (Or.inl ⟨by kernel_rfl, ?_⟩) ?_
          rotate_left
          · intro w' hSw
            go_simp
            try with_reducible rfl
          try simp only [List.getElem_toArray, List.getElem_cons_succ, List.getElem_cons_zero, Act.put, List.setIfInBounds_toArray, List.set_cons_zero, List.set_cons_succ]
          refine wpAnyM_done (by kernel_rfl) ?_ _
          obtain ⟨F1, F2⟩ := FIN.out w8 v8 cv8 V8 (b7D.trans bw8)
          have HF1 : Hid (OwnT (layThing.slice 40) w8 w.heap.size w8.heap.size (putD (m, y) bn q k) [v8]) := F1
          have HF2 : Hid (Below w.heap.size w w8) := F2
          clear F1 F2 V8 V7 bw7 bw8 b7D hHeld runv7 runv8 hUr hFr hUz hFz hAU hAF rg9 HUS HFS HBD
          go_wp2
          go_ret
          exact ⟨_, rfl, HF1.out, HF2.out⟩
end Go.Proofs.Ytapnjoophlckoaa

namespace Go.Proofs.Ytapnjoophlckoaa
open Go.RowKit F256
set_option linter.unusedVariables false
set_option linter.unusedSimpArgs false
/-- append(v, y...) onto a row of its own -/
theorem run_appendW {α : Type} {E : Lay α} {T e : TypeId} {by_ : Nat} {zs : List Value} (I : ElInfo E T e by_ zs) (R1 : RdOne E) (ty : TypeId) {W : World} {lo hi n : Nat} {v : Value} {x : Nat → α} {ce : Nat → List Value} (h : View E e W lo hi v n x ce)
    {ao : Option Addr} {m : Nat} (c : Nat) {y : Nat → α} {cy : Nat → List Value} (hs : Src E W hi ao m y cy) (hlo : lo ≤ W.heap.size) (hhi : hi ≤ lo) (hn : n + m ≤ 10000000) (hc0 : ao = none → c = 0 ∨ m = 0) :
    ∃ v' w', (Builtin.append_ #[T, T] ty #[v, .slice ao m c]).run Try.prog W = .ok v' w' ∧ View E e w' lo hi v' (n + m) (cat2 x n y) (cat2 ce n cy) ∧ W.grownBy w' v.ownBlock ∧ Below lo W w' ∧ (v'.ownBlock = v.ownBlock ∨ v'.ownBlock = some W.heap.size) := by
  obtain ⟨hz, hzs, hu, hinf, few⟩ := I
  obtain ⟨i0, hi0⟩ : ∃ i0, Try.prog.info? e = some i0 := by
    cases h : Try.prog.info? e with
    | none => rw [h] at hinf; cases hinf
    | some i0 => exact ⟨i0, rfl⟩
  rw [hi0] at hinf
  simp only [Option.map_some, Option.some.injEq, Prod.mk.injEq] at hinf
  obtain ⟨h1, h2, h3⟩ := hinf
  obtain ⟨z, hz0, hzc⟩ : ∃ z, i0.zero = some z ∧ z.cells = zs.toArray := by
    cases h : i0.zero with
    | none => rw [h] at h1; cases h1
    | some z => rw [h] at h1; exact ⟨z, rfl, by simpa using h1⟩
  obtain ⟨hcell, hrd⟩ := hs
  have hlen : (catN m cy).length = m * E.sz := catN_len (fun j hj => E.rd_len (hrd j hj))
  have big : ∀ ad, ao = some ad → (∀ j u, (catN m cy)[j]? = some u → W.cell? (ad.add j) = some u) → ∃ v' w', (Builtin.append_ #[T, T] ty #[v, .slice ao m c]).run Try.prog W = .ok v' w' ∧ View E e w' lo hi v' (n + m) (cat2 x n y) (cat2 ce n cy) ∧ W.grownBy w' v.ownBlock ∧ Below lo W w' ∧ (v'.ownBlock = v.ownBlock ∨ v'.ownBlock = some W.heap.size) := fun ad ha hc => by
    subst ha
    obtain ⟨v', w', hr, r1, r2, r3, r4⟩ := run_append_own_at (P := Try.prog) W lo T ty e i0 z E.sz by_ hu hi0 hz0 h2 h3 (by rw [hzc]; simpa using hzs) hz v n (catN n ce) h.row ad m c (catN m cy) hlen hc
      (fun u hu => by
        obtain ⟨i, hi, hm⟩ := mem_catN.1 hu
        exact R1 _ _ _ _ (hrd i hi) u hm) (by unfold maxLen; omega) (by
        have : (n + m) * by_ ≤ 10000000 * 1000 := Nat.mul_le_mul hn few
        omega) hlo
    have hb : Below lo W w' := (Below.refl _ _).grown r2 hlo (fun k hk => (h.row.lt k hk).1)
    refine ⟨v', w', hr, ⟨by rw [catN_cat2]; exact r1, fun i hi => ?_⟩, r2, hb, r4⟩
    by_cases c1 : i < n
    · rw [cat2_lt x y c1, cat2_lt ce cy c1]
      exact E.rd_below (h.each i c1) hb hhi
    · obtain ⟨k, rfl⟩ : ∃ k, i = n + k := ⟨i - n, by omega⟩
      rw [cat2_ge, cat2_ge]
      exact E.rd_below (hrd k (by omega)) hb hhi
  by_cases hm : m = 0
  · subst hm
    cases ao with
    | some ad => exact big ad rfl (fun j u hj => by rw [catN_zero] at hj; simp at hj)
    | none =>
      refine ⟨v, W, run_append_none' W lo T ty e i0 E.sz hu hi0 v n c _ h.row, ⟨by rw [catN_cat2, catN_zero, List.append_nil]; exact h.row, fun i hi => ?_⟩, ⟨rfl, rfl, rfl, Nat.le_refl _, fun _ _ _ => rfl⟩, Below.refl _ _, .inl rfl⟩
      have hi' : i < n := by omega
      rw [cat2_lt x y hi', cat2_lt ce cy hi']
      exact h.each i hi'
  · obtain ⟨b, off, rfl, hcc⟩ := hcell hm
    refine big _ rfl (fun j u hj => ?_)
    have hj' : j < m * E.sz := by rw [← hlen]; exact (List.getElem?_eq_some_iff.1 hj).1
    have e1 : j / E.sz < m := Nat.div_lt_of_lt_mul (by rw [Nat.mul_comm]; exact hj')
    have e2 : j % E.sz < E.sz := Nat.mod_lt _ hz
    have e3 : j / E.sz * E.sz + j % E.sz = j := by rw [Nat.mul_comm]; exact Nat.div_add_mod j E.sz
    rw [add_oo, ← e3, hcc _ e1 _ e2, ← catN_get (fun j hj => E.rd_len (hrd j hj)) e1 e2, e3]
    exact hj
theorem wp_runZ {ops : Array Oper} {rest : List Oper} {o : Oper} {a : Act} {W w' : World} {Q : Exit → Act → World → Prop} {T T2 : TypeId} {v' x1 x2 : Value} (hg : o.guard = none) (s y : Operand) (hop : o.op = Op.call { callee := Callee.builtin Builtin.append, args := #[s, y], argTypes := #[T, T2] })
    (h1 : a.eval s = x1) (h2 : a.eval y = x2) (hrun : (Builtin.append_ #[T, T2] o.type #[x1, x2]).run Try.prog W = .ok v' w') (hK : wpList Try.prog ops Q rest (a.put o.dst v') w') : wpList Try.prog ops Q (o :: rest) a W := by
  refine wpList_plain hg fun K hK' => ?_
  unfold Oper.wp
  simp [execOp, hop, resolve, invoke, builtin, h1, h2, hrun, Result.andThen]
  exact hK' _ _ hK
theorem wp_runC {ops : Array Oper} {rest : List Oper} {o : Oper} {a : Act} {W w' : World} {Q : Exit → Act → World → Prop} {T : TypeId} {v' x1 x2 : Value} (hg : o.guard = none) (s y : Operand) (hop : o.op = Op.call { callee := Callee.builtin Builtin.copy, args := #[s, y], argTypes := #[T, T] })
    (h1 : a.eval s = x1) (h2 : a.eval y = x2) (hrun : (Builtin.copy_ #[T, T] o.type #[x1, x2]).run Try.prog W = .ok v' w') (hK : wpList Try.prog ops Q rest (a.put o.dst v') w') : wpList Try.prog ops Q (o :: rest) a W := by
  refine wpList_plain hg fun K hK' => ?_
  unfold Oper.wp
  simp [execOp, hop, resolve, invoke, builtin, h1, h2, hrun, Result.andThen]
  exact hK' _ _ hK
theorem step_runC {ops : Array Oper} {o : Oper} {a : Act} {W w' : World} {K : Act → World → Prop} {Q : Exit → Act → World → Prop} {F : Prop} {T : TypeId} {v' x1 x2 : Value} (hg : o.guard = none) (s y : Operand) (hop : o.op = Op.call { callee := Callee.builtin Builtin.copy, args := #[s, y], argTypes := #[T, T] })
    (h1 : a.eval s = x1) (h2 : a.eval y = x2) (hrun : (Builtin.copy_ #[T, T] o.type #[x1, x2]).run Try.prog W = .ok v' w') (hK : K (a.put o.dst v') w') : if Region.wanted o (yielded ops a.tmps) = true then Oper.wp Try.prog o a W K Q else F := by
  have hw : Region.wanted o (yielded ops a.tmps) = true := by simp [Region.wanted, hg]
  rw [if_pos hw]
  unfold Oper.wp
  simp [execOp, hop, resolve, invoke, builtin, h1, h2, hrun, Result.andThen]
  exact hK
theorem run_copyK (w : World) (ty : TypeId) (b o dLen dCap : Nat) (a : Addr) (sLen sCap n : Nat) (cs : List Value) (hn : n = Nat.min sLen dLen) (hcl : cs.length = n * 3)
    (hsrc : ∀ j v, cs[j]? = some v → w.cell? (a.add j) = some v) (hc : ∀ j, j < cs.length → (w.cell? ⟨b, o + j, none⟩).isSome = true) (hf : ∀ j, j < cs.length → w.frozen? ⟨b, o + j, none⟩ = false) (h1 : ∀ v ∈ cs, v.oneCell' = true) :
    (Builtin.copy_ #[25, 25] ty #[.slice (some ⟨b, o, none⟩) dLen dCap, .slice (some a) sLen sCap]).run Try.prog w = .ok (goInt n) (w.setCells b o cs) := by
  have hl := run_loadCells_list (P := Try.prog) w a cs hsrc
  have hst := run_storeCells_cells (P := Try.prog) b o cs 0 w (by simpa using hc) (by simpa using hf) h1
  have hs := size_Thing
  cases hq : Try.prog.info? 40 with
  | none => simp [hq] at hs
  | some i =>
    have hi : i.size = 3 := by simpa [hq] using hs
    rw [hcl] at hl
    simp [Builtin.copy_, run_underlying Try.underlying25, Builtin.lenOf, Builtin.firstCells, sizeOf, typeInfo, hq, hi, ← hn, hl, hst]
/-- a row that has room, one longer -/
theorem row_more {w : World} {g cap n : Nat} {xs : List Value} (h : w.ownsRow 0 40 3 (.slice (some ⟨g, 0, none⟩) n cap) n xs) (hr : n + 1 ≤ cap) : ∃ z, z.length = 3 ∧ w.ownsRow 0 40 3 (.slice (some ⟨g, 0, none⟩) (n + 1) cap) (n + 1) (xs ++ z) := by
  have hl := h.1
  rcases h.2 with ⟨hn, _⟩ | ⟨g', cap', cur, he, hbg, hgg, hnc, hcm, hcs, htk⟩
  · cases hn
  · cases he
    have h3 : (n + 1) * 3 ≤ cap * 3 := Nat.mul_le_mul_right 3 hr
    have h7 : cur.toList.length = cap * 3 := by simpa using hcs
    refine ⟨(cur.toList.drop (n * 3)).take 3, by simp only [List.length_take, List.length_drop]; omega, by simp only [List.length_append, List.length_take, List.length_drop]; omega, .inr ⟨g, cap, cur, rfl, hbg, hgg, hr, hcm, hcs, ?_⟩⟩
    rw [show (n + 1) * 3 = n * 3 + 3 by omega, List.take_add, htk]
theorem spl_len (cs : List Value) : ∀ (xs : List Value) (o : Nat), (spl xs o cs).length = xs.length := by
  induction cs with
  | nil => intro xs o; rfl
  | cons v r ih => intro xs o; show (spl (xs.set o v) (o + 1) r).length = _; rw [ih, List.length_set]
theorem ins_get {X ct : List Value} {n i : Nat} (hX : X.length = n * 3) (hc : ct.length = 3) (hi : i ≤ n) (j : Nat) : (X.take (i * 3) ++ (ct ++ X.drop (i * 3)))[j]? = if j < i * 3 then X[j]? else if j < i * 3 + 3 then ct[j - i * 3]? else X[j - 3]? := by
  have ht : (X.take (i * 3)).length = i * 3 := by rw [List.length_take]; omega
  by_cases c1 : j < i * 3
  · rw [if_pos c1, List.getElem?_append_left (by omega), List.getElem?_take, if_pos c1]
  · rw [if_neg c1, List.getElem?_append_right (by omega), ht]
    by_cases c2 : j < i * 3 + 3
    · rw [if_pos c2, List.getElem?_append_left (by omega)]
    · rw [if_neg c2, List.getElem?_append_right (by omega), hc, List.getElem?_drop]
      congr 1
      omega
theorem spl_shift {X z ct : List Value} {n i : Nat} (hX : X.length = n * 3) (hz : z.length = 3) (hc : ct.length = 3) (hi : i ≤ n) : spl (spl (X ++ z) ((i + 1) * 3) (X.drop (i * 3))) (i * 3) ct = X.take (i * 3) ++ (ct ++ X.drop (i * 3)) := by
  have hd : (X.drop (i * 3)).length = n * 3 - i * 3 := by rw [List.length_drop]; omega
  have hl : (X ++ z).length = n * 3 + 3 := by rw [List.length_append]; omega
  apply List.ext_getElem?
  intro j
  rw [ins_get hX hc hi, spl_get _ _ _ _ (by rw [spl_len]; omega), spl_get _ _ _ _ (by omega)]
  by_cases c1 : j < i * 3
  · rw [if_neg (by omega), if_neg (by omega), if_pos c1, List.getElem?_append_left (by omega)]
  · rw [if_neg c1]
    by_cases c2 : j < i * 3 + 3
    · rw [if_pos (by omega), if_pos c2]
    · rw [if_neg (by omega), if_neg c2]
      by_cases c3 : j < n * 3 + 3
      · rw [if_pos (by omega), List.getElem?_drop]
        congr 1
        omega
      · rw [if_neg (by omega), List.getElem?_eq_none (by omega), List.getElem?_eq_none (by omega)]
theorem spl_grow {X Y ct : List Value} {n i : Nat} (hX : X.length = n * 3) (hY : Y.length = (n + 1) * 3) (hc : ct.length = 3) (hi : i ≤ n) (hYX : ∀ j, j < i * 3 → Y[j]? = X[j]?) : spl (spl Y (i * 3) ct) ((i + 1) * 3) (X.drop (i * 3)) = X.take (i * 3) ++ (ct ++ X.drop (i * 3)) := by
  have hd : (X.drop (i * 3)).length = n * 3 - i * 3 := by rw [List.length_drop]; omega
  apply List.ext_getElem?
  intro j
  rw [ins_get hX hc hi, spl_get _ _ _ _ (by rw [spl_len]; omega), spl_get _ _ _ _ (by omega)]
  by_cases c1 : j < i * 3
  · rw [if_neg (by omega), if_neg (by omega), if_pos c1, hYX j c1]
  · rw [if_neg c1]
    by_cases c2 : j < i * 3 + 3
    · rw [if_neg (by omega), if_pos (by omega), if_pos c2]
    · rw [if_neg c2]
      by_cases c3 : j < n * 3 + 3
      · rw [if_pos (by omega), List.getElem?_drop]
        congr 1
        omega
      · rw [if_neg (by omega), if_neg (by omega), List.getElem?_eq_none (by omega), List.getElem?_eq_none (by omega)]
theorem catN_parts {ce : Nat → List Value} {n i : Nat} (h : ∀ k, k < n → (ce k).length = 3) (hi : i ≤ n) (ct : List Value) : (catN n ce).take (i * 3) ++ (ct ++ (catN n ce).drop (i * 3)) = catN (n + 1) (insF ce i ct) := by
  have e : catN n ce = catN i ce ++ catN (n - i) (fun k => ce (i + k)) := by
    have := catN_split ce i (n - i)
    rw [show i + (n - i) = n by omega] at this
    exact this
  have hl : (catN i ce).length = i * 3 := catN_len (fun k hk => h k (by omega))
  rw [catN_insF ce ct hi, catN_take h hi, e, ← hl, List.drop_left]
/-- what slices.Insert hands back -/
def InsPost (v : Value) (n i : Nat) (ce : Nat → List Value) (ct : List Value) (w : World) (e : Ending) (w' : World) : Prop := ∃ v', e = .returned v' ∧ w'.ownsRow 0 40 3 v' (n + 1) (catN (n + 1) (insF ce i ct)) ∧ (∀ b, v'.ownBlock = some b → v.ownBlock = some b ∨ w.heap.size ≤ b) ∧ ChgL v.ownBlock.toList w w'
set_option maxHeartbeats 16000000 in
set_option maxRecDepth 100000 in
theorem insert_end (v : Value) (n : Nat) (ce : Nat → List Value) (vb : Nat) (ct : List Value) (w : World) (V : View (layRaw 3) 40 w 0 0 v n ce ce) (hct : ct.length = 3) (h1 : ∀ u, u ∈ ct → u.oneCell' = true) (hX : Box w vb ct.toArray 40) (hn : n ≤ 1100000) :
    Calls Try.prog 24 #[v, .int .i64 (n : Int), .slice (some ⟨vb, 0, none⟩) 1 1] w (InsPost v n n ce ct w) := by
  obtain ⟨aF, cF, hFr, -, -, -⟩ := V.from_ (Nat.zero_le _) (al := n) (Nat.le_refl _)
  obtain ⟨v', w', hrun, V', hgr, hb', hblk⟩ := run_appendW el_Raw3 rdOne_raw3 25 V 1 (src_one (b := vb) (hi := 0) (y := ct) (cs := ct) (fun j hj => by rw [hX.cell j]; simp) ⟨rfl, hct, h1⟩) (Nat.zero_le _) (Nat.le_refl _) (by omega) (fun h => by cases h)
  obtain ⟨ar, cr, rfl⟩ := V.form
  have HP : Hid (InsPost (.slice ar n cr) n n ce ct w (.returned v') w') := ⟨v', rfl, by
    have e9 : catN (n + 1) (cat2 ce n fun _ => ct) = catN (n + 1) (insF ce n ct) := catN_congr (fun k hk => by
      by_cases c : k < n
      · rw [cat2_lt _ _ c, insF_lt _ _ c]
      · obtain rfl : k = n := by omega
        have := cat2_ge ce k (fun _ => ct) 0
        rw [Nat.add_zero] at this
        rw [this, insF_at])
    rw [← e9]
    exact V'.row, fun b hb => by
      rcases hblk with h | h
      · exact .inl (by rw [← h]; exact hb)
      · rw [h] at hb; cases hb; exact .inr (Nat.le_refl _), ⟨hgr.os, hgr.tape, hgr.output, hgr.size, fun b hb hn => hgr.block b hb (fun h => hn (by rw [← h]; simp))⟩⟩
  clear V V' hgr hb' hblk hX h1 hct
  go_enter Try.func24, Try.ntmps24
  go_wp2_with (at_builtin; refine wp_run2 rfl (.tmp 23) (.tmp 24) rfl ?_ ?_ hrun ?_; (simp [Act.eval]); (simp [Act.eval]))
  go_ret
  exact HP.out
set_option maxHeartbeats 16000000 in
set_option maxRecDepth 100000 in
theorem insert_shift (g cap n i : Nat) (ce : Nat → List Value) (vb : Nat) (ct : List Value) (w : World) (V : View (layRaw 3) 40 w 0 0 (.slice (some ⟨g, 0, none⟩) n cap) n ce ce) (hct : ct.length = 3) (h1 : ∀ u, u ∈ ct → u.oneCell' = true) (hX : Box w vb ct.toArray 40) (hvb : vb ≠ g) (hi : i < n) (hroom : n + 1 ≤ cap) (hn : n ≤ 1100000) :
    Calls Try.prog 24 #[.slice (some ⟨g, 0, none⟩) n cap, .int .i64 (i : Int), .slice (some ⟨vb, 0, none⟩) 1 1] w (InsPost (.slice (some ⟨g, 0, none⟩) n cap) n i ce ct w) := by
  have hc63 : cap ≤ 9223372036854775807 := by
    rcases V.row.2 with ⟨h, _⟩ | ⟨g', cap', cur, he, hbg, hgg, hnc, hcm, _⟩
    · cases h
    · cases he; unfold maxLen at hcm; omega
  have hlen := V.lens
  obtain ⟨z, hz, hrow⟩ := row_more V.row hroom
  have hXl : (catN n ce).length = n * 3 := catN_len hlen
  obtain ⟨X, hXe⟩ : ∃ X, X = catN n ce := ⟨_, rfl⟩
  rw [← hXe] at hrow hXl
  have hdl : (X.drop (i * 3)).length = (n - i) * 3 := by rw [List.length_drop, hXl, ← Nat.sub_mul]
  have hcell : ∀ j, j < (n + 1) * 3 → w.cell? ⟨g, j, none⟩ = (X ++ z)[j]? := fun j hj => hrow.cellAt j hj
  have hcX : ∀ j v, X[j]? = some v → w.cell? ⟨g, j, none⟩ = some v := fun j v hj => by
    have : j < X.length := (List.getElem?_eq_some_iff.1 hj).1
    rw [hcell j (by omega), List.getElem?_append_left this, hj]
  have hsp : ∀ j, j < (n + 1) * 3 → (w.cell? ⟨g, j, none⟩).isSome = true := fun j hj => by
    rw [hcell j hj, List.getElem?_eq_getElem (by rw [List.length_append]; omega)]; rfl
  have hfz : ∀ j, w.frozen? ⟨g, j, none⟩ = false := fun j => hrow.frozenAt j
  have h1X : ∀ u, u ∈ X → u.oneCell' = true := fun u hu => by
    rw [hXe] at hu
    obtain ⟨k, hk, hu⟩ := mem_catN.1 hu
    exact (V.each k hk).2.2 u hu
  have hz1 : ¬ ((1 : Int) = 0) := by omega
  have hz2 : ¬ ((i : Int) = (n : Int)) := by omega
  have hs1 : ∀ w', (Instr.slice 25 (.slice (some ⟨g, 0, none⟩) n cap) (some (.int .i64 (i : Int))) none none).run Try.prog w' = .ok (.slice (some ⟨g, i * 3, none⟩) (n - i) (cap - i)) w' := fun w' => by
    have := run_from9 g n cap i (by omega) w'
    rw [if_neg (by omega)] at this
    exact this
  have hs2 : ∀ w', (Instr.slice 25 (.slice (some ⟨g, 0, none⟩) n cap) none (some (.int .i64 ((n : Int) + 1))) none).run Try.prog w' = .ok (.slice (some ⟨g, 0, none⟩) (n + 1) cap) w' := fun w' => by
    have e1 : ((n : Int) + 1) ≤ (cap : Int) := by omega
    have e2 : n + 1 ≤ cap := hroom
    simp [Instr.slice, run_underlying Try.underlying25, Instr.sliceBounds, Instr.sliceBound, asIntOf, go_sem, e1, e2]
    omega
  have hs3 : ∀ w', (Instr.slice 25 (.slice (some ⟨g, 0, none⟩) (n + 1) cap) (some (.int .i64 ((i : Int) + 1))) none none).run Try.prog w' = .ok (.slice (some ⟨g, (i + 1) * 3, none⟩) (n - i) (cap - (i + 1))) w' := fun w' => by
    have := run_from9 g (n + 1) cap (i + 1) (by omega) w'
    rw [if_neg (by omega), show n + 1 - (i + 1) = n - i by omega] at this
    exact this
  have hs4 : ∀ w', (Instr.slice 25 (.slice (some ⟨g, 0, none⟩) (n + 1) cap) (some (.int .i64 (i : Int))) none none).run Try.prog w' = .ok (.slice (some ⟨g, i * 3, none⟩) (n + 1 - i) (cap - i)) w' := fun w' => by
    have := run_from9 g (n + 1) cap i (by omega) w'
    rw [if_neg (by omega)] at this
    exact this
  have hsa : w.shape? vb = some (40, ct.length) := by unfold Box at hX; unfold World.shape?; rw [hX]; simp
  have hsb : ∃ k, w.shape? g = some (40, k) ∧ k ≠ 0 := by
    rcases V.row.2 with ⟨h, _⟩ | ⟨g', cap', cur, he, hbg, hgg, hnc, hcm, hcs, _⟩
    · cases h
    · cases he
      refine ⟨cur.size, by unfold World.shape?; rw [hgg], ?_⟩
      have : cap * 3 ≠ 0 := by omega
      rw [hcs]; exact this
  obtain ⟨kB, hsb, hkB⟩ := hsb
  have hov : ∀ lb cb, (callFunc 39 #[.slice (some ⟨vb, 0, none⟩) 1 1, .slice (some ⟨g, (i + 1) * 3, none⟩) lb cb]).run Try.prog w = .ok (.value (.bool false)) w := fun lb cb => by
    rw [run_callFunc_extern Try.func39 (by kernel_rfl) (by kernel_rfl) (by kernel_rfl) (e := Extern.SlicesOverlaps.overlaps #[25, 25] #[4]) (by kernel_rfl),
      Lib.run_overlaps_apart w 25 4 40 Try.underlying25 3 (fun w => by kernel_rfl) ⟨vb, 0, none⟩ ⟨g, (i + 1) * 3, none⟩ 1 1 lb cb hvb 40 40 ct.length kB hsa hsb hkB (hX.frozen 0) (hX.frozen _)]
    rfl
  have hcp1 : ∀ ty dc sc, (Builtin.copy_ #[25, 25] ty #[.slice (some ⟨g, (i + 1) * 3, none⟩) (n - i) dc, .slice (some ⟨g, i * 3, none⟩) (n + 1 - i) sc]).run Try.prog w.drew = .ok (goInt ((n - i : Nat) : Int)) (w.drew.setCells g ((i + 1) * 3) (X.drop (i * 3))) := fun ty dc sc =>
    run_copyK w.drew ty g ((i + 1) * 3) (n - i) dc ⟨g, i * 3, none⟩ (n + 1 - i) sc (n - i) (X.drop (i * 3)) (by simp only [Nat.min_def]; split <;> omega) hdl
      (fun j v hj => by rw [add_oo]; exact hcX (i * 3 + j) v (by rwa [List.getElem?_drop] at hj))
      (fun j hj => hsp _ (by rw [hdl] at hj; have := Nat.sub_mul n i 3; omega)) (fun j hj => hfz _) (fun v hv => h1X v (List.mem_of_mem_drop hv))
  obtain ⟨W1, hW1⟩ : ∃ W1, W1 = w.drew.setCells g ((i + 1) * 3) (X.drop (i * 3)) := ⟨_, rfl⟩
  rw [← hW1] at hcp1
  have hr1 : W1.ownsRow 0 40 3 (.slice (some ⟨g, 0, none⟩) (n + 1) cap) (n + 1) (spl (X ++ z) ((i + 1) * 3) (X.drop (i * 3))) := by
    rw [hW1]
    exact row_setCells (X.drop (i * 3)) w.drew (X ++ z) _ hrow
  have hC1 : ChgL [g] w W1 := by
    rw [hW1]
    have hd : ChgL [g] w w.drew := ⟨rfl, rfl, rfl, Nat.le_refl _, fun _ _ _ => rfl⟩
    exact hd.trans (chgL_setCells g _ w.drew _)
  have hl1 : (spl (X ++ z) ((i + 1) * 3) (X.drop (i * 3))).length = (n + 1) * 3 := hr1.1
  have hcp2 : ∀ ty dc, (Builtin.copy_ #[25, 25] ty #[.slice (some ⟨g, i * 3, none⟩) (n + 1 - i) dc, .slice (some ⟨vb, 0, none⟩) 1 1]).run Try.prog W1 = .ok (goInt 1) (W1.setCells g (i * 3) ct) := fun ty dc =>
    run_copyK W1 ty g (i * 3) (n + 1 - i) dc ⟨vb, 0, none⟩ 1 1 1 ct (by simp only [Nat.min_def]; split <;> omega) (by omega)
      (fun j v hj => by
        have hb := hC1.block vb hX.lt (by simp; exact hvb)
        have e9 : W1.cell? ⟨vb, j, none⟩ = w.cell? ⟨vb, j, none⟩ := by simp [World.cell?, hb]
        rw [add_oo, Nat.zero_add, e9, hX.cell j]
        simpa using hj)
      (fun j hj => by rw [hr1.cellAt _ (by omega), List.getElem?_eq_getElem (by omega)]; rfl) (fun j hj => hr1.frozenAt _) h1
  have HP : Hid (InsPost (.slice (some ⟨g, 0, none⟩) n cap) n i ce ct w (.returned (.slice (some ⟨g, 0, none⟩) (n + 1) cap)) (W1.setCells g (i * 3) ct)) := ⟨_, rfl, by
    have h9 := row_setCells ct W1 _ (i * 3) hr1
    rw [spl_shift hXl hz hct (by omega), hXe, catN_parts hlen (by omega) ct] at h9
    exact h9, fun b hb => .inl hb, by
      have : (Value.slice (some ⟨g, 0, none⟩) n cap).ownBlock.toList = [g] := rfl
      rw [this]
      exact hC1.trans (chgL_setCells g ct W1 _)⟩
  have hw1 : IntKind.i64.wrap ((i : Int) + 1) = (i : Int) + 1 := by rw [IntKind.wrap_i64]; omega
  have hw2 : IntKind.i64.wrap ((n : Int) + 1) = (n : Int) + 1 := by rw [IntKind.wrap_i64]; omega
  have hg1 : ¬ ((cap : Int) < (n : Int) + 1) := by omega
  clear V hX hct h1 hlen hz hrow hXl hXe hdl hcell hcX hsp hfz h1X hsa hsb hkB hW1 hr1 hC1 hl1
  go_enter Try.func24, Try.ntmps24
  go_wp2_with (simp only [hov])
  go_region_law (refine step_runC rfl (.tmp 73) (.tmp 76) rfl ?_ ?_ (hcp1 _ _ _) ?_; (simp [Act.eval, Act.put]); (simp [Act.eval, Act.put]))
  all_goals
    go_wp2_with (at_builtin; refine wp_runC rfl (.tmp 80) (.tmp 81) rfl ?_ ?_ (hcp2 _ _) ?_; (simp [Act.eval]); (simp [Act.eval]))
    go_ret
    exact HP.out
set_option maxHeartbeats 16000000 in
set_option maxRecDepth 100000 in
theorem zero_Thing9 : (Try.prog.info? 40).map (fun i => (i.zero, i.size, i.bytes)) = some (some (.agg #[.string ⟨#[]⟩, .bool false, .slice none 0 0]), 3, 48) := by kernel_rfl
set_option maxHeartbeats 16000000 in
set_option maxRecDepth 100000 in
theorem insert_grow (g cap n i : Nat) (ce : Nat → List Value) (vb : Nat) (ct : List Value) (w : World) (V : View (layRaw 3) 40 w 0 0 (.slice (some ⟨g, 0, none⟩) n cap) n ce ce) (hct : ct.length = 3) (h1 : ∀ u, u ∈ ct → u.oneCell' = true) (hX : Box w vb ct.toArray 40) (hvb : vb ≠ g) (hi : i < n) (hroom : cap < n + 1) (hn : n ≤ 1100000) :
    Calls Try.prog 24 #[.slice (some ⟨g, 0, none⟩) n cap, .int .i64 (i : Int), .slice (some ⟨vb, 0, none⟩) 1 1] w (InsPost (.slice (some ⟨g, 0, none⟩) n cap) n i ce ct w) := by
  have hnc : n ≤ cap := by
    rcases V.row.2 with ⟨h, _⟩ | ⟨g', cap', cur, he, hbg, hgg, hnc, _⟩
    · cases h
    · cases he; exact hnc
  have hlen := V.lens
  have hgw : g < w.heap.size := (V.row.lt g rfl).2
  have hvw : vb < w.heap.size := hX.lt
  have hrow := V.row
  have hXl : (catN n ce).length = n * 3 := catN_len hlen
  obtain ⟨X, hXe⟩ : ∃ X, X = catN n ce := ⟨_, rfl⟩
  rw [← hXe] at hrow hXl
  have hdl : (X.drop (i * 3)).length = (n - i) * 3 := by rw [List.length_drop, hXl, ← Nat.sub_mul]
  have htl : (X.take (i * 3)).length = i * 3 := by rw [List.length_take]; omega
  have hcX : ∀ j v, X[j]? = some v → w.cell? ⟨g, j, none⟩ = some v := fun j v hj => by
    have : j < X.length := (List.getElem?_eq_some_iff.1 hj).1
    have h9 := hrow.cellAt j (show j < n * 3 by omega)
    rw [h9, hj]
  have h1X : ∀ u, u ∈ X → u.oneCell' = true := fun u hu => by
    rw [hXe] at hu
    obtain ⟨k, hk, hu⟩ := mem_catN.1 hu
    exact (V.each k hk).2.2 u hu
  obtain ⟨i0, hi0, hz0, hzs, hzb⟩ : ∃ i0, Try.prog.info? 40 = some i0 ∧ i0.zero = some (.agg #[.string ⟨#[]⟩, .bool false, .slice none 0 0]) ∧ i0.size = 3 ∧ i0.bytes = 48 := by
    have h := zero_Thing9
    cases hq : Try.prog.info? 40 with
    | none => rw [hq] at h; cases h
    | some i0 =>
      rw [hq] at h
      simp only [Option.map_some, Option.some.injEq, Prod.mk.injEq] at h
      exact ⟨i0, rfl, h.1, h.2.1, h.2.2⟩
  have hik : i + (n + 1 - i) = n + 1 := by omega
  have hold : (Builtin.firstCells i0.size i (.slice (some ⟨g, 0, none⟩) i cap)).run Try.prog w.drew = .ok (X.take (i * 3)).toArray w.drew := by
    rw [hzs]
    exact run_firstCells_some w.drew 3 i ⟨g, 0, none⟩ i cap (X.take (i * 3)) (by rw [htl]) (fun j v hj => by
      rw [add_oo, Nat.zero_add]
      rw [List.getElem?_take] at hj
      split at hj
      · exact hcX j v hj
      · cases hj)
  have hG0 := grownCap_ge w (n + 1) cap 40
  have hG1 := grownCap_le_maxLen w (n + 1) cap 40 (by unfold maxLen; omega)
  obtain ⟨G, hG⟩ : ∃ G, G = grownCap w (n + 1) cap 40 := ⟨_, rfl⟩
  obtain ⟨ROW, hROW⟩ : ∃ ROW : Array Value, ROW = (X.take (i * 3)).toArray ++ (Builtin.zeroCells #[.string ⟨#[]⟩, .bool false, .slice none 0 0] (n + 1 - i)) ++ (Builtin.zeroCells #[.string ⟨#[]⟩, .bool false, .slice none 0 0] (G - (n + 1))) := ⟨_, rfl⟩
  have hrz : (Builtin.append_ #[25, 3] 25 #[.slice (some ⟨g, 0, none⟩) i cap, .int .i64 ((n : Int) + 1 - (i : Int))]).run Try.prog w = .ok (.slice (some ⟨w.heap.size, 0, none⟩) (n + 1) G) (w.drew.alloc (.cells ROW 40)) := by
    have h := Lib.run_append_grow_zeros w 25 3 25 40 i0 _ .i64 .i64 Try.underlying25 Try.underlying3 hi0 hz0 (some ⟨g, 0, none⟩) i cap (X.take (i * 3)) hold (n + 1 - i) (by omega) (by omega) (by omega) (by omega) (by rw [hzb]; omega) (by
      rw [hzb, hik]
      exact growslice_fits hroom (by omega))
    rw [hik, ← hG] at h
    have e1 : (n : Int) + 1 - (i : Int) = ((n + 1 - i : Nat) : Int) := by omega
    rw [e1, hROW]
    exact h
  rw [← hG] at hG0 hG1
  unfold maxLen at hG1
  have hRl : ROW.size = G * 3 := by
    rw [hROW]
    simp [Builtin.zeroCells, htl]
    omega
  have hS : (w.drew.alloc (.cells ROW 40)).ownsRow 0 40 3 (.slice (some ⟨w.heap.size, 0, none⟩) (n + 1) G) (n + 1) (ROW.toList.take ((n + 1) * 3)) := by
    have h7 : ROW.toList.length = G * 3 := by simpa using hRl
    refine ⟨by rw [List.length_take]; omega, .inr ⟨w.heap.size, G, ROW, rfl, Nat.zero_le _, box_new w.drew ROW 40, hG0, by unfold maxLen; omega, hRl, rfl⟩⟩
  have hYX : ∀ j, j < i * 3 → (ROW.toList.take ((n + 1) * 3))[j]? = X[j]? := fun j hj => by
    rw [List.getElem?_take, if_pos (by omega), hROW]
    simp only [Array.toList_append, List.append_assoc]
    rw [List.getElem?_append_left (by simp [htl]; exact hj)]
    rw [List.getElem?_take, if_pos hj]
  obtain ⟨W1, hW1⟩ : ∃ W1, W1 = w.drew.alloc (.cells ROW 40) := ⟨_, rfl⟩
  rw [← hW1] at hrz hS
  have b01 : Below w.heap.size w W1 := by
    rw [hW1]
    have hd : Below w.heap.size w w.drew := ⟨rfl, rfl, rfl, Nat.le_refl _, fun _ _ => rfl⟩
    exact hd.alloc (show w.heap.size ≤ w.heap.size from Nat.le_refl _) _
  obtain ⟨S, hSe⟩ : ∃ S, S = w.heap.size := ⟨_, rfl⟩
  rw [← hSe] at hrz hS
  have hgS : g ≠ S := by omega
  have hvS : vb ≠ S := by omega
  obtain ⟨Y, hYe⟩ : ∃ Y, Y = ROW.toList.take ((n + 1) * 3) := ⟨_, rfl⟩
  rw [← hYe] at hS hYX
  have hYl : Y.length = (n + 1) * 3 := hS.1
  have hc1 : ∀ b j, b < w.heap.size → W1.cell? ⟨b, j, none⟩ = w.cell? ⟨b, j, none⟩ := fun b j hb => b01.cell (p := ⟨b, j, none⟩) hb
  have hcpA : ∀ ty dc, (Builtin.copy_ #[25, 25] ty #[.slice (some ⟨S, i * 3, none⟩) (n + 1 - i) dc, .slice (some ⟨vb, 0, none⟩) 1 1]).run Try.prog W1 = .ok (goInt ((1 : Nat) : Int)) (W1.setCells S (i * 3) ct) := fun ty dc =>
    run_copyK W1 ty S (i * 3) (n + 1 - i) dc ⟨vb, 0, none⟩ 1 1 1 ct (by simp only [Nat.min_def]; split <;> omega) (by omega)
      (fun j v hj => by
        rw [add_oo, Nat.zero_add, hc1 vb j hvw, hX.cell j]
        simpa using hj)
      (fun j hj => by rw [hS.cellAt _ (by omega), List.getElem?_eq_getElem (by omega)]; rfl) (fun j hj => hS.frozenAt _) h1
  obtain ⟨W2, hW2⟩ : ∃ W2, W2 = W1.setCells S (i * 3) ct := ⟨_, rfl⟩
  rw [← hW2] at hcpA
  have hr2 : W2.ownsRow 0 40 3 (.slice (some ⟨S, 0, none⟩) (n + 1) G) (n + 1) (spl Y (i * 3) ct) := by
    rw [hW2]
    exact row_setCells ct W1 Y _ hS
  have hC2 : ChgL [S] W1 W2 := by
    rw [hW2]
    exact chgL_setCells S ct W1 _
  have hl2 : (spl Y (i * 3) ct).length = (n + 1) * 3 := hr2.1
  have hcpB : ∀ ty dc sc, (Builtin.copy_ #[25, 25] ty #[.slice (some ⟨S, (i + 1) * 3, none⟩) (n - i) dc, .slice (some ⟨g, i * 3, none⟩) (n - i) sc]).run Try.prog W2.drew = .ok (goInt ((n - i : Nat) : Int)) (W2.drew.setCells S ((i + 1) * 3) (X.drop (i * 3))) := fun ty dc sc =>
    run_copyK W2.drew ty S ((i + 1) * 3) (n - i) dc ⟨g, i * 3, none⟩ (n - i) sc (n - i) (X.drop (i * 3)) (by simp only [Nat.min_def]; split <;> omega) hdl
      (fun j v hj => by
        have hb := hC2.block g (Nat.lt_of_lt_of_le hgw b01.size) (by simp; exact hgS)
        have e9 : W2.drew.cell? ⟨g, i * 3 + j, none⟩ = W1.cell? ⟨g, i * 3 + j, none⟩ := by
          show W2.cell? _ = _
          simp [World.cell?, hb]
        rw [add_oo, e9, hc1 g _ hgw]
        exact hcX (i * 3 + j) v (by rwa [List.getElem?_drop] at hj))
      (fun j hj => by
        have h9 : W2.cell? ⟨S, (i + 1) * 3 + j, none⟩ = _ := hr2.cellAt ((i + 1) * 3 + j) (by rw [hdl] at hj; have := Nat.sub_mul n i 3; omega)
        show (W2.cell? ⟨S, (i + 1) * 3 + j, none⟩).isSome = true
        rw [h9, List.getElem?_eq_getElem (by rw [hdl] at hj; have := Nat.sub_mul n i 3; omega)]; rfl) (fun j hj => hr2.frozenAt _) (fun v hv => h1X v (List.mem_of_mem_drop hv))
  obtain ⟨W3, hW3⟩ : ∃ W3, W3 = W2.drew.setCells S ((i + 1) * 3) (X.drop (i * 3)) := ⟨_, rfl⟩
  rw [← hW3] at hcpB
  have HP : Hid (InsPost (.slice (some ⟨g, 0, none⟩) n cap) n i ce ct w (.returned (.slice (some ⟨S, 0, none⟩) (n + 1) G)) W3) := ⟨_, rfl, by
    have h9 := row_setCells (X.drop (i * 3)) W2.drew _ ((i + 1) * 3) (show W2.drew.ownsRow 0 40 3 (.slice (some ⟨S, 0, none⟩) (n + 1) G) (n + 1) (spl Y (i * 3) ct) from hr2)
    rw [spl_grow hXl hYl hct (by omega) hYX, hXe, catN_parts hlen (by omega) ct, ← hXe, ← hW3] at h9
    exact h9, fun b hb => .inr (by simp [Value.ownBlock] at hb; omega), by
      have hd : ChgL [S] W2 W2.drew := ⟨rfl, rfl, rfl, Nat.le_refl _, fun _ _ _ => rfl⟩
      have hC3 : ChgL [S] W1 W3 := by
        rw [hW3]
        exact (hC2.trans hd).trans (chgL_setCells S _ W2.drew _)
      exact ⟨b01.os.symm ▸ hC3.os, b01.tape.symm ▸ hC3.tape, b01.output.symm ▸ hC3.output, Nat.le_trans b01.size hC3.size, fun b hb _ => (hC3.block b (Nat.lt_of_lt_of_le hb b01.size) (by simp; omega)).trans (b01.block b hb)⟩⟩
  have hs1 : ∀ w', (Instr.slice 25 (.slice (some ⟨g, 0, none⟩) n cap) (some (.int .i64 (i : Int))) none none).run Try.prog w' = .ok (.slice (some ⟨g, i * 3, none⟩) (n - i) (cap - i)) w' := fun w' => by
    have := run_from9 g n cap i (by omega) w'
    rw [if_neg (by omega)] at this
    exact this
  have hs2 : ∀ w', (Instr.slice 25 (.slice (some ⟨g, 0, none⟩) n cap) none (some (.int .i64 (i : Int))) none).run Try.prog w' = .ok (.slice (some ⟨g, 0, none⟩) i cap) w' := fun w' => run_upto9 g n cap i (by omega) hnc w'
  have hs3 : ∀ w', (Instr.slice 25 (.slice (some ⟨S, 0, none⟩) (n + 1) G) (some (.int .i64 (i : Int))) none none).run Try.prog w' = .ok (.slice (some ⟨S, i * 3, none⟩) (n + 1 - i) (G - i)) w' := fun w' => by
    have := run_from9 S (n + 1) G i (by omega) w'
    rw [if_neg (by omega)] at this
    exact this
  have hs4 : ∀ w', (Instr.slice 25 (.slice (some ⟨S, 0, none⟩) (n + 1) G) (some (.int .i64 ((i : Int) + 1))) none none).run Try.prog w' = .ok (.slice (some ⟨S, (i + 1) * 3, none⟩) (n - i) (G - (i + 1))) w' := fun w' => by
    have := run_from9 S (n + 1) G (i + 1) (by omega) w'
    rw [if_neg (by omega), show n + 1 - (i + 1) = n - i by omega] at this
    exact this
  have hz1 : ¬ ((1 : Int) = 0) := by omega
  have hz2 : ¬ ((i : Int) = (n : Int)) := by omega
  have hw1 : IntKind.i64.wrap ((i : Int) + 1) = (i : Int) + 1 := by rw [IntKind.wrap_i64]; omega
  have hw2 : IntKind.i64.wrap ((n : Int) + 1) = (n : Int) + 1 := by rw [IntKind.wrap_i64]; omega
  have hw3 : IntKind.i64.wrap ((n : Int) + 1 - (i : Int)) = (n : Int) + 1 - (i : Int) := by rw [IntKind.wrap_i64]; omega
  have hg1 : (cap : Int) < (n : Int) + 1 := by omega
  clear V hX hct h1 hlen hrow hXl hXe hdl htl hcX h1X hi0 hz0 hzs hzb hik hold hG hROW hRl hS hYX hW1 b01 hSe hgS hvS hYe hYl hc1 hW2 hr2 hC2 hl2 hW3
  go_enter Try.func24, Try.ntmps24
  go_wp2_with (first | (at_builtin; refine wp_runZ rfl (.tmp 34) (.tmp 39) rfl ?_ ?_ hrz ?_; (simp [Act.eval]); (simp [Act.eval])) | (at_builtin; refine wp_runC rfl (.tmp 43) (.tmp 44) rfl ?_ ?_ (hcpA _ _) ?_; (simp [Act.eval]); (simp [Act.eval])))
  go_region_law (refine step_runC rfl (.tmp 50) (.tmp 53) rfl ?_ ?_ (hcpB _ _ _) ?_; (simp [Act.eval, Act.put]); (simp [Act.eval, Act.put]))
  all_goals
    go_wp2
    go_ret
    exact HP.out
/-- slices.Insert of one thing -/
theorem insert_any (v : Value) (n i : Nat) (ce : Nat → List Value) (vb : Nat) (ct : List Value) (w : World) (V : View (layRaw 3) 40 w 0 0 v n ce ce) (hct : ct.length = 3) (h1 : ∀ u, u ∈ ct → u.oneCell' = true) (hX : Box w vb ct.toArray 40) (hvb : v.ownBlock ≠ some vb) (hi : i ≤ n) (hn : n ≤ 1100000) :
    Calls Try.prog 24 #[v, .int .i64 (i : Int), .slice (some ⟨vb, 0, none⟩) 1 1] w (InsPost v n i ce ct w) := by
  by_cases c : i = n
  · subst c
    exact insert_end v i ce vb ct w V hct h1 hX hn
  · rcases V.form2 with ⟨rfl, h0⟩ | ⟨g, cap, rfl, hnc, hg⟩
    · omega
    · have hne : vb ≠ g := fun h => hvb (by rw [h]; rfl)
      by_cases hr : n + 1 ≤ cap
      · exact insert_shift g cap n i ce vb ct w V hct h1 hX hne (by omega) hr hn
      · exact insert_grow g cap n i ce vb ct w V hct h1 hX hne (by omega) (by omega) hn
end Go.Proofs.Ytapnjoophlckoaa

namespace Go.Proofs.Ytapnjoophlckoaa
open Go.RowKit
set_option linter.unusedVariables false
theorem step_callv {ops : Array Oper} {o : Oper} {a : Act} {w : World} {K : Act → World → Prop} {Q : Exit → Act → World → Prop} {E : Prop}
    (hw : Region.wanted o (yielded ops a.tmps) = true) (x : Operand) (n : Nat) (caps : Array Value) (args : Array Operand) (ty : Array TypeId) (hop : o.op = Op.call { callee := Callee.value x, args := args, argTypes := ty }) (hx : a.eval x = .func (.func n) #[] caps) (vals : Array Value) (hv : args.map a.eval = vals)
    {fn : Func} (hfn : Try.prog.funcs[n]? = some fn) (hnm : (fn.name == "runtime.NumGoroutine") = false) (hbd : fn.body.isSome = true)
    {R : Ending → World → Prop} (hc : Calls Try.prog n (vals ++ caps) w R) (hK : ∀ e w', R e w' → ∃ v, e = .returned v ∧ K (a.put o.dst v) w') :
    if Region.wanted o (yielded ops a.tmps) = true then Oper.wp Try.prog o a w K Q else E := by
  have hn' : ¬ fn.name = "runtime.NumGoroutine" := by simpa using hnm
  have hb' : ¬ fn.body = none := by intro h; rw [h] at hbd; cases hbd
  rw [if_pos hw]
  unfold Oper.wp
  simp [execOp, hop, hx, resolve, invoke, Result.andThen, Deferred.ofValue, callFunc, Oper.upon, hv, hfn, hn', hb']
  refine hc.mono fun e w' h => ?_
  obtain ⟨v, rfl, hk⟩ := hK e w' h
  exact hk
end Go.Proofs.Ytapnjoophlckoaa

namespace Go.Proofs.Ytapnjoophlckoaa
open Go.RowKit F256
set_option linter.unusedVariables false
set_option linter.unusedSimpArgs false
set_option maxHeartbeats 16000000 in
set_option maxRecDepth 100000 in
theorem index_put (g cap n lo hi : Nat) (x : Nat → List Value) (ce : Nat → List Value) (a0 : Nat) (del : Nat → Bool) (w : World) (hV : View (layRaw 3) 40 w lo hi (.slice (some ⟨g, 0, none⟩) n cap) n x ce) (hhi : hi ≤ w.heap.size) (hn : n ≤ 1048576) (CD : ∀ k, k < n → ∀ w', ChgL [g] w w' → Calls Try.prog 23 #[.agg (ce k).toArray, .pointer (some ⟨a0, 0, none⟩)] w' (fun e w'' => e = .returned (.bool (del k)) ∧ Below w'.heap.size w' w'')) :
    Calls Try.prog 22 #[.slice (some ⟨g, 0, none⟩) n cap, .func (.func 23) #[] #[.pointer (some ⟨a0, 0, none⟩)]] w fun e w' => ((e = .returned (.int .i64 (-1)) ∧ ∀ i, i < n → del i = false) ∨ ∃ i : Nat, i < n ∧ e = .returned (.int .i64 (i : Int)) ∧ del i = true ∧ ∀ t, t < i → del t = false) ∧ Below w.heap.size w w' := by
  have HV : Hid (View (layRaw 3) 40 w lo hi (.slice (some ⟨g, 0, none⟩) n cap) n x ce) := hV
  have HCD : Hid (∀ k, k < n → ∀ w', ChgL [g] w w' → Calls Try.prog 23 #[.agg (ce k).toArray, .pointer (some ⟨a0, 0, none⟩)] w' (fun e w'' => e = .returned (.bool (del k)) ∧ Below w'.heap.size w' w'')) := CD
  clear hV CD
  go_enter Try.func22, Try.ntmps22
  go_wp2
  go_loopw [8] (fun z wr => ∃ k : Nat, k ≤ n ∧ z = .int .i64 k ∧ (∀ t, t < k → del t = false) ∧ Below w.heap.size w wr) (fun z _ => n - (intOf z).toNat)
  case atStart => exact ⟨0, Nat.zero_le _, rfl, fun t ht => by omega, Below.refl _ _⟩
  case round =>
    obtain ⟨k, hk, rfl, hall, hbl⟩ := hrel
    obtain ⟨wx, rfl⟩ : ∃ y, y = wr := ⟨_, rfl⟩
    have HALL : Hid (∀ t, t < k → del t = false) := hall
    have HBL : Hid (Below w.heap.size w wx) := hbl
    have zx := hbl.size
    clear hall
    by_cases hlt : k < n
    · have VX := HV.out.below hbl hhi
      have rgK : wx.rangeAt g (k * 3) (ce k) := VX.range hlt
      have hcK : (ce k).length = 3 := VX.lens k hlt
      have CS := HCD.out k hlt wx (ChgL.of_below hbl)
      obtain ⟨cK, hcKe⟩ : ∃ c, c = ce k := ⟨_, rfl⟩
      rw [← hcKe] at rgK hcK CS
      obtain ⟨t, ht⟩ : ∃ t, t = del k := ⟨_, rfl⟩
      rw [← ht] at CS
      have HT : Hid (t = del k) := ht
      have i1 : (0 : Int) ≤ (k : Int) := by omega
      have i2 : (k : Int) < (n : Int) := by omega
      clear hbl hcKe VX ht
      go_wp2_with (refine wpList_load_mid rfl 40 (.tmp 14) rfl g (k * 3) (by simp [Act.eval]) cK _ rgK Try.underlying40 rfl (info_Thing3 hcK) ?_)
      refine CS.mono ?_
      rintro e w5 ⟨rfl, b5⟩
      have B5 : Hid (Below w.heap.size w w5) := HBL.out.trans (b5.mono zx)
      clear b5 CS rgK
      cases t with
      | true =>
        go_wp2
        go_ret
        exact ⟨.inr ⟨k, hlt, rfl, HT.out.symm, HALL.out⟩, B5.out⟩
      | false =>
        go_wp2
        go_roundw
        case rel => exact ⟨k + 1, by omega, by go_num, fun t ht => by
                      by_cases c : t = k
                      · rw [c]; exact HT.out.symm
                      · exact HALL.out t (by omega), B5.out⟩
        case measure => simp [intOf]; omega
    · obtain rfl : k = n := by omega
      clear hbl
      go_wp2
      go_ret
      exact ⟨.inl ⟨rfl, HALL.out⟩, HBL.out⟩
theorem calls_app0 {f : Nat} {args : Array Value} {w : World} {R : Ending → World → Prop} (h : Calls Try.prog f args w R) : Calls Try.prog f (args ++ #[]) w R := by simpa using h
set_option maxHeartbeats 8000000 in
set_option maxRecDepth 20000 in
theorem indexNoneT (ao : Option Addr) (cap : Nat) (fv : Value) (w : World) : Calls Try.prog 22 #[.slice ao 0 cap, fv] w fun e w' => e = .returned (.int .i64 (-1)) ∧ w' = w := by
  go_enter Try.func22, Try.ntmps22
  go_wp2
  go_loop [8] (fun z => z = .int .i64 0) (fun _ => 0)
  case atStart => rfl
  case round =>
    subst hrel
    go_wp2
    go_ret
    exact ⟨rfl, rfl⟩
set_option maxHeartbeats 8000000 in
set_option maxRecDepth 20000 in
theorem put1_any (a0 : Nat) (bn na : ByteArray) (l : Bool) (o : Option Addr) (m c : Nat) (w : World) (h0 : w.cell? ⟨a0, 0, none⟩ = some (.string bn)) (hl : a0 < w.heap.size) :
    Calls Try.prog 23 #[.agg #[.string na, .bool l, .slice o m c], .pointer (some ⟨a0, 0, none⟩)] w fun e w' => e = .returned (.bool (!leS na bn)) ∧ Below w.heap.size w w' := by
  obtain ⟨lt, hlt1⟩ : ∃ t, Op.bytesLess na.toList bn.toList = t := ⟨_, rfl⟩
  obtain ⟨eq, heq1⟩ : ∃ t, (na.toList == bn.toList) = t := ⟨_, rfl⟩
  have heq2 : decide (na.toList = bn.toList) = eq := by rw [← heq1, Bool.eq_iff_iff]; simp
  have T0 := one_new w #[.string na, .bool l, .slice o m c] 40
  have h1 : (w.alloc (.cells #[.string na, .bool l, .slice o m c] 40)).cell? ⟨a0, 0, none⟩ = some (.string bn) := (T0.bel.cell (p := ⟨a0, 0, none⟩) hl).trans h0
  have HB : Hid (Below w.heap.size w (w.alloc (.cells #[.string na, .bool l, .slice o m c] 40))) := T0.bel
  clear T0
  unfold leS
  rw [hlt1, heq1]
  cases lt <;> cases eq
  all_goals
    go_enter Try.func23, Try.ntmps23
    go_wp2
    go_ret
    exact ⟨rfl, HB.out⟩
/-- where the name is to stand, as the program finds it -/
theorem index_thing {w : World} {m : Nat} {y : Nat → ThingD} {ce : Nat → List Value} {Ls : Nat → List Nat} {ar : Option Addr} {cr : Nat} (V : View (layRaw 3) 40 w 0 0 (.slice ar m cr) m ce ce) (he : ∀ i, i < m → layThing.own w (y i) (ce i) (Ls i)) (hn : m ≤ 1048576) (a0 : Nat) (bn : ByteArray) (h0 : w.cell? ⟨a0, 0, none⟩ = some (.string bn)) (hl0 : a0 < w.heap.size) (hk0 : (Value.slice ar m cr).ownBlock ≠ some a0) {at_ : Nat} (hA : AtP m y bn at_) :
    Calls Try.prog 22 #[.slice ar m cr, .func (.func 23) #[] #[.pointer (some ⟨a0, 0, none⟩)]] w fun e w' => ((e = .returned (.int .i64 (-1)) ∧ at_ = m) ∨ (e = .returned (.int .i64 (at_ : Int)) ∧ at_ < m)) ∧ Below w.heap.size w w' := by
  by_cases h9 : m = 0
  · subst h9
    refine (indexNoneT ar cr _ w).mono ?_
    rintro e w' ⟨rfl, rfl⟩
    exact ⟨.inl ⟨rfl, by have := hA.le; omega⟩, Below.refl _ _⟩
  · rcases V.form2 with ⟨_, h0⟩ | ⟨g, cap, e9, hnc, hg⟩
    · exact absurd h0 h9
    · cases e9
      have hg0 : a0 ≠ g := fun hh => hk0 (by rw [hh]; rfl)
      refine (index_put g cr m 0 0 ce ce a0 (fun i => !leS (y i).name bn) w V (Nat.zero_le _) hn (fun k hk w' hc => ?_)).mono ?_
      · obtain ⟨o2, c2, e2⟩ := Thing_cellsO (he k hk)
        rw [e2]
        exact put1_any a0 bn _ _ _ _ _ w' (by
          have hb := hc.block a0 hl0 (by simp; exact hg0)
          have e9 : w'.cell? ⟨a0, 0, none⟩ = w.cell? ⟨a0, 0, none⟩ := by simp [World.cell?, hb]
          rw [e9]; exact h0) (Nat.lt_of_lt_of_le hl0 hc.size)
      rintro e w' ⟨hc, hb⟩
      refine ⟨?_, hb⟩
      rcases hc with ⟨rfl, hall⟩ | ⟨i, hi, rfl, hd, hbef⟩
      · refine .inl ⟨rfl, ?_⟩
        exact hA.one ⟨Nat.le_refl _, fun t ht => by have := hall t ht; simpa using this, fun h => by omega⟩
      · have : at_ = i := hA.one ⟨by omega, fun t ht => by have := hbef t ht; simpa using this, fun _ => by simpa using hd⟩
        subst this
        exact .inr ⟨rfl, hi⟩
set_option maxHeartbeats 8000000 in
set_option maxRecDepth 20000 in
theorem implPut_any (p : Nat × (Nat → ThingD)) (bn : ByteArray) (q : Nat × (Nat → Nat)) (at_ : Nat) (v u : Value) (h1 h2 : Nat) (w : World) (r0 : (layThing.slice 40).rd w h1 p [v]) (r2 : layBytes.rd w h2 q [u]) (u1 : h1 ≤ w.heap.size) (u2 : h2 ≤ w.heap.size) (hsz : szSl szThingD p ≤ 1048576) (hbs : bn.size ≤ 1048576) (hbb : q.1 ≤ 1048576) (hA : AtP (dropL p bn).1 (dropL p bn).2 bn at_) :
    Calls Try.prog 10 #[v, .string bn, u] w fun e w' => ∃ v', e = .returned v' ∧ OwnT (layThing.slice 40) w' w.heap.size w'.heap.size (putL p bn q at_) [v'] ∧ Below w.heap.size w w' := by
  have hn1 := szSl_n hsz
  obtain ⟨ao, cap, hv⟩ := sl_form r0
  obtain rfl := one_eq hv
  obtain ⟨bo, bc, hv'⟩ := bytes_form r2
  obtain rfl := one_eq hv'
  have T0 := one_new w #[.string bn] 9
  have CD := implDrop_any p bn _ h1 _ ((layThing.slice 40).rd_below r0 T0.bel u1) (Nat.le_trans u1 T0.bel.size) hsz
  have hm0 : (dropL p bn).1 ≤ p.1 := kept_le _ _
  unfold putL
  obtain ⟨⟨m, y⟩, hD⟩ : ∃ d, d = dropL p bn := ⟨_, rfl⟩
  rw [← hD] at CD hA hm0 ⊢
  simp only at hA hm0
  have R2 : Hid (layBytes.rd w h2 q [.slice bo q.1 bc]) := r2
  have hat : at_ ≤ m := hA.le
  have HA : Hid (AtP m y bn at_) := hA
  have HT0 : Hid (One w (w.alloc (.cells #[.string bn] 9)) #[.string bn] 9) := T0
  clear r0 r2 hv hv' hsz hD hA T0
  go_enter Try.func10, Try.ntmps10
  go_wp2_with fail
  refine CD.mono ?_
  rintro e w1 ⟨vr, rfl, ⟨L, k1, k2, k3⟩, b1⟩
  obtain ⟨vr', ce, Ls, e1, rfl, hr, he⟩ := k1
  obtain rfl := one_eq e1
  have T1 := HT0.out.call b1
  have za : (w.alloc (.cells #[.string bn] 9)).heap.size = w.heap.size + 1 := by simp
  obtain ⟨ar, cr, hvr⟩ : ∃ a c, vr = .slice a m c := by
    rcases hr.2 with ⟨hv, hn⟩ | ⟨g, cap, cur, rfl, _⟩
    · exact ⟨none, 0, by rw [hv, show m = 0 from hn]⟩
    · exact ⟨_, _, rfl⟩
  subst hvr
  have V1 : View (layRaw 3) 40 w1 0 0 (.slice ar m cr) m ce ce := raw_view hr he
  have hne : (Value.slice ar m cr).ownBlock ≠ some w.heap.size := fun h => by
    have h7 : w.heap.size ∈ (Value.slice ar m cr).ownBlock.toList ++ catN m Ls := List.mem_append_left _ (by rw [h]; simp)
    have := (k3 _ h7).1
    omega
  have CX := index_thing V1 he (by omega) w.heap.size bn (T1.b1.cell 0) T1.b1.lt hne HA.out
  clear CD e1
  go_wp2_with fail
  refine CX.mono ?_
  rintro e w2 ⟨hcase, b2⟩
  have T2 := T1.call b2
  have z1 := T1.b1.lt
  have z2 := b2.size
  have bD : Below w1.heap.size w1 w2.drew := b2.trans (show Below w1.heap.size w2 w2.drew from ⟨rfl, rfl, rfl, Nat.le_refl _, fun _ _ => rfl⟩)
  have HTD : Hid (One w w2.drew #[.string bn] 9) := T2.call (show Below w2.heap.size w2 w2.drew from ⟨rfl, rfl, rfl, Nat.le_refl _, fun _ _ => rfl⟩)
  obtain ⟨D, hDe⟩ : ∃ D, D = w2.drew := ⟨_, rfl⟩
  have HD : Hid (D = w2.drew) := hDe
  rw [← hDe] at bD HTD
  have zD : D.heap.size = w2.heap.size := by rw [hDe]; rfl
  have n9 : D.cell? ⟨w.heap.size, 0, none⟩ = some (.string bn) := HTD.out.b1.cell 0
  have n2 : w2.cell? ⟨w.heap.size, 0, none⟩ = some (.string bn) := T2.b1.cell 0
  have hpD : w.heap.size < D.heap.size := HTD.out.b1.lt
  have zwD : w.heap.size ≤ D.heap.size := by omega
  have HR : Hid (D.ownsRow 0 40 layThing.sz (.slice ar m cr) m (catN m ce)) := (V1.below bD (Nat.zero_le _)).row
  have HE : Hid (∀ i, i < m → layThing.own D (y i) (ce i) (Ls i)) := fun i hi => layThing.own_kept (he i hi) (fun b hb => bD.block b (layThing.own_lt (he i hi) b hb))
  have HND : Hid (((Value.slice ar m cr).ownBlock.toList ++ catN m Ls).Nodup) := k2
  have HLO : Hid (∀ b, b ∈ (Value.slice ar m cr).ownBlock.toList ++ catN m Ls → w.heap.size ≤ b) := fun b hb => by have := (k3 b hb).1; omega
  have V9 : Hid (View (layRaw 3) 40 D 0 0 (.slice ar m cr) m ce ce) := V1.below bD (Nat.zero_le _)
  have HBD : Hid (Below w.heap.size w D) := HTD.out.bel
  have CB : Hid (Calls Try.prog 25 #[.slice bo q.1 bc] D fun e w' => ∃ v', e = .returned v' ∧ OwnT layBytes w' D.heap.size w'.heap.size q [v'] ∧ Below D.heap.size D w') := copyBytes_is _ q h2 D (layBytes.rd_below R2.out HTD.out.bel u2) (by omega) hbb
  clear CX b1 b2 T1 T2 hDe bD HTD hr he k2 k3 V1 hne za R2
  rcases hcase with ⟨rfl, hm⟩ | ⟨rfl, hm⟩
  · have hneg : ((-1 : Int) < 0) := by omega
    subst hm
    go_upto_region 5 with fail
    refine wp_region_M 6 (fun w' => w'.cell? ⟨w.heap.size, 0, none⟩ = some (.string bn)) mixedO (by rw [← HD.out]; exact n9) (fun hHeld => ?_)
    rw [← HD.out] at hHeld ⊢
    refine wpAnyM_pure (i := 0) (oi := _) (v := ?_) rfl (by kernel_rfl) (fun _ _ _ h => h) (Or.inl ⟨by kernel_rfl, ?_⟩) (by assumption) ?_
    rotate_left
    · intro w' hSw
      go_simp
      try with_reducible rfl
    try simp only [List.getElem_toArray, List.getElem_cons_succ, List.getElem_cons_zero, Act.put, List.setIfInBounds_toArray, List.set_cons_zero, List.set_cons_succ]
    refine wpAnyM_pure (i := 1) (oi := _) (v := ?_) rfl (by kernel_rfl) (fun _ _ _ h => h) (Or.inl ⟨by kernel_rfl, ?_⟩) (by assumption) ?_
    rotate_left
    · intro w' hSw
      go_simp
      try with_reducible rfl
    try simp only [List.getElem_toArray, List.getElem_cons_succ, List.getElem_cons_zero, Act.put, List.setIfInBounds_toArray, List.set_cons_zero, List.set_cons_succ]
    refine wpAnyM_take (i := 2) (oi := _) (v := ?_) 16 rfl (by kernel_rfl) (fun _ _ _ h => h) (Or.inl ⟨by kernel_rfl, ?_⟩) (by assumption) ?_
    rotate_left
    · intro w' hSw
      try dsimp only at hSw
      have hname := hSw
      go_simp
      try with_reducible rfl
    try simp only [List.getElem_toArray, List.getElem_cons_succ, List.getElem_cons_zero, Act.put, List.setIfInBounds_toArray, List.set_cons_zero, List.set_cons_succ]
    refine wpAnyM_pure (i := 3) (oi := _) (v := ?_) rfl (by kernel_rfl) (fun _ _ _ h => h) (Or.inl ⟨by kernel_rfl, ?_⟩) (by assumption) ?_
    rotate_left
    · intro w' hSw
      go_simp
      try with_reducible rfl
    try simp only [List.getElem_toArray, List.getElem_cons_succ, List.getElem_cons_zero, Act.put, List.setIfInBounds_toArray, List.set_cons_zero, List.set_cons_succ]
    refine wpAnyM_oneS (i := 4) (o := _) rfl (by kernel_rfl) (fun KC hKC => ?_)
    refine step_callv (by kernel_rfl) (.func 25) 25 #[] _ _ rfl (by simp [Act.eval, Act.put]) #[.slice bo q.1 bc] (by simp [Act.eval, Act.put]) Try.func25 (by kernel_rfl) (by kernel_rfl) (calls_app0 (CB.out)) ?_
    rintro e w5 ⟨v5, rfl, o5, b5⟩
    refine ⟨_, rfl, ?_⟩
    have n5 : w5.cell? ⟨w.heap.size, 0, none⟩ = some (.string bn) := (b5.cell (p := ⟨w.heap.size, 0, none⟩) hpD).trans n9
    obtain ⟨bo2, bc2, hv5⟩ := bytes_formT o5
    obtain rfl := one_eq hv5
    refine hKC _ _ n5 ?_
    clear hKC KC hv5
    try simp only [List.getElem_toArray, List.getElem_cons_succ, List.getElem_cons_zero, Act.put, List.setIfInBounds_toArray, List.set_cons_zero, List.set_cons_succ]
    refine wpAnyM_pure (i := 5) (oi := _) (v := ?_) rfl (by kernel_rfl) (fun _ _ _ h => h) (Or.inl ⟨by kernel_rfl, ?_⟩) (by assumption) ?_
    rotate_left
    · intro w' hSw
      go_simp
      try with_reducible rfl
    try simp only [List.getElem_toArray, List.getElem_cons_succ, List.getElem_cons_zero, Act.put, List.setIfInBounds_toArray, List.set_cons_zero, List.set_cons_succ]
    refine wpAnyM_one (i := 6) (o := _) rfl (by kernel_rfl) (by kernel_rfl) (fun KC hKC => ?_)
    refine step_build1T rfl (.tmp 24) rfl bn false bo2 q.1 bc2 (by simp [Act.eval, Act.put]) ?_
    have b6 : Below w5.heap.size w5 (w5.alloc (.cells #[.string bn, .bool false, .slice bo2 q.1 bc2] 40)) := (Below.refl _ _).alloc (Nat.le_refl _) _
    have X6 : Box (w5.alloc (.cells #[.string bn, .bool false, .slice bo2 q.1 bc2] 40)) w5.heap.size ([.string bn, .bool false, .slice bo2 q.1 bc2] : List Value).toArray 40 := box_new _ _ _
    have z5 := b5.size
    have V6 : View (layRaw 3) 40 (w5.alloc (.cells #[.string bn, .bool false, .slice bo2 q.1 bc2] 40)) 0 0 (.slice ar at_ cr) at_ ce ce := (V9.out.below b5 (Nat.zero_le _)).below b6 (Nat.zero_le _)
    have CN := insert_any (.slice ar at_ cr) at_ at_ ce w5.heap.size [.string bn, .bool false, .slice bo2 q.1 bc2] _ V6 rfl (fun u hu => by
      simp only [List.mem_cons, List.not_mem_nil, or_false] at hu
      rcases hu with rfl | rfl | rfl <;> rfl) X6 (fun h => by have := (HR.out.lt _ h).2; omega) hat (by omega)
    refine hKC _ _ ?_
    clear hKC KC
    try simp only [List.getElem_toArray, List.getElem_cons_succ, List.getElem_cons_zero, Act.put, List.setIfInBounds_toArray, List.set_cons_zero, List.set_cons_succ]
    obtain ⟨W6, hW6⟩ : ∃ x, x = w5.alloc (.cells #[.string bn, .bool false, .slice bo2 q.1 bc2] 40) := ⟨_, rfl⟩
    rw [← hW6] at b6 X6 V6 CN ⊢
    clear hW6
    refine wpAnyM_one (i := 7) (o := _) rfl (by kernel_rfl) (by kernel_rfl) (fun KC hKC => ?_)
    refine step_callv (by kernel_rfl) (.func 24) 24 #[] _ _ rfl (by simp [Act.eval, Act.put]) #[.slice ar at_ cr, .int .i64 (at_ : Int), .slice (some ⟨w5.heap.size, 0, none⟩) 1 1] (by simp [Act.eval, Act.put]) Try.func24 (by kernel_rfl) (by kernel_rfl) (calls_app0 (CN)) ?_
    rintro e w8 ⟨v8, rfl, hrow, hblk, hch⟩
    refine ⟨_, rfl, ?_⟩
    refine hKC _ _ ?_
    clear hKC KC
    try simp only [List.getElem_toArray, List.getElem_cons_succ, List.getElem_cons_zero, Act.put, List.setIfInBounds_toArray, List.set_cons_zero, List.set_cons_succ]
    refine wpAnyM_pureL (i := 8) (oi := _) (v := ?_) rfl (by kernel_rfl) (fun _ _ _ h => h) (Or.inl ⟨by kernel_rfl, ?_⟩) ?_
    rotate_left
    · intro w' hSw
      go_simp
      try with_reducible rfl
    try simp only [List.getElem_toArray, List.getElem_cons_succ, List.getElem_cons_zero, Act.put, List.setIfInBounds_toArray, List.set_cons_zero, List.set_cons_succ]
    refine wpAnyM_done (by kernel_rfl) ?_ _
    have HF1 : Hid (OwnT (layThing.slice 40) w8 w.heap.size w8.heap.size (putD (at_, y) bn q at_) [v8]) := put_own (w1 := D) (w2 := w5) (D := W6) (lo := w.heap.size) HR.out HE.out HND.out HLO.out zwD o5 (by unfold maxLen; omega) b5 b6 hat hrow hblk (fun b hb hn => hch.block b hb (fun h => hn (by simpa using h)))
    have b8 : Below w.heap.size W6 w8 := hch.bel (fun b hb => HLO.out b (List.mem_append_left _ hb)) (by have := b6.size; omega)
    have HF2 : Hid (Below w.heap.size w w8) := HBD.out.trans (((b5.mono zwD).trans (b6.mono (by omega))).trans b8)
    clear hrow hblk hch CN o5 b5 b6 b8 X6 V6 hHeld n9 n5
    go_wp2
    go_ret
    exact ⟨_, rfl, HF1.out, HF2.out⟩
  · have hpos : ¬ ((at_ : Int) < 0) := by omega
    go_upto_region 5 with fail
    refine wp_region_M 6 (fun w' => w'.cell? ⟨w.heap.size, 0, none⟩ = some (.string bn)) mixedO (by rw [← HD.out]; exact n9) (fun hHeld => ?_)
    rw [← HD.out] at hHeld ⊢
    refine wpAnyM_pure (i := 0) (oi := _) (v := ?_) rfl (by kernel_rfl) (fun _ _ _ h => h) (Or.inl ⟨by kernel_rfl, ?_⟩) (by assumption) ?_
    rotate_left
    · intro w' hSw
      go_simp
      try with_reducible rfl
    try simp only [List.getElem_toArray, List.getElem_cons_succ, List.getElem_cons_zero, Act.put, List.setIfInBounds_toArray, List.set_cons_zero, List.set_cons_succ]
    refine wpAnyM_pure (i := 1) (oi := _) (v := ?_) rfl (by kernel_rfl) (fun _ _ _ h => h) (Or.inl ⟨by kernel_rfl, ?_⟩) (by assumption) ?_
    rotate_left
    · intro w' hSw
      go_simp
      try with_reducible rfl
    try simp only [List.getElem_toArray, List.getElem_cons_succ, List.getElem_cons_zero, Act.put, List.setIfInBounds_toArray, List.set_cons_zero, List.set_cons_succ]
    refine wpAnyM_take (i := 2) (oi := _) (v := ?_) 16 rfl (by kernel_rfl) (fun _ _ _ h => h) (Or.inl ⟨by kernel_rfl, ?_⟩) (by assumption) ?_
    rotate_left
    · intro w' hSw
      try dsimp only at hSw
      have hname := hSw
      go_simp
      try with_reducible rfl
    try simp only [List.getElem_toArray, List.getElem_cons_succ, List.getElem_cons_zero, Act.put, List.setIfInBounds_toArray, List.set_cons_zero, List.set_cons_succ]
    refine wpAnyM_pure (i := 3) (oi := _) (v := ?_) rfl (by kernel_rfl) (fun _ _ _ h => h) (Or.inl ⟨by kernel_rfl, ?_⟩) (by assumption) ?_
    rotate_left
    · intro w' hSw
      go_simp
      try with_reducible rfl
    try simp only [List.getElem_toArray, List.getElem_cons_succ, List.getElem_cons_zero, Act.put, List.setIfInBounds_toArray, List.set_cons_zero, List.set_cons_succ]
    refine wpAnyM_oneS (i := 4) (o := _) rfl (by kernel_rfl) (fun KC hKC => ?_)
    refine step_callv (by kernel_rfl) (.func 25) 25 #[] _ _ rfl (by simp [Act.eval, Act.put]) #[.slice bo q.1 bc] (by simp [Act.eval, Act.put]) Try.func25 (by kernel_rfl) (by kernel_rfl) (calls_app0 (CB.out)) ?_
    rintro e w5 ⟨v5, rfl, o5, b5⟩
    refine ⟨_, rfl, ?_⟩
    have n5 : w5.cell? ⟨w.heap.size, 0, none⟩ = some (.string bn) := (b5.cell (p := ⟨w.heap.size, 0, none⟩) hpD).trans n9
    obtain ⟨bo2, bc2, hv5⟩ := bytes_formT o5
    obtain rfl := one_eq hv5
    refine hKC _ _ n5 ?_
    clear hKC KC hv5
    try simp only [List.getElem_toArray, List.getElem_cons_succ, List.getElem_cons_zero, Act.put, List.setIfInBounds_toArray, List.set_cons_zero, List.set_cons_succ]
    refine wpAnyM_pure (i := 5) (oi := _) (v := ?_) rfl (by kernel_rfl) (fun _ _ _ h => h) (Or.inl ⟨by kernel_rfl, ?_⟩) (by assumption) ?_
    rotate_left
    · intro w' hSw
      go_simp
      try with_reducible rfl
    try simp only [List.getElem_toArray, List.getElem_cons_succ, List.getElem_cons_zero, Act.put, List.setIfInBounds_toArray, List.set_cons_zero, List.set_cons_succ]
    refine wpAnyM_one (i := 6) (o := _) rfl (by kernel_rfl) (by kernel_rfl) (fun KC hKC => ?_)
    refine step_build1T rfl (.tmp 24) rfl bn false bo2 q.1 bc2 (by simp [Act.eval, Act.put]) ?_
    have b6 : Below w5.heap.size w5 (w5.alloc (.cells #[.string bn, .bool false, .slice bo2 q.1 bc2] 40)) := (Below.refl _ _).alloc (Nat.le_refl _) _
    have X6 : Box (w5.alloc (.cells #[.string bn, .bool false, .slice bo2 q.1 bc2] 40)) w5.heap.size ([.string bn, .bool false, .slice bo2 q.1 bc2] : List Value).toArray 40 := box_new _ _ _
    have z5 := b5.size
    have V6 : View (layRaw 3) 40 (w5.alloc (.cells #[.string bn, .bool false, .slice bo2 q.1 bc2] 40)) 0 0 (.slice ar m cr) m ce ce := (V9.out.below b5 (Nat.zero_le _)).below b6 (Nat.zero_le _)
    have CN := insert_any (.slice ar m cr) m at_ ce w5.heap.size [.string bn, .bool false, .slice bo2 q.1 bc2] _ V6 rfl (fun u hu => by
      simp only [List.mem_cons, List.not_mem_nil, or_false] at hu
      rcases hu with rfl | rfl | rfl <;> rfl) X6 (fun h => by have := (HR.out.lt _ h).2; omega) hat (by omega)
    refine hKC _ _ ?_
    clear hKC KC
    try simp only [List.getElem_toArray, List.getElem_cons_succ, List.getElem_cons_zero, Act.put, List.setIfInBounds_toArray, List.set_cons_zero, List.set_cons_succ]
    obtain ⟨W6, hW6⟩ : ∃ x, x = w5.alloc (.cells #[.string bn, .bool false, .slice bo2 q.1 bc2] 40) := ⟨_, rfl⟩
    rw [← hW6] at b6 X6 V6 CN ⊢
    clear hW6
    refine wpAnyM_one (i := 7) (o := _) rfl (by kernel_rfl) (by kernel_rfl) (fun KC hKC => ?_)
    refine step_callv (by kernel_rfl) (.func 24) 24 #[] _ _ rfl (by simp [Act.eval, Act.put]) #[.slice ar m cr, .int .i64 (at_ : Int), .slice (some ⟨w5.heap.size, 0, none⟩) 1 1] (by simp [Act.eval, Act.put]) Try.func24 (by kernel_rfl) (by kernel_rfl) (calls_app0 (CN)) ?_
    rintro e w8 ⟨v8, rfl, hrow, hblk, hch⟩
    refine ⟨_, rfl, ?_⟩
    refine hKC _ _ ?_
    clear hKC KC
    try simp only [List.getElem_toArray, List.getElem_cons_succ, List.getElem_cons_zero, Act.put, List.setIfInBounds_toArray, List.set_cons_zero, List.set_cons_succ]
    refine wpAnyM_pureL (i := 8) (oi := _) (v := ?_) rfl (by kernel_rfl) (fun _ _ _ h => h) (Or.inl ⟨by kernel_rfl, ?_⟩) ?_
    rotate_left
    · intro w' hSw
      go_simp
      try with_reducible rfl
    try simp only [List.getElem_toArray, List.getElem_cons_succ, List.getElem_cons_zero, Act.put, List.setIfInBounds_toArray, List.set_cons_zero, List.set_cons_succ]
    refine wpAnyM_done (by kernel_rfl) ?_ _
    have HF1 : Hid (OwnT (layThing.slice 40) w8 w.heap.size w8.heap.size (putD (m, y) bn q at_) [v8]) := put_own (w1 := D) (w2 := w5) (D := W6) (lo := w.heap.size) HR.out HE.out HND.out HLO.out zwD o5 (by unfold maxLen; omega) b5 b6 hat hrow hblk (fun b hb hn => hch.block b hb (fun h => hn (by simpa using h)))
    have b8 : Below w.heap.size W6 w8 := hch.bel (fun b hb => HLO.out b (List.mem_append_left _ hb)) (by have := b6.size; omega)
    have HF2 : Hid (Below w.heap.size w w8) := HBD.out.trans (((b5.mono zwD).trans (b6.mono (by omega))).trans b8)
    clear hrow hblk hch CN o5 b5 b6 b8 X6 V6 hHeld n9 n5
    go_wp2
    go_ret
    exact ⟨_, rfl, HF1.out, HF2.out⟩
end Go.Proofs.Ytapnjoophlckoaa

namespace Go.Proofs.Ytapnjoophlckoaa
open Go.RowKit F256
set_option linter.unusedVariables false
theorem sum_insF {β : Type} (f : β → Nat) (x : Nat → β) (a : β) (i : Nat) : ∀ k, sumN (fun j => f (insF x i a j)) (i + k + 1) = sumN (fun j => f (x j)) (i + k) + f a
  | 0 => by
    have h : ∀ n, n ≤ i → sumN (fun j => f (insF x i a j)) n = sumN (fun j => f (x j)) n := fun n => by
      induction n with
      | zero => intro _; rfl
      | succ n ih => intro hn; rw [sumN_succ, sumN_succ, ih (by omega), insF_lt x a (by omega)]
    show sumN (fun j => f (insF x i a j)) (i + 1) = sumN (fun j => f (x j)) i + f a
    rw [sumN_succ, h i (Nat.le_refl _), insF_at]
  | k + 1 => by
    have e : i + (k + 1) = i + k + 1 := by omega
    rw [sumN_succ, e, sum_insF f x a i k, sumN_succ]
    have e2 : insF x i a (i + k + 1) = x (i + k) := by
      have := insF_gt x i a k
      rw [show i + 1 + k = i + k + 1 by omega] at this
      exact this
    rw [e2]
    omega
theorem put_sz {p : Nat × (Nat → ThingD)} {bn : ByteArray} {q : Nat × (Nat → Nat)} {i : Nat} (h : szSl szThingD p ≤ 1048576) (h1 : bn.size ≤ 1048576) (h2 : q.1 ≤ 1048576) (hi : i ≤ (dropL p bn).1) : szSl szThingD (putL p bn q i) ≤ 4000000 := by
  have hd := drop_le p bn
  obtain ⟨d, hD⟩ : ∃ d, d = dropL p bn := ⟨_, rfl⟩
  unfold putL
  rw [← hD] at hd hi ⊢
  have hs := sum_insF szThingD d.2 ⟨bn, false, q⟩ i (d.1 - i)
  rw [show i + (d.1 - i) = d.1 by omega] at hs
  have e : szThingD ⟨bn, false, q⟩ = bn.size + q.1 := rfl
  unfold szSl putD
  unfold szSl at hd h
  simp only at hs ⊢
  omega
end Go.Proofs.Ytapnjoophlckoaa
