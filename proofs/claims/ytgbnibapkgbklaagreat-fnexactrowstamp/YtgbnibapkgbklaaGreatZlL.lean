/- For every world and both numbers the program's RowStamp answers as the specification's does and writes into nothing that it is handed: the law FnExactRowStamp returns true at every input, and changes nothing that was there. No condition. -/
import Derived.Test.YtgbnibapkgbklaaGreatRows
import Derived.Test.YtgbnibapkgbklaaGreatZlF
import Derived.Test.YtgbnibapkgbklaaGreatZkB
import Derived.Test.YtgbnibapkgbklaaGreatZkC
import Derived.Test.YtgbnibapkgbklaaGreatZkE
import Derived.Test.YtgbnibapkgbklaaGreatZlD
import Derived.Test.YtgbnibapkgbklaaGreatZkA
import Derived.Test.YtgbnibapkgbklaaGreatZlG
import Derived.Deep.DeepCutAuto
import Derived.Deep.RegionLaw
namespace Go.Proofs.YtgbnibapkgbklaaGreat
open Go.ChangeShapes Go.WideShapes Go.ChangeAt Go.RowKit F256
set_option linter.unusedVariables false
set_option linter.unusedSimpArgs false
theorem stamp_ex (d : WorldD) (g r : Int) : ∃ c v, StampAns d g r c v := by
  obtain ⟨x, hx⟩ := world_ex d
  have ha : ∃ x, AskAns d x := by
    by_cases h : x = 0
    · subst h
      cases hd : d.down with
      | true => exact ⟨9, .inr ⟨hx, .inl ⟨hd, rfl⟩⟩⟩
      | false => exact ⟨0, .inr ⟨hx, .inr ⟨hd, rfl⟩⟩⟩
    · exact ⟨x, .inl ⟨h, hx⟩⟩
  obtain ⟨y, hy⟩ := ha
  have hw : ∃ z, WhereAns d g r z := by
    by_cases h : y = 0
    · subst h
      by_cases h1 : WhP d.shape g r
      · by_cases h2 : HasP d.on.1 d.on.2 g
        · exact ⟨0, .inr ⟨hy, .inr ⟨h1, .inr ⟨h2, rfl⟩⟩⟩⟩
        · exact ⟨8, .inr ⟨hy, .inr ⟨h1, .inl ⟨h2, rfl⟩⟩⟩⟩
      · exact ⟨3, .inr ⟨hy, .inl ⟨h1, rfl⟩⟩⟩
    · exact ⟨y, .inl ⟨h, hy⟩⟩
  obtain ⟨z, hz⟩ := hw
  by_cases h : z = 0
  · subst h; exact ⟨0, _, .inr ⟨hz, rfl, rfl⟩⟩
  · exact ⟨z, 0, .inl ⟨h, hz, rfl⟩⟩
theorem stamp_det {d : WorldD} {g r c v : Int} {w : World} {f : Nat} {args : Array Value} (hq : StampAns d g r c v) (h : Calls Tryz.prog f args w fun e w' => ∃ c v, e = .returned (.agg #[.int .i64 c, .int .i64 v]) ∧ StampAns d g r c v ∧ Below w.heap.size w w') : Calls Tryz.prog f args w fun e w' => e = .returned (.agg #[.int .i64 c, .int .i64 v]) ∧ Below w.heap.size w w' :=
  h.mono fun e w' ⟨c', v', h1, h2, h3⟩ => ⟨by rw [h1, (hq.one h2).1, (hq.one h2).2], h3⟩
theorem info_Ir : (Tryz.prog.info? 45).map (fun i => (i.zero.map (·.cells), i.size)) = some (some #[.int .i64 0, .int .i64 0], 2) := by kernel_rfl
set_option maxHeartbeats 16000000 in
set_option maxRecDepth 20000 in
theorem fnExactRowStamp_walk (d : WorldD) (cs : List Value) (i0 : Int) (i1 : Int) (w : World) (rd0 : layWorld.rd w w.heap.size d cs) (hi0 : -9223372036854775808 ≤ i0 ∧ i0 ≤ 9223372036854775807) (hi1 : -9223372036854775808 ≤ i1 ∧ i1 ≤ 9223372036854775807) :
    Calls Tryz.prog 4 #[.agg cs.toArray, .int .i64 i0, .int .i64 i1] w fun e w' => e = .returned (.bool true) ∧ Below w.heap.size w w' := by
  obtain ⟨v0, v1, v2, v3, v4, v5, v6, v7, v8, vp0, vl0, vq0, vp1, vl1, vq1, vp2, vl2, vq2, v9, v10, vb, rfl⟩ := world15 rd0
  have HR : Hid (layWorld.rd w w.heap.size d [.int .i64 v0, .int .i64 v1, .int .i64 v2, .int .i64 v3, .int .i64 v4, .int .i64 v5, .int .i64 v6, .int .i64 v7, .int .i64 v8, .slice vp0 vl0 vq0, .slice vp1 vl1 vq1, .slice vp2 vl2 vq2, .int .i64 v9, .int .i64 v10, .bool vb]) := rd0
  clear rd0 hi0 hi1
  have T0 := one_new w #[.int .i64 v0, .int .i64 v1, .int .i64 v2, .int .i64 v3, .int .i64 v4, .int .i64 v5, .int .i64 v6, .int .i64 v7, .int .i64 v8, .slice vp0 vl0 vq0, .slice vp1 vl1 vq1, .slice vp2 vl2 vq2, .int .i64 v9, .int .i64 v10, .bool vb] 28
  go_enter Tryz.func4, Tryz.ntmps4
  go_wp2_with (refine wp_loadBox 28 (.tmp 3) rfl rfl (w.heap.size) rfl (cs := [.int .i64 v0, .int .i64 v1, .int .i64 v2, .int .i64 v3, .int .i64 v4, .int .i64 v5, .int .i64 v6, .int .i64 v7, .int .i64 v8, .slice vp0 vl0 vq0, .slice vp1 vl1 vq1, .slice vp2 vl2 vq2, .int .i64 v9, .int .i64 v10, .bool vb]) T0.b1 Tryz.underlying28 size_LW rfl ?_)
  refine (szWorld_is _ d w.heap.size 1048576 _ (layWorld.rd_below HR.out T0.bel (Nat.le_refl _)) T0.bel.size (by omega)).mono ?_
  rintro e w1 ⟨x, rfl, hx, b1⟩
  have T1 := T0.call b1
  have HT1 : Hid (One w w1 #[.int .i64 v0, .int .i64 v1, .int .i64 v2, .int .i64 v3, .int .i64 v4, .int .i64 v5, .int .i64 v6, .int .i64 v7, .int .i64 v8, .slice vp0 vl0 vq0, .slice vp1 vl1 vq1, .slice vp2 vl2 vq2, .int .i64 v9, .int .i64 v10, .bool vb] 28) := T1
  clear b1 T0
  rcases hx with rfl | ⟨hsz, hx⟩
  · clear T1
    go_wp2
    go_ret
    exact ⟨rfl, HT1.out.bel⟩
  have hx0 : ¬ x < 0 := by omega
  clear hx
  obtain ⟨cc, vv, hq⟩ := stamp_ex d i0 i1
  have CT : ∀ w', Below w1.heap.size w1 w' → Calls Tryz.prog 7 #[.agg #[.int .i64 v0, .int .i64 v1, .int .i64 v2, .int .i64 v3, .int .i64 v4, .int .i64 v5, .int .i64 v6, .int .i64 v7, .int .i64 v8, .slice vp0 vl0 vq0, .slice vp1 vl1 vq1, .slice vp2 vl2 vq2, .int .i64 v9, .int .i64 v10, .bool vb]] w' fun e w'' => ∃ cs', e = .returned (.agg cs'.toArray) ∧ OwnT layWorld w'' w'.heap.size w''.heap.size d cs' ∧ Below w'.heap.size w' w'' := fun w' hb =>
    toWorld_is _ d w.heap.size w' (layWorld.rd_below (layWorld.rd_below HR.out HT1.out.bel (Nat.le_refl _)) hb HT1.out.bel.size) (Nat.le_trans HT1.out.bel.size hb.size) hsz
  have CS := fun (cs' : List Value) (hi : Nat) (w' : World) (h1 : layWorld.rd w' hi d cs') (h2 : hi ≤ w'.heap.size) => stamp_det hq (specStamp_any d i0 i1 cs' hi w' h1 h2 hsz)
  have CI := fun (cs' : List Value) (hi : Nat) (w' : World) (h1 : layWorld.rd w' hi d cs') (h2 : hi ≤ w'.heap.size) => stamp_det hq (implStamp_any d i0 i1 cs' hi w' h1 h2 hsz)
  have CE := fun w' => eqInt_same cc vv w'
  unfold intR at CE
  have CW := fun c1 c2 h1 h2 w' => eqWorld_is c1 c2 d h1 h2 w'
  clear hq hsz
  go_wp2_with (refine wp_loadBox 28 (.tmp 3) rfl rfl (w.heap.size) rfl (cs := [.int .i64 v0, .int .i64 v1, .int .i64 v2, .int .i64 v3, .int .i64 v4, .int .i64 v5, .int .i64 v6, .int .i64 v7, .int .i64 v8, .slice vp0 vl0 vq0, .slice vp1 vl1 vq1, .slice vp2 vl2 vq2, .int .i64 v9, .int .i64 v10, .bool vb]) T1.b1 Tryz.underlying28 size_LW rfl ?_)
  refine (CT _ (Below.refl _ _)).mono ?_
  rintro e w2 ⟨c2, rfl, o2, b2⟩
  have z1 : w.heap.size < w1.heap.size := T1.b1.lt
  clear T1
  go_wp2_with fail
  refine (CS _ _ _ o2.rd (Nat.le_refl _)).mono ?_
  rintro e w3 ⟨rfl, b3⟩
  have z2 : w1.heap.size ≤ w2.heap.size := b2.size
  have z3 : w2.heap.size ≤ w3.heap.size := b3.size
  have B3 : Below w1.heap.size w1 w3 := b2.trans (b3.mono b2.size)
  clear o2 b2 b3
  go_upto_region 6 with (refine wp_allocStore 45 8 (.tmp 20) [.int .i64 cc, .int .i64 vv] _ 2 rfl rfl rfl rfl rfl rfl rfl rfl info_Ir rfl rfl (two_one _ _) ?_)
  have bA : Below w3.heap.size w3 (w3.alloc (.cells #[.int .i64 cc, .int .i64 vv] 45)) := (Below.refl _ _).alloc (Nat.le_refl _) _
  have S4 : Box (w3.alloc (.cells #[.int .i64 cc, .int .i64 vv] 45)) w3.heap.size #[.int .i64 cc, .int .i64 vv] 45 := box_new _ _ _
  obtain ⟨W4, hW4⟩ : ∃ x, x = w3.alloc (.cells #[.int .i64 cc, .int .i64 vv] 45) := ⟨_, rfl⟩
  rw [← hW4] at bA S4 ⊢
  have B4 := B3.trans (bA.mono (by omega))
  have P4 := HT1.out.call B4
  have z4 : w3.heap.size < W4.heap.size := S4.lt
  clear bA hW4 B3
  go_wp2_with (refine wp_loadBox 28 (.tmp 3) rfl rfl (w.heap.size) rfl (cs := [.int .i64 v0, .int .i64 v1, .int .i64 v2, .int .i64 v3, .int .i64 v4, .int .i64 v5, .int .i64 v6, .int .i64 v7, .int .i64 v8, .slice vp0 vl0 vq0, .slice vp1 vl1 vq1, .slice vp2 vl2 vq2, .int .i64 v9, .int .i64 v10, .bool vb]) P4.b1 Tryz.underlying28 size_LW rfl ?_)
  refine (CT _ B4).mono ?_
  rintro e w5 ⟨cX, rfl, oX, b5⟩
  obtain ⟨x0, x1, x2, x3, x4, x5, x6, x7, x8, xp0, xl0, xq0, xp1, xl1, xq1, xp2, xl2, xq2, x9, x10, xb, rfl⟩ := world15O oX
  have z5 : W4.heap.size ≤ w5.heap.size := b5.size
  have B5 := B4.trans (b5.mono (by omega))
  have S5 := S4.call b5
  clear P4 b5 B4 S4
  go_upto_region 7 with (refine wp_allocStore 37 9 (.tmp 22) [.int .i64 x0, .int .i64 x1, .int .i64 x2, .int .i64 x3, .int .i64 x4, .int .i64 x5, .int .i64 x6, .int .i64 x7, .int .i64 x8, .slice xp0 xl0 xq0, .slice xp1 xl1 xq1, .slice xp2 xl2 xq2, .int .i64 x9, .int .i64 x10, .bool xb] _ 15 rfl rfl rfl rfl rfl rfl rfl rfl info_W rfl rfl oX.one ?_)
  have bA : Below w5.heap.size w5 (w5.alloc (.cells #[.int .i64 x0, .int .i64 x1, .int .i64 x2, .int .i64 x3, .int .i64 x4, .int .i64 x5, .int .i64 x6, .int .i64 x7, .int .i64 x8, .slice xp0 xl0 xq0, .slice xp1 xl1 xq1, .slice xp2 xl2 xq2, .int .i64 x9, .int .i64 x10, .bool xb] 37)) := (Below.refl _ _).alloc (Nat.le_refl _) _
  have X6 : Box (w5.alloc (.cells #[.int .i64 x0, .int .i64 x1, .int .i64 x2, .int .i64 x3, .int .i64 x4, .int .i64 x5, .int .i64 x6, .int .i64 x7, .int .i64 x8, .slice xp0 xl0 xq0, .slice xp1 xl1 xq1, .slice xp2 xl2 xq2, .int .i64 x9, .int .i64 x10, .bool xb] 37)) w5.heap.size #[.int .i64 x0, .int .i64 x1, .int .i64 x2, .int .i64 x3, .int .i64 x4, .int .i64 x5, .int .i64 x6, .int .i64 x7, .int .i64 x8, .slice xp0 xl0 xq0, .slice xp1 xl1 xq1, .slice xp2 xl2 xq2, .int .i64 x9, .int .i64 x10, .bool xb] 37 := box_new _ _ _
  obtain ⟨W6, hW6⟩ : ∃ x, x = w5.alloc (.cells #[.int .i64 x0, .int .i64 x1, .int .i64 x2, .int .i64 x3, .int .i64 x4, .int .i64 x5, .int .i64 x6, .int .i64 x7, .int .i64 x8, .slice xp0 xl0 xq0, .slice xp1 xl1 xq1, .slice xp2 xl2 xq2, .int .i64 x9, .int .i64 x10, .bool xb] 37) := ⟨_, rfl⟩
  rw [← hW6] at bA X6 ⊢
  have B6 := B5.trans (bA.mono (by omega))
  have S6 := S5.call bA
  have OX6 := oX.call bA
  have z6 : w5.heap.size < W6.heap.size := X6.lt
  clear bA hW6 oX B5 S5
  go_wp2_with (refine wp_loadBox 37 (.tmp 9) rfl rfl (w5.heap.size) rfl (cs := [.int .i64 x0, .int .i64 x1, .int .i64 x2, .int .i64 x3, .int .i64 x4, .int .i64 x5, .int .i64 x6, .int .i64 x7, .int .i64 x8, .slice xp0 xl0 xq0, .slice xp1 xl1 xq1, .slice xp2 xl2 xq2, .int .i64 x9, .int .i64 x10, .bool xb]) X6 Tryz.underlying37 size_W rfl ?_)
  refine (CI _ _ _ OX6.rd (by omega)).mono ?_
  rintro e w7 ⟨rfl, b7⟩
  have z7 : W6.heap.size ≤ w7.heap.size := b7.size
  have B7 := B6.trans (b7.mono (by omega))
  have S7 := S6.call b7
  have X7 := X6.call b7
  have OX7 := OX6.call b7
  clear b7 B6 S6 X6 OX6
  go_upto_region 8 with (refine wp_allocStore 45 10 (.tmp 26) [.int .i64 cc, .int .i64 vv] _ 2 rfl rfl rfl rfl rfl rfl rfl rfl info_Ir rfl rfl (two_one _ _) ?_)
  have bA : Below w7.heap.size w7 (w7.alloc (.cells #[.int .i64 cc, .int .i64 vv] 45)) := (Below.refl _ _).alloc (Nat.le_refl _) _
  have G8 : Box (w7.alloc (.cells #[.int .i64 cc, .int .i64 vv] 45)) w7.heap.size #[.int .i64 cc, .int .i64 vv] 45 := box_new _ _ _
  obtain ⟨W8, hW8⟩ : ∃ x, x = w7.alloc (.cells #[.int .i64 cc, .int .i64 vv] 45) := ⟨_, rfl⟩
  rw [← hW8] at bA G8 ⊢
  have B8 := B7.trans (bA.mono (by omega))
  have S8 := S7.call bA
  have X8 := X7.call bA
  have OX8 := OX7.call bA
  have z8 : w7.heap.size < W8.heap.size := G8.lt
  clear bA hW8 B7 S7 X7 OX7
  go_wp2_with (first | (refine wp_loadBox 45 (.tmp 10) rfl rfl (w7.heap.size) rfl (cs := [.int .i64 cc, .int .i64 vv]) G8 Tryz.underlying45 size_Ir rfl ?_) | (refine wp_loadBox 45 (.tmp 8) rfl rfl (w3.heap.size) rfl (cs := [.int .i64 cc, .int .i64 vv]) S8 Tryz.underlying45 size_Ir rfl ?_))
  refine (CE _).mono ?_
  rintro e w9 ⟨rfl, b9⟩
  have z9 : W8.heap.size ≤ w9.heap.size := b9.size
  have B9 := B8.trans (b9.mono (by omega))
  have X9 : Hid (Box w9 w5.heap.size #[.int .i64 x0, .int .i64 x1, .int .i64 x2, .int .i64 x3, .int .i64 x4, .int .i64 x5, .int .i64 x6, .int .i64 x7, .int .i64 x8, .slice xp0 xl0 xq0, .slice xp1 xl1 xq1, .slice xp2 xl2 xq2, .int .i64 x9, .int .i64 x10, .bool xb] 37) := X8.call b9
  have OX9 : Hid (OwnT layWorld w9 W4.heap.size w5.heap.size d [.int .i64 x0, .int .i64 x1, .int .i64 x2, .int .i64 x3, .int .i64 x4, .int .i64 x5, .int .i64 x6, .int .i64 x7, .int .i64 x8, .slice xp0 xl0 xq0, .slice xp1 xl1 xq1, .slice xp2 xl2 xq2, .int .i64 x9, .int .i64 x10, .bool xb]) := OX8.call b9
  have HB9 : Hid (Below w1.heap.size w1 w9) := B9
  have P9 : Hid (One w w9 #[.int .i64 v0, .int .i64 v1, .int .i64 v2, .int .i64 v3, .int .i64 v4, .int .i64 v5, .int .i64 v6, .int .i64 v7, .int .i64 v8, .slice vp0 vl0 vq0, .slice vp1 vl1 vq1, .slice vp2 vl2 vq2, .int .i64 v9, .int .i64 v10, .bool vb] 28) := HT1.out.call B9
  have CTc := fun w' (hb : Below w9.heap.size w9 w') => CT w' (HB9.out.trans (hb.mono (by omega)))
  clear b9 B8 S8 X8 OX8 G8 B9
  go_upto_region 10 with fail
  go_cut [35] (fun v wx => v = .bool false ∧ Below w9.heap.size w9 wx)
  case first =>
    have KS : ∀ w', Below w9.heap.size w9 w' → (Box w' (w5.heap.size) #[.int .i64 x0, .int .i64 x1, .int .i64 x2, .int .i64 x3, .int .i64 x4, .int .i64 x5, .int .i64 x6, .int .i64 x7, .int .i64 x8, .slice xp0 xl0 xq0, .slice xp1 xl1 xq1, .slice xp2 xl2 xq2, .int .i64 x9, .int .i64 x10, .bool xb] 37 ∧ Box w' (w.heap.size) #[.int .i64 v0, .int .i64 v1, .int .i64 v2, .int .i64 v3, .int .i64 v4, .int .i64 v5, .int .i64 v6, .int .i64 v7, .int .i64 v8, .slice vp0 vl0 vq0, .slice vp1 vl1 vq1, .slice vp2 vl2 vq2, .int .i64 v9, .int .i64 v10, .bool vb] 28) := fun w' hb => ⟨(X9.out).call hb, (P9.out.b1).call hb⟩
    have B0 : Below w9.heap.size w9 w9.drew := below_drew _
    refine wp_region_L 4 (fun w' => Box w' (w5.heap.size) #[.int .i64 x0, .int .i64 x1, .int .i64 x2, .int .i64 x3, .int .i64 x4, .int .i64 x5, .int .i64 x6, .int .i64 x7, .int .i64 x8, .slice xp0 xl0 xq0, .slice xp1 xl1 xq1, .slice xp2 xl2 xq2, .int .i64 x9, .int .i64 x10, .bool xb] 37 ∧ Box w' (w.heap.size) #[.int .i64 v0, .int .i64 v1, .int .i64 v2, .int .i64 v3, .int .i64 v4, .int .i64 v5, .int .i64 v6, .int .i64 v7, .int .i64 v8, .slice vp0 vl0 vq0, .slice vp1 vl1 vq1, .slice vp2 vl2 vq2, .int .i64 v9, .int .i64 v10, .bool vb] 28) (by kernel_rfl) (KS _ B0) (fun hHeld => ?_)
    refine wpAnyL_take (i := 0) (oi := _) (v := .agg #[.int .i64 x0, .int .i64 x1, .int .i64 x2, .int .i64 x3, .int .i64 x4, .int .i64 x5, .int .i64 x6, .int .i64 x7, .int .i64 x8, .slice xp0 xl0 xq0, .slice xp1 xl1 xq1, .slice xp2 xl2 xq2, .int .i64 x9, .int .i64 x10, .bool xb]) 16 rfl (by kernel_rfl) (fun _ _ _ h => h) (load_yield 37 (.tmp 9) rfl rfl (w5.heap.size) rfl (cs := [.int .i64 x0, .int .i64 x1, .int .i64 x2, .int .i64 x3, .int .i64 x4, .int .i64 x5, .int .i64 x6, .int .i64 x7, .int .i64 x8, .slice xp0 xl0 xq0, .slice xp1 xl1 xq1, .slice xp2 xl2 xq2, .int .i64 x9, .int .i64 x10, .bool xb]) (fun w' h => h.1) Tryz.underlying37 size_W rfl) (by assumption) ?_
    try simp only [List.getElem_toArray, List.getElem_cons_succ, List.getElem_cons_zero, Act.put, List.setIfInBounds_toArray, List.set_cons_zero, List.set_cons_succ]
    refine wpAnyL_take (i := 1) (oi := _) (v := .agg #[.int .i64 v0, .int .i64 v1, .int .i64 v2, .int .i64 v3, .int .i64 v4, .int .i64 v5, .int .i64 v6, .int .i64 v7, .int .i64 v8, .slice vp0 vl0 vq0, .slice vp1 vl1 vq1, .slice vp2 vl2 vq2, .int .i64 v9, .int .i64 v10, .bool vb]) 16 rfl (by kernel_rfl) (fun _ _ _ h => h) (load_yield 28 (.tmp 3) rfl rfl (w.heap.size) rfl (cs := [.int .i64 v0, .int .i64 v1, .int .i64 v2, .int .i64 v3, .int .i64 v4, .int .i64 v5, .int .i64 v6, .int .i64 v7, .int .i64 v8, .slice vp0 vl0 vq0, .slice vp1 vl1 vq1, .slice vp2 vl2 vq2, .int .i64 v9, .int .i64 v10, .bool vb]) (fun w' h => h.2) Tryz.underlying28 size_LW rfl) (by assumption) ?_
    try simp only [List.getElem_toArray, List.getElem_cons_succ, List.getElem_cons_zero, Act.put, List.setIfInBounds_toArray, List.set_cons_zero, List.set_cons_succ]
    refine wpAnyL_one (i := 2) (o := _) rfl (by kernel_rfl) (fun KC hKC => ?_)
    refine step_call rfl 7 _ _ rfl #[.agg #[.int .i64 v0, .int .i64 v1, .int .i64 v2, .int .i64 v3, .int .i64 v4, .int .i64 v5, .int .i64 v6, .int .i64 v7, .int .i64 v8, .slice vp0 vl0 vq0, .slice vp1 vl1 vq1, .slice vp2 vl2 vq2, .int .i64 v9, .int .i64 v10, .bool vb]] ?_ Tryz.func7 (by kernel_rfl) (by kernel_rfl) (CTc _ B0) ?_
    · simp [Act.eval, Act.put]
    rintro ee wb ⟨cs', rfl, oR, bb⟩
    have bR : Below w9.heap.size w9 wb := B0.trans (bb.mono B0.size)
    refine ⟨_, rfl, ?_⟩
    refine hKC.out _ _ (KS _ bR) (fun hHeld => ?_)
    clear hKC KC
    try simp only [List.getElem_toArray, List.getElem_cons_succ, List.getElem_cons_zero, Act.put, List.setIfInBounds_toArray, List.set_cons_zero, List.set_cons_succ]
    refine wpAnyL_one (i := 3) (o := _) rfl (by kernel_rfl) (fun KC hKC => ?_)
    refine step_call rfl 10 _ _ rfl #[.agg #[.int .i64 x0, .int .i64 x1, .int .i64 x2, .int .i64 x3, .int .i64 x4, .int .i64 x5, .int .i64 x6, .int .i64 x7, .int .i64 x8, .slice xp0 xl0 xq0, .slice xp1 xl1 xq1, .slice xp2 xl2 xq2, .int .i64 x9, .int .i64 x10, .bool xb], .agg cs'.toArray] ?_ Tryz.func10 (by kernel_rfl) (by kernel_rfl) (CW _ _ _ _ _ ((OX9.out).call bR).rd oR.rd (Nat.le_trans (by omega) bR.size) (Nat.le_refl _)) ?_
    · simp [Act.eval, Act.put]
    rintro ee wc' ⟨rfl, bc⟩
    have bC : Below w9.heap.size w9 wc' := bR.trans (bc.mono bR.size)
    refine ⟨_, rfl, ?_⟩
    refine hKC.out _ _ (KS _ bC) (fun hHeld => ?_)
    clear hKC KC
    try simp only [List.getElem_toArray, List.getElem_cons_succ, List.getElem_cons_zero, Act.put, List.setIfInBounds_toArray, List.set_cons_zero, List.set_cons_succ]
    refine wpAnyL_last (o := _) rfl (by kernel_rfl) (fun KC hKC => ?_)
    go_simp
    refine hKC.out _ _ ?_
    clear hKC KC
    try simp only [List.getElem_toArray, List.getElem_cons_succ, List.getElem_cons_zero, Act.put, List.setIfInBounds_toArray, List.set_cons_zero, List.set_cons_succ]
    refine wpAnyL_done (by kernel_rfl) ?_ _
    go_wp2
    go_meet
    exact ⟨rfl, bC⟩
  case rest =>
  obtain ⟨rfl, b10⟩ := hcut
  have HB : Hid (Below w.heap.size w wc) := (P9.out.call b10).bel
  clear b10 CTc
  go_wp2
  go_ret
  exact ⟨rfl, HB.out⟩

set_option maxRecDepth 100000 in
theorem fnExactRowStamp_lifted (os : Os) (started : os.Started) (H : Type) (enc : TypeId × Value → H) :
    ReturnsInHanded {} Tryz.checked os 4 .any (Rows.fnExactRowStampSpec.pre6 enc Tryz.prog Tryz.f4 Rows.fnExactRowStampRow.domain false) (Rows.fnExactRowStampSpec.post enc Tryz.prog Tryz.f4 false true false false) := by
  refine returnsInHanded_of_change (C := Tryz.checked) frame_own started (by kernel_rfl) Tryz.func4
    (ChangeSpec.witness6 (enc := enc) (C := Tryz.checked) false ⟨#[], #[.agg #[.int .i64 0, .int .i64 0, .int .i64 0, .int .i64 0, .int .i64 0, .int .i64 0, .int .i64 0, .int .i64 0, .int .i64 0, .slice none 0 0, .slice none 0 0, .slice none 0 0, .int .i64 0, .int .i64 0, .bool false], .int .i64 0, .int .i64 0], []⟩ 8 (by kernel_rfl) (by kernel_rfl) (by kernel_rfl) (by kernel_rfl)) ?_
  intro W base args ds gs before hval0 hW hcnd _
  have hval : ∀ (j : Nat) t v, Tryz.f4.params[j]? = some t → args[j]? = some v → Value.okWide Tryz.prog W .any base t v := hval0
  have hW' := hW
  obtain ⟨p, q, hA0, hV, rfl, hfz, hnd⟩ := hW
  have hA : DataW.TrodAll enc Tryz.prog W 0 (fun _ => true) true Tryz.f4.params.toList args.toList ds p := hA0
  rw [Tryz.params4] at hA hval
  obtain ⟨v0, vs0, d0, ds0, p0, q0, hargs, rfl, rfl, h0, r0⟩ := trodAll_cons hA
  obtain ⟨v1, vs1, d1, ds1, p1, q1, rfl, rfl, rfl, h1, r1⟩ := trodAll_cons r0
  obtain ⟨v2, vs2, d2, ds2, p2, q2, rfl, rfl, rfl, h2, r2⟩ := trodAll_cons r1
  obtain ⟨rfl, rfl, rfl⟩ := trodAll_nil r2
  obtain rfl : args = #[v0, v1, v2] := by cases args; simp_all
  obtain ⟨rfl, rfl⟩ := trodVars_none hV
  have k0 := h0
  have lt0 : ∀ x ∈ p0, x.block < W.heap.size := by obtain ⟨m, hm⟩ := k0; exact DataW.trod_lt m _ _ _ hm
  obtain ⟨cs0, a0, rfl, rd0⟩ := struct_of_trod opensWorld Tryz.underlying28 (hval 0 28 v0 rfl rfl) h0
  obtain ⟨n1, rfl, rfl, rfl, hn1⟩ := open_int Tryz.underlying2 (hval 1 2 v1 rfl rfl) h1
  obtain ⟨n2, rfl, rfl, rfl, hn2⟩ := open_int Tryz.underlying2 (hval 2 2 v2 rfl rfl) h2
  clear hA0 hval0
  refine (fnExactRowStamp_walk a0 cs0 n1 n2 W rd0 (bounds_i64 hn1) (bounds_i64 hn2)).mono fun e W' ⟨he, bel⟩ => ?_
  subst he
  exact ⟨_, rfl, _, _, _, [], _, [], hW', trodAll_mk1 (shut_bool Tryz.underlying4 _), (trodAll_cons_mk (Below.trod frame_laid (by kernel_rfl) (of_decide_eq_true (by kernel_rfl)) k0 bel lt0) (trodAll_cons_mk (shut_int Tryz.underlying2 hn1) (trodAll_cons_mk (shut_int Tryz.underlying2 hn2) trodAll_mk0))), rfl, bel.frame _, fun h => by cases h⟩

end Go.Proofs.YtgbnibapkgbklaaGreat
