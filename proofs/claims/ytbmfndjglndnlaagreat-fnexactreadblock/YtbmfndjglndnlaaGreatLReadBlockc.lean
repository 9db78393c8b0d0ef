/- For every world and all three numbers the program's ReadBlock answers as the specification's does, writes into nothing that it is handed, and its answer is memory of its own: the law FnExactReadBlock returns true at every input, and changes nothing that was there. No condition. -/
import Derived.Test.YtbmfndjglndnlaaGreatRows
import Derived.Test.YtbmfndjglndnlaaGreatOpensW
import Derived.Test.YtbmfndjglndnlaaGreatZwB
import Derived.Test.YtbmfndjglndnlaaGreatZwC
import Derived.Test.YtbmfndjglndnlaaGreatZwE
import Derived.Test.YtbmfndjglndnlaaGreatReadBc
import Derived.Deep.DeepCutAuto
import Derived.Deep.RegionLaw
namespace Go.Proofs.YtbmfndjglndnlaaGreat
open Go.ChangeShapes Go.WideShapes Go.ChangeAt Go.RowKit F256
set_option linter.unusedVariables false
set_option linter.unusedSimpArgs false
theorem fifteen {w : World} {b : Nat} {t : TypeId} {a0 a1 a2 a3 a4 a5 a6 a7 a8 a9 a10 a11 a12 a13 a14 : Value} (h : Box w b #[a0, a1, a2, a3, a4, a5, a6, a7, a8, a9, a10, a11, a12, a13, a14] t) :
    w.cell? ⟨b, 0, none⟩ = some a0 ∧ w.cell? ⟨b, 1, none⟩ = some a1 ∧ w.cell? ⟨b, 2, none⟩ = some a2 ∧ w.cell? ⟨b, 3, none⟩ = some a3 ∧ w.cell? ⟨b, 4, none⟩ = some a4 ∧ w.cell? ⟨b, 5, none⟩ = some a5 ∧ w.cell? ⟨b, 6, none⟩ = some a6 ∧ w.cell? ⟨b, 7, none⟩ = some a7 ∧ w.cell? ⟨b, 8, none⟩ = some a8 ∧ w.cell? ⟨b, 9, none⟩ = some a9 ∧ w.cell? ⟨b, 10, none⟩ = some a10 ∧ w.cell? ⟨b, 11, none⟩ = some a11 ∧ w.cell? ⟨b, 12, none⟩ = some a12 ∧ w.cell? ⟨b, 13, none⟩ = some a13 ∧ w.cell? ⟨b, 14, none⟩ = some a14 :=
  ⟨h.cell 0, h.cell 1, h.cell 2, h.cell 3, h.cell 4, h.cell 5, h.cell 6, h.cell 7, h.cell 8, h.cell 9, h.cell 10, h.cell 11, h.cell 12, h.cell 13, h.cell 14⟩
theorem ask_ex (d : WorldD) : ∃ x, AskAns d x := by
  obtain ⟨x, hx⟩ := world_ex d
  by_cases h : x = 0
  · subst h
    cases hd : d.down with
    | true => exact ⟨9, .inr ⟨hx, .inl ⟨hd, rfl⟩⟩⟩
    | false => exact ⟨0, .inr ⟨hx, .inr ⟨hd, rfl⟩⟩⟩
  · exact ⟨x, .inl ⟨h, hx⟩⟩
theorem read_ex (d : WorldD) (g k r : Int) : ∃ q, ReadAns d g k r q := by
  obtain ⟨x, hx⟩ := ask_ex d
  by_cases h : x = 0
  · subst h
    by_cases h1 : PlaceP d.shape g k r
    · by_cases h2 : HasP d.on.1 d.on.2 g
      · cases h3 : (drvAt d g k).wiped with
        | true => exact ⟨_, .inr ⟨hx, .inr ⟨h1, .inr ⟨h2, .inl ⟨h3, rfl⟩⟩⟩⟩⟩
        | false => exact ⟨_, .inr ⟨hx, .inr ⟨h1, .inr ⟨h2, .inr ⟨h3, rfl⟩⟩⟩⟩⟩
      · exact ⟨_, .inr ⟨hx, .inr ⟨h1, .inl ⟨h2, rfl⟩⟩⟩⟩
    · exact ⟨_, .inr ⟨hx, .inl ⟨h1, rfl⟩⟩⟩
  · exact ⟨_, .inl ⟨x, h, hx, rfl⟩⟩
theorem read_det {d : WorldD} {g k r : Int} {q : BlockResultD} {w : World} {f : Nat} {args : Array Value} (hq : ReadAns d g k r q) (h : Calls Tryz.prog f args w (BResPost (ReadAns d g k r) w)) : Calls Tryz.prog f args w fun e w' => ∃ cs, e = .returned (.agg cs.toArray) ∧ OwnT layBlockResult w' w.heap.size w'.heap.size q cs ∧ Below w.heap.size w w' :=
  h.mono fun e w' ⟨d', cs, h1, h2, h3, h4⟩ => ⟨cs, h1, by rw [hq.one h2]; exact h3, h4⟩
theorem read_cv {d : WorldD} {g k r : Int} {q : BlockResultD} (hq : ReadAns d g k r q) (hsz : szWorldD d ≤ 1048576) : cvBlockResultD q ≤ 1048576 := by
  rcases hq with ⟨x, _, _, rfl⟩ | ⟨h0, h⟩
  · exact Nat.zero_le _
  rcases h with ⟨_, rfl⟩ | ⟨hp, h⟩
  · exact Nat.zero_le _
  rcases h with ⟨_, rfl⟩ | ⟨_, h⟩
  · exact Nat.zero_le _
  rcases h with ⟨_, rfl⟩ | ⟨_, rfl⟩
  · exact Nat.zero_le _
  · obtain ⟨hA, hB, hC⟩ := hp
    have hf := (ask_ok h0).form.1
    unfold InP at hA hB hC
    have hG : g.toNat < d.groups.1 := by have := hf.1; omega
    have hK : k.toNat < (d.groups.2 g.toNat).1 := by have := (hf.2 _ hG).1; omega
    have hD := (hf.2 _ hG).2 _ hK
    have hR : r.toNat < ((d.groups.2 g.toNat).2 k.toNat).blocks.1 := by have := hD.1; omega
    have h1 : szSl (szSl szDriveD) d.groups ≤ 1048576 := by unfold szWorldD at hsz; omega
    have h2 : szSl szDriveD (d.groups.2 g.toNat) ≤ 1048576 := szSl_at h1 hG
    have h3 : szDriveD ((d.groups.2 g.toNat).2 k.toNat) ≤ 1048576 := szSl_at h2 hK
    exact szSl_at (s := szBlockD) (p := ((d.groups.2 g.toNat).2 k.toNat).blocks) h3 hR
theorem bres3 {w : World} {hi : Nat} {d : BlockResultD} {cs : List Value} (h : layBlockResult.rd w hi d cs) : ∃ v0 v1 vp vl vq, cs = [.int .i64 v0, .int .i64 v1, .slice vp vl vq] := by
  obtain ⟨p1, pc1, rfl, -⟩ := BlockResult_rd h
  exact ⟨_, _, _, _, _, rfl⟩
theorem size_BR : (Tryz.prog.info? 48).map (·.size) = some 3 := by kernel_rfl
set_option maxHeartbeats 16000000 in
set_option maxRecDepth 20000 in
theorem fnExactReadBlock_walk (d : WorldD) (cs : List Value) (i0 : Int) (i1 : Int) (i2 : Int) (w : World) (rd0 : layWorld.rd w w.heap.size d cs) (hi0 : -9223372036854775808 ≤ i0 ∧ i0 ≤ 9223372036854775807) (hi1 : -9223372036854775808 ≤ i1 ∧ i1 ≤ 9223372036854775807) (hi2 : -9223372036854775808 ≤ i2 ∧ i2 ≤ 9223372036854775807) :
    Calls Tryz.prog 5 #[.agg cs.toArray, .int .i64 i0, .int .i64 i1, .int .i64 i2] w fun e w' => e = .returned (.bool true) ∧ Below w.heap.size w w' := by
  obtain ⟨v0, v1, v2, v3, v4, v5, v6, v7, v8, vp0, vl0, vq0, vp1, vl1, vq1, vp2, vl2, vq2, v9, v10, vb, rfl⟩ := world15 rd0
  have HR : Hid (layWorld.rd w w.heap.size d [.int .i64 v0, .int .i64 v1, .int .i64 v2, .int .i64 v3, .int .i64 v4, .int .i64 v5, .int .i64 v6, .int .i64 v7, .int .i64 v8, .slice vp0 vl0 vq0, .slice vp1 vl1 vq1, .slice vp2 vl2 vq2, .int .i64 v9, .int .i64 v10, .bool vb]) := rd0
  clear rd0 hi0 hi1 hi2
  have T0 := one_new w #[.int .i64 v0, .int .i64 v1, .int .i64 v2, .int .i64 v3, .int .i64 v4, .int .i64 v5, .int .i64 v6, .int .i64 v7, .int .i64 v8, .slice vp0 vl0 vq0, .slice vp1 vl1 vq1, .slice vp2 vl2 vq2, .int .i64 v9, .int .i64 v10, .bool vb] 28
  go_enter Tryz.func5, Tryz.ntmps5
  go_wp2_with (refine wp_loadBox 28 (.tmp 4) rfl rfl (w.heap.size) rfl (cs := [.int .i64 v0, .int .i64 v1, .int .i64 v2, .int .i64 v3, .int .i64 v4, .int .i64 v5, .int .i64 v6, .int .i64 v7, .int .i64 v8, .slice vp0 vl0 vq0, .slice vp1 vl1 vq1, .slice vp2 vl2 vq2, .int .i64 v9, .int .i64 v10, .bool vb]) T0.b1 Tryz.underlying28 size_LW rfl ?_)
  refine (szWorld_is _ d w.heap.size 1048576 _ (layWorld.rd_below HR.out T0.bel (Nat.le_refl _)) T0.bel.size (by omega)).mono ?_
  rintro e w1 ⟨x, rfl, hx, b1⟩
  have T1 := T0.call b1
  have HT1 : Hid (One w w1 #[.int .i64 v0, .int .i64 v1, .int .i64 v2, .int .i64 v3, .int .i64 v4, .int .i64 v5, .int .i64 v6, .int .i64 v7, .int .i64 v8, .slice vp0 vl0 vq0, .slice vp1 vl1 vq1, .slice vp2 vl2 vq2, .int .i64 v9, .int .i64 v10, .bool vb] 28) := T1
  clear b1 T0
  rcases hx with rfl | ⟨hsz, hx⟩
  · clear T1
    go_wp2
    go_ret
    exact ⟨rfl, HT1.out.bel⟩
  have hx0 : ¬ x < 0 := by omega
  clear hx
  obtain ⟨q, hq⟩ := read_ex d i0 i1 i2
  obtain ⟨N, hN⟩ : ∃ N, N = 1 + cvBlockResultD q := ⟨_, rfl⟩
  have hj : 1 + cvBlockResultD q ≤ 100000000 := by have := read_cv hq hsz; omega
  obtain ⟨M, hM⟩ : ∃ M, M = 1 + cvWorldD d := ⟨_, rfl⟩
  have hk : 1 + cvWorldD d ≤ 100000000 := by have := cvWorld_le d; omega
  have CT : ∀ w', Below w1.heap.size w1 w' → Calls Tryz.prog 11 #[.agg #[.int .i64 v0, .int .i64 v1, .int .i64 v2, .int .i64 v3, .int .i64 v4, .int .i64 v5, .int .i64 v6, .int .i64 v7, .int .i64 v8, .slice vp0 vl0 vq0, .slice vp1 vl1 vq1, .slice vp2 vl2 vq2, .int .i64 v9, .int .i64 v10, .bool vb]] w' fun e w'' => ∃ cs', e = .returned (.agg cs'.toArray) ∧ OwnT layWorld w'' w'.heap.size w''.heap.size d cs' ∧ Below w'.heap.size w' w'' := fun w' hb =>
    toWorld_is _ d w.heap.size w' (layWorld.rd_below (layWorld.rd_below HR.out HT1.out.bel (Nat.le_refl _)) hb HT1.out.bel.size) (Nat.le_trans HT1.out.bel.size hb.size) hsz
  have CS := fun (cs' : List Value) (hi : Nat) (w' : World) (h1 : layWorld.rd w' hi d cs') (h2 : hi ≤ w'.heap.size) => read_det hq (specRead_any d i0 i1 i2 cs' hi w' h1 h2 hsz)
  have CI := fun (cs' : List Value) (hi : Nat) (w' : World) (h1 : layWorld.rd w' hi d cs') (h2 : hi ≤ w'.heap.size) => read_det hq (implRead_any d i0 i1 i2 cs' hi w' h1 h2 hsz)
  have CE := fun c1 c2 h1 h2 w' => eqBlockResult_is c1 c2 q h1 h2 w'
  have CW := fun c1 c2 h1 h2 w' => eqWorld_is c1 c2 d h1 h2 w'
  have CM := fun {w' : World} {lo hi : Nat} {cs : List Value} (h : OwnT layBlockResult w' lo hi q cs) => mark_T markBlockResult_is h 1 hj
  have CK := fun {w' : World} {lo hi : Nat} {cs : List Value} (h : OwnT layWorld w' lo hi d cs) => mark_T markWorld_is h 1 hk
  have CH := fun (cs : List Value) (hi : Nat) (w' : World) (h : layBlockResult.rd w' hi (mkvBlockResultD 1 q) cs) (hh : hi ≤ w'.heap.size) => heldBlockResult_is cs q hi 1 w' h hh hj
  rw [← hN] at CM CH
  rw [← hM] at CK
  clear hN hM hj hk hq hsz
  go_wp2_with (refine wp_loadBox 28 (.tmp 4) rfl rfl (w.heap.size) rfl (cs := [.int .i64 v0, .int .i64 v1, .int .i64 v2, .int .i64 v3, .int .i64 v4, .int .i64 v5, .int .i64 v6, .int .i64 v7, .int .i64 v8, .slice vp0 vl0 vq0, .slice vp1 vl1 vq1, .slice vp2 vl2 vq2, .int .i64 v9, .int .i64 v10, .bool vb]) T1.b1 Tryz.underlying28 size_LW rfl ?_)
  refine (CT _ (Below.refl _ _)).mono ?_
  rintro e w2 ⟨c2, rfl, o2, b2⟩
  have z1 : w.heap.size < w1.heap.size := T1.b1.lt
  clear T1
  go_wp2_with fail
  refine (CS _ _ _ o2.rd (Nat.le_refl _)).mono ?_
  rintro e w3 ⟨cS, rfl, oS, b3⟩
  obtain ⟨s0, s1, sp, sl, sq, rfl⟩ := bres3 oS.rd
  have z2 : w1.heap.size ≤ w2.heap.size := b2.size
  have z3 : w2.heap.size ≤ w3.heap.size := b3.size
  have B3 : Below w1.heap.size w1 w3 := b2.trans (b3.mono b2.size)
  clear o2 b2 b3
  go_upto_region 6 with (refine wp_allocStore 48 10 (.tmp 27) [.int .i64 s0, .int .i64 s1, .slice sp sl sq] _ 3 rfl rfl rfl rfl rfl rfl rfl rfl info_BR rfl rfl oS.one ?_)
  have bA : Below w3.heap.size w3 (w3.alloc (.cells #[.int .i64 s0, .int .i64 s1, .slice sp sl sq] 48)) := (Below.refl _ _).alloc (Nat.le_refl _) _
  have S4 : Box (w3.alloc (.cells #[.int .i64 s0, .int .i64 s1, .slice sp sl sq] 48)) w3.heap.size #[.int .i64 s0, .int .i64 s1, .slice sp sl sq] 48 := box_new _ _ _
  obtain ⟨W4, hW4⟩ : ∃ x, x = w3.alloc (.cells #[.int .i64 s0, .int .i64 s1, .slice sp sl sq] 48) := ⟨_, rfl⟩
  rw [← hW4] at bA S4 ⊢
  have B4 := B3.trans (bA.mono (by omega))
  have P4 := HT1.out.call B4
  have OS4 := oS.call bA
  have z4 : w3.heap.size < W4.heap.size := S4.lt
  clear bA hW4 oS B3
  go_wp2_with (refine wp_loadBox 28 (.tmp 4) rfl rfl (w.heap.size) rfl (cs := [.int .i64 v0, .int .i64 v1, .int .i64 v2, .int .i64 v3, .int .i64 v4, .int .i64 v5, .int .i64 v6, .int .i64 v7, .int .i64 v8, .slice vp0 vl0 vq0, .slice vp1 vl1 vq1, .slice vp2 vl2 vq2, .int .i64 v9, .int .i64 v10, .bool vb]) P4.b1 Tryz.underlying28 size_LW rfl ?_)
  refine (CT _ B4).mono ?_
  rintro e w5 ⟨cX, rfl, oX, b5⟩
  obtain ⟨x0, x1, x2, x3, x4, x5, x6, x7, x8, xp0, xl0, xq0, xp1, xl1, xq1, xp2, xl2, xq2, x9, x10, xb, rfl⟩ := world15O oX
  have z5 : W4.heap.size ≤ w5.heap.size := b5.size
  have B5 := B4.trans (b5.mono (by omega))
  have S5 := S4.call b5
  have OS5 := OS4.call b5
  clear P4 b5 B4 S4 OS4
  go_upto_region 7 with (refine wp_allocStore 34 11 (.tmp 29) [.int .i64 x0, .int .i64 x1, .int .i64 x2, .int .i64 x3, .int .i64 x4, .int .i64 x5, .int .i64 x6, .int .i64 x7, .int .i64 x8, .slice xp0 xl0 xq0, .slice xp1 xl1 xq1, .slice xp2 xl2 xq2, .int .i64 x9, .int .i64 x10, .bool xb] _ 15 rfl rfl rfl rfl rfl rfl rfl rfl info_W rfl rfl oX.one ?_)
  have bA : Below w5.heap.size w5 (w5.alloc (.cells #[.int .i64 x0, .int .i64 x1, .int .i64 x2, .int .i64 x3, .int .i64 x4, .int .i64 x5, .int .i64 x6, .int .i64 x7, .int .i64 x8, .slice xp0 xl0 xq0, .slice xp1 xl1 xq1, .slice xp2 xl2 xq2, .int .i64 x9, .int .i64 x10, .bool xb] 34)) := (Below.refl _ _).alloc (Nat.le_refl _) _
  have X6 : Box (w5.alloc (.cells #[.int .i64 x0, .int .i64 x1, .int .i64 x2, .int .i64 x3, .int .i64 x4, .int .i64 x5, .int .i64 x6, .int .i64 x7, .int .i64 x8, .slice xp0 xl0 xq0, .slice xp1 xl1 xq1, .slice xp2 xl2 xq2, .int .i64 x9, .int .i64 x10, .bool xb] 34)) w5.heap.size #[.int .i64 x0, .int .i64 x1, .int .i64 x2, .int .i64 x3, .int .i64 x4, .int .i64 x5, .int .i64 x6, .int .i64 x7, .int .i64 x8, .slice xp0 xl0 xq0, .slice xp1 xl1 xq1, .slice xp2 xl2 xq2, .int .i64 x9, .int .i64 x10, .bool xb] 34 := box_new _ _ _
  obtain ⟨W6, hW6⟩ : ∃ x, x = w5.alloc (.cells #[.int .i64 x0, .int .i64 x1, .int .i64 x2, .int .i64 x3, .int .i64 x4, .int .i64 x5, .int .i64 x6, .int .i64 x7, .int .i64 x8, .slice xp0 xl0 xq0, .slice xp1 xl1 xq1, .slice xp2 xl2 xq2, .int .i64 x9, .int .i64 x10, .bool xb] 34) := ⟨_, rfl⟩
  rw [← hW6] at bA X6 ⊢
  have B6 := B5.trans (bA.mono (by omega))
  have S6 := S5.call bA
  have OS6 := OS5.call bA
  have OX6 := oX.call bA
  have z6 : w5.heap.size < W6.heap.size := X6.lt
  clear bA hW6 oX B5 S5 OS5
  go_wp2_with (refine wp_loadBox 34 (.tmp 11) rfl rfl (w5.heap.size) rfl (cs := [.int .i64 x0, .int .i64 x1, .int .i64 x2, .int .i64 x3, .int .i64 x4, .int .i64 x5, .int .i64 x6, .int .i64 x7, .int .i64 x8, .slice xp0 xl0 xq0, .slice xp1 xl1 xq1, .slice xp2 xl2 xq2, .int .i64 x9, .int .i64 x10, .bool xb]) X6 Tryz.underlying34 size_W rfl ?_)
  refine (CI _ _ _ OX6.rd (by omega)).mono ?_
  rintro e w7 ⟨cG, rfl, oG, b7⟩
  obtain ⟨g0, g1, gp, gl, gq, rfl⟩ := bres3 oG.rd
  have z7 : W6.heap.size ≤ w7.heap.size := b7.size
  have B7 := B6.trans (b7.mono (by omega))
  have S7 := S6.call b7
  have OS7 := OS6.call b7
  have X7 := X6.call b7
  have OX7 := OX6.call b7
  clear b7 B6 S6 OS6 X6 OX6
  go_upto_region 8 with (refine wp_allocStore 48 12 (.tmp 34) [.int .i64 g0, .int .i64 g1, .slice gp gl gq] _ 3 rfl rfl rfl rfl rfl rfl rfl rfl info_BR rfl rfl oG.one ?_)
  have bA : Below w7.heap.size w7 (w7.alloc (.cells #[.int .i64 g0, .int .i64 g1, .slice gp gl gq] 48)) := (Below.refl _ _).alloc (Nat.le_refl _) _
  have G8 : Box (w7.alloc (.cells #[.int .i64 g0, .int .i64 g1, .slice gp gl gq] 48)) w7.heap.size #[.int .i64 g0, .int .i64 g1, .slice gp gl gq] 48 := box_new _ _ _
  obtain ⟨W8, hW8⟩ : ∃ x, x = w7.alloc (.cells #[.int .i64 g0, .int .i64 g1, .slice gp gl gq] 48) := ⟨_, rfl⟩
  rw [← hW8] at bA G8 ⊢
  have B8 := B7.trans (bA.mono (by omega))
  have S8 := S7.call bA
  have OS8 := OS7.call bA
  have X8 := X7.call bA
  have OX8 := OX7.call bA
  have OG8 := oG.call bA
  have z8 : w7.heap.size < W8.heap.size := G8.lt
  clear bA hW8 oG B7 S7 OS7 X7 OX7
  go_wp2_with (first | (refine wp_loadBox 48 (.tmp 12) rfl rfl (w7.heap.size) rfl (cs := [.int .i64 g0, .int .i64 g1, .slice gp gl gq]) G8 Tryz.underlying48 size_BR rfl ?_) | (refine wp_loadBox 48 (.tmp 10) rfl rfl (w3.heap.size) rfl (cs := [.int .i64 s0, .int .i64 s1, .slice sp sl sq]) S8 Tryz.underlying48 size_BR rfl ?_))
  refine (CE _ _ _ _ _ OG8.rd OS8.rd (by omega) (by omega)).mono ?_
  rintro e w9 ⟨rfl, b9⟩
  have z9 : W8.heap.size ≤ w9.heap.size := b9.size
  have B9 := B8.trans (b9.mono (by omega))
  have S9 : Hid (Box w9 w3.heap.size #[.int .i64 s0, .int .i64 s1, .slice sp sl sq] 48) := S8.call b9
  have OS9 : Hid (OwnT layBlockResult w9 w2.heap.size w3.heap.size q [.int .i64 s0, .int .i64 s1, .slice sp sl sq]) := OS8.call b9
  have X9 : Hid (Box w9 w5.heap.size #[.int .i64 x0, .int .i64 x1, .int .i64 x2, .int .i64 x3, .int .i64 x4, .int .i64 x5, .int .i64 x6, .int .i64 x7, .int .i64 x8, .slice xp0 xl0 xq0, .slice xp1 xl1 xq1, .slice xp2 xl2 xq2, .int .i64 x9, .int .i64 x10, .bool xb] 34) := X8.call b9
  have OX9 : Hid (OwnT layWorld w9 W4.heap.size w5.heap.size d [.int .i64 x0, .int .i64 x1, .int .i64 x2, .int .i64 x3, .int .i64 x4, .int .i64 x5, .int .i64 x6, .int .i64 x7, .int .i64 x8, .slice xp0 xl0 xq0, .slice xp1 xl1 xq1, .slice xp2 xl2 xq2, .int .i64 x9, .int .i64 x10, .bool xb]) := OX8.call b9
  have G9 : Hid (Box w9 w7.heap.size #[.int .i64 g0, .int .i64 g1, .slice gp gl gq] 48) := G8.call b9
  have OG9 : Hid (OwnT layBlockResult w9 W6.heap.size w7.heap.size q [.int .i64 g0, .int .i64 g1, .slice gp gl gq]) := OG8.call b9
  have HB9 : Hid (Below w1.heap.size w1 w9) := B9
  have P9 : Hid (One w w9 #[.int .i64 v0, .int .i64 v1, .int .i64 v2, .int .i64 v3, .int .i64 v4, .int .i64 v5, .int .i64 v6, .int .i64 v7, .int .i64 v8, .slice vp0 vl0 vq0, .slice vp1 vl1 vq1, .slice vp2 vl2 vq2, .int .i64 v9, .int .i64 v10, .bool vb] 28) := HT1.out.call B9
  have u_0 : w9.cell? ⟨w5.heap.size, 0, none⟩ = some (.int .i64 x0) := X9.out.cell 0
  have u_1 : w9.cell? ⟨w5.heap.size, 1, none⟩ = some (.int .i64 x1) := X9.out.cell 1
  have u_2 : w9.cell? ⟨w5.heap.size, 2, none⟩ = some (.int .i64 x2) := X9.out.cell 2
  have u_3 : w9.cell? ⟨w5.heap.size, 3, none⟩ = some (.int .i64 x3) := X9.out.cell 3
  have u_4 : w9.cell? ⟨w5.heap.size, 4, none⟩ = some (.int .i64 x4) := X9.out.cell 4
  have u_5 : w9.cell? ⟨w5.heap.size, 5, none⟩ = some (.int .i64 x5) := X9.out.cell 5
  have u_6 : w9.cell? ⟨w5.heap.size, 6, none⟩ = some (.int .i64 x6) := X9.out.cell 6
  have u_7 : w9.cell? ⟨w5.heap.size, 7, none⟩ = some (.int .i64 x7) := X9.out.cell 7
  have u_8 : w9.cell? ⟨w5.heap.size, 8, none⟩ = some (.int .i64 x8) := X9.out.cell 8
  have u_9 : w9.cell? ⟨w5.heap.size, 9, none⟩ = some (.slice xp0 xl0 xq0) := X9.out.cell 9
  have u_10 : w9.cell? ⟨w5.heap.size, 10, none⟩ = some (.slice xp1 xl1 xq1) := X9.out.cell 10
  have u_11 : w9.cell? ⟨w5.heap.size, 11, none⟩ = some (.slice xp2 xl2 xq2) := X9.out.cell 11
  have u_12 : w9.cell? ⟨w5.heap.size, 12, none⟩ = some (.int .i64 x9) := X9.out.cell 12
  have u_13 : w9.cell? ⟨w5.heap.size, 13, none⟩ = some (.int .i64 x10) := X9.out.cell 13
  have u_14 : w9.cell? ⟨w5.heap.size, 14, none⟩ = some (.bool xb) := X9.out.cell 14
  have y_0 : w9.cell? ⟨w.heap.size, 0, none⟩ = some (.int .i64 v0) := P9.out.b1.cell 0
  have y_1 : w9.cell? ⟨w.heap.size, 1, none⟩ = some (.int .i64 v1) := P9.out.b1.cell 1
  have y_2 : w9.cell? ⟨w.heap.size, 2, none⟩ = some (.int .i64 v2) := P9.out.b1.cell 2
  have y_3 : w9.cell? ⟨w.heap.size, 3, none⟩ = some (.int .i64 v3) := P9.out.b1.cell 3
  have y_4 : w9.cell? ⟨w.heap.size, 4, none⟩ = some (.int .i64 v4) := P9.out.b1.cell 4
  have y_5 : w9.cell? ⟨w.heap.size, 5, none⟩ = some (.int .i64 v5) := P9.out.b1.cell 5
  have y_6 : w9.cell? ⟨w.heap.size, 6, none⟩ = some (.int .i64 v6) := P9.out.b1.cell 6
  have y_7 : w9.cell? ⟨w.heap.size, 7, none⟩ = some (.int .i64 v7) := P9.out.b1.cell 7
  have y_8 : w9.cell? ⟨w.heap.size, 8, none⟩ = some (.int .i64 v8) := P9.out.b1.cell 8
  have y_9 : w9.cell? ⟨w.heap.size, 9, none⟩ = some (.slice vp0 vl0 vq0) := P9.out.b1.cell 9
  have y_10 : w9.cell? ⟨w.heap.size, 10, none⟩ = some (.slice vp1 vl1 vq1) := P9.out.b1.cell 10
  have y_11 : w9.cell? ⟨w.heap.size, 11, none⟩ = some (.slice vp2 vl2 vq2) := P9.out.b1.cell 11
  have y_12 : w9.cell? ⟨w.heap.size, 12, none⟩ = some (.int .i64 v9) := P9.out.b1.cell 12
  have y_13 : w9.cell? ⟨w.heap.size, 13, none⟩ = some (.int .i64 v10) := P9.out.b1.cell 13
  have y_14 : w9.cell? ⟨w.heap.size, 14, none⟩ = some (.bool vb) := P9.out.b1.cell 14
  clear b9 B8 S8 OS8 X8 OX8 G8 OG8 B9
  go_upto_region 10 with fail
  go_cut [43] (fun v wx => v = .bool false ∧ Below w9.heap.size w9 wx)
  case first =>
    go_region_with (first | (go_at_call 11; refine (CT _ (HB9.out.trans ((below_drewN (Below.refl _ _) 1).mono HB9.out.size))).mono ?_; rintro ee wb ⟨cs', rfl, oR, bb⟩; have bR : Below w9.heap.size w9 wb := (below_drewN (Below.refl _ _) 1).trans bb; obtain ⟨qb0, qb1, qb2, qb3, qb4, qb5, qb6, qb7, qb8, qb9, qb10, qb11, qb12, qb13, qb14⟩ := fifteen (X9.out.call bR)) | (go_at_call 14; refine (CW _ _ _ _ _ (OX9.out.call bR).rd oR.rd (Nat.le_trans (by omega) bR.size) (Nat.le_refl _)).mono ?_; rintro ee wc' ⟨rfl, bc⟩; have bC : Below w9.heap.size w9 wc' := bR.trans (bc.mono bR.size)))
    all_goals
      go_wp2
      go_meet
      exact ⟨rfl, bC⟩
  case rest =>
    obtain ⟨rfl, b10⟩ := hcut
    obtain ⟨w10, rfl⟩ : ∃ x, x = wc := ⟨_, rfl⟩
    clear u_0 u_1 u_2 u_3 u_4 u_5 u_6 u_7 u_8 u_9 u_10 u_11 u_12 u_13 u_14 y_0 y_1 y_2 y_3 y_4 y_5 y_6 y_7 y_8 y_9 y_10 y_11 y_12 y_13 y_14
    have z10 : w9.heap.size ≤ w10.heap.size := b10.size
    have B10 := HB9.out.trans (b10.mono (by omega))
    have S10 := S9.out.call b10
    have OS10 := OS9.out.call b10
    have X10 := X9.out.call b10
    have OX10 := OX9.out.call b10
    have G10 := G9.out.call b10
    have OG10 := OG9.out.call b10
    clear b10 HB9 S9 OS9 X9 OX9 G9 OG9 P9
    have hm0 : ¬ (M : Int) < 0 := by omega
    go_wp2_with (refine wp_loadBox 34 (.tmp 11) rfl rfl (w5.heap.size) rfl (cs := [.int .i64 x0, .int .i64 x1, .int .i64 x2, .int .i64 x3, .int .i64 x4, .int .i64 x5, .int .i64 x6, .int .i64 x7, .int .i64 x8, .slice xp0 xl0 xq0, .slice xp1 xl1 xq1, .slice xp2 xl2 xq2, .int .i64 x9, .int .i64 x10, .bool xb]) X10 Tryz.underlying34 size_W rfl ?_)
    refine (CK OX10).mono ?_
    rintro e w11 ⟨rfl, OX11, c11⟩
    have z11 : w10.heap.size ≤ w11.heap.size := c11.size
    have B11 := B10.trans (c11.bel (B := w1.heap.size) (by omega) (by omega))
    have S11 := S10.chg c11 (.inl (by omega))
    have OS11 := OS10.chg c11 (.inl (by omega))
    have G11 := G10.chg c11 (.inr (by omega))
    have OG11 := OG10.chg c11 (.inr (by omega))
    have u_0 : w11.cell? ⟨w7.heap.size, 0, none⟩ = some (.int .i64 g0) := G11.cell 0
    have u_1 : w11.cell? ⟨w7.heap.size, 1, none⟩ = some (.int .i64 g1) := G11.cell 1
    have u_2 : w11.cell? ⟨w7.heap.size, 2, none⟩ = some (.slice gp gl gq) := G11.cell 2
    have y_0 : w11.cell? ⟨w3.heap.size, 0, none⟩ = some (.int .i64 s0) := S11.cell 0
    have y_1 : w11.cell? ⟨w3.heap.size, 1, none⟩ = some (.int .i64 s1) := S11.cell 1
    have y_2 : w11.cell? ⟨w3.heap.size, 2, none⟩ = some (.slice sp sl sq) := S11.cell 2
    clear OX11 c11 B10 S10 OS10 X10 OX10 G10 OG10
    go_wp2_with fail
    refine (CE _ _ _ _ _ OG11.rd OS11.rd (by omega) (by omega)).mono ?_
    rintro e w12 ⟨rfl, b12⟩
    have z12 : w11.heap.size ≤ w12.heap.size := b12.size
    have B12 := B11.trans (b12.mono (by omega))
    have S12 := S11.call b12
    have OS12 := OS11.call b12
    have G12 := G11.call b12
    have OG12 := OG11.call b12
    clear b12 B11 S11 OS11 G11 OG11 u_0 u_1 u_2 y_0 y_1 y_2
    go_wp2_with (refine wp_loadBox 48 (.tmp 12) rfl rfl (w7.heap.size) rfl (cs := [.int .i64 g0, .int .i64 g1, .slice gp gl gq]) G12 Tryz.underlying48 size_BR rfl ?_)
    refine (CM OG12).mono ?_
    rintro e w13 ⟨rfl, OG13, c13⟩
    have z13 : w12.heap.size ≤ w13.heap.size := c13.size
    have B13 := B12.trans (c13.bel (B := w1.heap.size) (by omega) (by omega))
    have S13 := S12.chg c13 (.inl (by omega))
    have OS13 := OS12.chg c13 (.inl (by omega))
    have G13 := G12.chg c13 (.inr (by omega))
    clear c13 B12 S12 OS12 G12 OG12
    go_wp2_with (refine wp_loadBox 48 (.tmp 12) rfl rfl (w7.heap.size) rfl (cs := [.int .i64 g0, .int .i64 g1, .slice gp gl gq]) G13 Tryz.underlying48 size_BR rfl ?_)
    refine (CH _ _ _ OG13.rd (by omega)).mono ?_
    rintro e w14 ⟨rfl, b14⟩
    have z14 : w13.heap.size ≤ w14.heap.size := b14.size
    have B14 := B13.trans (b14.mono (by omega))
    have S14 := S13.call b14
    have OS14 := OS13.call b14
    have G14 := G13.call b14
    have OG14 := OG13.call b14
    have P14 := HT1.out.call B14
    clear b14 B13 S13 OS13 G13 OG13
    have hn0 : ¬ (N : Int) < 0 := by omega
    go_wp2_with (refine wp_loadBox 28 (.tmp 4) rfl rfl (w.heap.size) rfl (cs := [.int .i64 v0, .int .i64 v1, .int .i64 v2, .int .i64 v3, .int .i64 v4, .int .i64 v5, .int .i64 v6, .int .i64 v7, .int .i64 v8, .slice vp0 vl0 vq0, .slice vp1 vl1 vq1, .slice vp2 vl2 vq2, .int .i64 v9, .int .i64 v10, .bool vb]) P14.b1 Tryz.underlying28 size_LW rfl ?_)
    refine (CT _ B14).mono ?_
    rintro e w15 ⟨c15, rfl, o15, b15⟩
    go_wp2_with fail
    refine (CI _ _ _ o15.rd (Nat.le_refl _)).mono ?_
    rintro e w16 ⟨cH, rfl, oH, b16⟩
    obtain ⟨h0, h1, hp, hl, hq, rfl⟩ := bres3 oH.rd
    have z15 : w14.heap.size ≤ w15.heap.size := b15.size
    have z16 : w15.heap.size ≤ w16.heap.size := b16.size
    have B16 := (B14.trans (b15.mono (by omega))).trans (b16.mono (by omega))
    have S16 := (S14.call b15).call b16
    have OS16 := (OS14.call b15).call b16
    have G16 := (G14.call b15).call b16
    have OG16 := (OG14.call b15).call b16
    clear P14 o15 b15 b16 B14 S14 OS14 G14 OG14
    go_upto_region 25 with (refine wp_allocStore 48 16 (.tmp 71) [.int .i64 h0, .int .i64 h1, .slice hp hl hq] _ 3 rfl rfl rfl rfl rfl rfl rfl rfl info_BR rfl rfl oH.one ?_)
    have bA : Below w16.heap.size w16 (w16.alloc (.cells #[.int .i64 h0, .int .i64 h1, .slice hp hl hq] 48)) := (Below.refl _ _).alloc (Nat.le_refl _) _
    have H17 : Box (w16.alloc (.cells #[.int .i64 h0, .int .i64 h1, .slice hp hl hq] 48)) w16.heap.size #[.int .i64 h0, .int .i64 h1, .slice hp hl hq] 48 := box_new _ _ _
    obtain ⟨W17, hW17⟩ : ∃ x, x = w16.alloc (.cells #[.int .i64 h0, .int .i64 h1, .slice hp hl hq] 48) := ⟨_, rfl⟩
    rw [← hW17] at bA H17 ⊢
    have B17 := B16.trans (bA.mono (by omega))
    have S17 := S16.call bA
    have OS17 := OS16.call bA
    have G17 := G16.call bA
    have OG17 := OG16.call bA
    have OH17 := oH.call bA
    have z17 : w16.heap.size < W17.heap.size := H17.lt
    clear bA hW17 oH B16 S16 OS16 G16 OG16
    go_wp2_with (first | (refine wp_loadBox 48 (.tmp 16) rfl rfl (w16.heap.size) rfl (cs := [.int .i64 h0, .int .i64 h1, .slice hp hl hq]) H17 Tryz.underlying48 size_BR rfl ?_) | (refine wp_loadBox 48 (.tmp 10) rfl rfl (w3.heap.size) rfl (cs := [.int .i64 s0, .int .i64 s1, .slice sp sl sq]) S17 Tryz.underlying48 size_BR rfl ?_))
    refine (CE _ _ _ _ _ OH17.rd OS17.rd (by omega) (by omega)).mono ?_
    rintro e w18 ⟨rfl, b18⟩
    have z18 : W17.heap.size ≤ w18.heap.size := b18.size
    have B18 := B17.trans (b18.mono (by omega))
    have G18 := G17.call b18
    have OG18 := OG17.call b18
    clear b18 B17 S17 OS17 G17 OG17 OH17 H17
    go_wp2_with (refine wp_loadBox 48 (.tmp 12) rfl rfl (w7.heap.size) rfl (cs := [.int .i64 g0, .int .i64 g1, .slice gp gl gq]) G18 Tryz.underlying48 size_BR rfl ?_)
    refine (CH _ _ _ OG18.rd (by omega)).mono ?_
    rintro e w19 ⟨rfl, b19⟩
    have HB : Hid (Below w.heap.size w w19) := (HT1.out.call (B18.trans (b19.mono (by omega)))).bel
    clear b19 B18 G18 OG18
    go_wp2
    go_ret
    exact ⟨rfl, HB.out⟩

set_option maxRecDepth 100000 in
theorem fnExactReadBlock_lifted (os : Os) (started : os.Started) (H : Type) (enc : TypeId × Value → H) :
    ReturnsInHanded {} Tryz.checked os 5 .any (Rows.fnExactReadBlockSpec.pre6 enc Tryz.prog Tryz.f5 Rows.fnExactReadBlockRow.domain false) (Rows.fnExactReadBlockSpec.post enc Tryz.prog Tryz.f5 false true false false) := by
  refine returnsInHanded_of_change (C := Tryz.checked) frame_own started (by kernel_rfl) Tryz.func5
    (ChangeSpec.witness6 (enc := enc) (C := Tryz.checked) false ⟨#[], #[.agg #[.int .i64 0, .int .i64 0, .int .i64 0, .int .i64 0, .int .i64 0, .int .i64 0, .int .i64 0, .int .i64 0, .int .i64 0, .slice none 0 0, .slice none 0 0, .slice none 0 0, .int .i64 0, .int .i64 0, .bool false], .int .i64 0, .int .i64 0, .int .i64 0], []⟩ 8 (by kernel_rfl) (by kernel_rfl) (by kernel_rfl) (by kernel_rfl)) ?_
  intro W base args ds gs before hval0 hW hcnd _
  have hval : ∀ (j : Nat) t v, Tryz.f5.params[j]? = some t → args[j]? = some v → Value.okWide Tryz.prog W .any base t v := hval0
  have hW' := hW
  obtain ⟨p, q, hA0, hV, rfl, hfz, hnd⟩ := hW
  have hA : DataW.TrodAll enc Tryz.prog W 0 (fun _ => true) true Tryz.f5.params.toList args.toList ds p := hA0
  rw [Tryz.params5] at hA hval
  obtain ⟨v0, vs0, d0, ds0, p0, q0, hargs, rfl, rfl, h0, r0⟩ := trodAll_cons hA
  obtain ⟨v1, vs1, d1, ds1, p1, q1, rfl, rfl, rfl, h1, r1⟩ := trodAll_cons r0
  obtain ⟨v2, vs2, d2, ds2, p2, q2, rfl, rfl, rfl, h2, r2⟩ := trodAll_cons r1
  obtain ⟨v3, vs3, d3, ds3, p3, q3, rfl, rfl, rfl, h3, r3⟩ := trodAll_cons r2
  obtain ⟨rfl, rfl, rfl⟩ := trodAll_nil r3
  obtain rfl : args = #[v0, v1, v2, v3] := by cases args; simp_all
  obtain ⟨rfl, rfl⟩ := trodVars_none hV
  have k0 := h0
  have lt0 : ∀ x ∈ p0, x.block < W.heap.size := by obtain ⟨m, hm⟩ := k0; exact DataW.trod_lt m _ _ _ hm
  obtain ⟨cs0, a0, rfl, rd0⟩ := struct_of_trod opensWorld Tryz.underlying28 (hval 0 28 v0 rfl rfl) h0
  obtain ⟨n1, rfl, rfl, rfl, hn1⟩ := open_int Tryz.underlying2 (hval 1 2 v1 rfl rfl) h1
  obtain ⟨n2, rfl, rfl, rfl, hn2⟩ := open_int Tryz.underlying2 (hval 2 2 v2 rfl rfl) h2
  obtain ⟨n3, rfl, rfl, rfl, hn3⟩ := open_int Tryz.underlying2 (hval 3 2 v3 rfl rfl) h3
  clear hA0 hval0
  refine (fnExactReadBlock_walk a0 cs0 n1 n2 n3 W rd0 (bounds_i64 hn1) (bounds_i64 hn2) (bounds_i64 hn3)).mono fun e W' ⟨he, bel⟩ => ?_
  subst he
  exact ⟨_, rfl, _, _, _, [], _, [], hW', trodAll_mk1 (shut_bool Tryz.underlying4 _), (trodAll_cons_mk (Below.trod frame_laid (by kernel_rfl) (of_decide_eq_true (by kernel_rfl)) k0 bel lt0) (trodAll_cons_mk (shut_int Tryz.underlying2 hn1) (trodAll_cons_mk (shut_int Tryz.underlying2 hn2) (trodAll_cons_mk (shut_int Tryz.underlying2 hn3) trodAll_mk0)))), rfl, bel.frame _, fun h => by cases h⟩

end Go.Proofs.YtbmfndjglndnlaaGreat
