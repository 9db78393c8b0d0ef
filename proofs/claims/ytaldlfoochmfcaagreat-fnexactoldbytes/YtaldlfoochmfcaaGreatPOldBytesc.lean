/- For every world, group, row and all bytes the program's OldBytes answers as the specification's does, writes into nothing that it is handed, keeps nothing of it, and owns what it answers: the law FnExactOldBytes returns true at every input, and changes nothing that was there. No condition. -/
import Derived.Test.YtaldlfoochmfcaaGreatRows
import Derived.Test.YtaldlfoochmfcaaGreatZPoldbyaa
import Derived.Test.YtaldlfoochmfcaaGreatZPoldbyab
import Derived.Test.YtaldlfoochmfcaaGreatZPoldbyac
import Derived.Test.YtaldlfoochmfcaaGreatZPoldbyad
import Derived.Test.YtaldlfoochmfcaaGreatZPoldbyag
import Derived.Deep.DeepCutAuto
import Derived.Deep.RegionLaw
namespace Go.Proofs.YtaldlfoochmfcaaGreat
open Go.ChangeShapes Go.WideShapes Go.ChangeAt Go.RowKit F256
set_option linter.unusedVariables false
set_option linter.unusedSimpArgs false
theorem res2_BytesResult {w : World} {hi : Nat} {d : BytesResultD} {cs : List Value} (h : layBytesResult.rd w hi d cs) : ∃ v0 vp vl vq, cs = [.int .i64 v0, .slice vp vl vq] := by
  obtain ⟨p1, pc1, rfl, -⟩ := BytesResult_rd h
  exact ⟨_, _, _, _, rfl⟩
theorem info_BytesResult : (Tryz.prog.info? 32).map (fun i => (i.zero.map (·.cells), i.size)) = some (some #[.int .i64 0, .slice none 0 0], 2) := by kernel_rfl
theorem oldC_ex (d : WorldD) (g r : Int) (n : Nat) : ∃ x, OldC d g r n x := by
  obtain ⟨y, hy⟩ := ask_ex d
  by_cases h : y = 0
  · subst h
    by_cases h1 : WhP d.shape g r
    · by_cases h2 : (n : Int) = d.shape 2 * 4
      · by_cases h3 : HasP d.on.1 d.on.2 g
        · by_cases h4 : DeadP d g.toNat
          · exact ⟨10, .inr ⟨hy, .inr ⟨h1, .inr ⟨h2, .inr ⟨h3, .inl ⟨h4, rfl⟩⟩⟩⟩⟩⟩
          · exact ⟨0, .inr ⟨hy, .inr ⟨h1, .inr ⟨h2, .inr ⟨h3, .inr ⟨h4, rfl⟩⟩⟩⟩⟩⟩
        · exact ⟨8, .inr ⟨hy, .inr ⟨h1, .inr ⟨h2, .inl ⟨h3, rfl⟩⟩⟩⟩⟩
      · exact ⟨1, .inr ⟨hy, .inr ⟨h1, .inl ⟨h2, rfl⟩⟩⟩⟩
    · exact ⟨3, .inr ⟨hy, .inl ⟨h1, rfl⟩⟩⟩
  · exact ⟨y, .inl ⟨h, hy⟩⟩
theorem old_ex (d : WorldD) (g r : Int) (n : Nat) (f : Nat → Nat) : ∃ q, OldAns d g r n f q := by
  obtain ⟨x, hx⟩ := oldC_ex d g r n
  by_cases h : x = 0
  · subst h
    exact ⟨_, .inr ⟨hx, rfl⟩⟩
  · exact ⟨_, .inl ⟨x, h, hx, rfl⟩⟩
theorem old_cv {d : WorldD} {g r : Int} {n : Nat} {f : Nat → Nat} {q : BytesResultD} (hq : OldAns d g r n f q) (hsz : szWorldD d ≤ 1048576) : cvBytesResultD q ≤ 90000000 := by
  rcases hq with ⟨x, _, _, rfl⟩ | ⟨h0, rfl⟩
  · exact Nat.zero_le _
  · obtain ⟨s1, s2, _⟩ := (ask_ok (old_zero h0).1).shape
    unfold Shp at s2
    show 4 * (d.shape 2).toNat ≤ _
    omega
theorem old_det {d : WorldD} {g r : Int} {n : Nat} {f : Nat → Nat} {q : BytesResultD} {w : World} {fn : Nat} {args : Array Value} (hq : OldAns d g r n f q) (h : Calls Tryz.prog fn args w (YPost (OldAns d g r n f) w)) : Calls Tryz.prog fn args w fun e w' => ∃ cs, e = .returned (.agg cs.toArray) ∧ OwnT layBytesResult w' w.heap.size w'.heap.size q cs ∧ Below w.heap.size w w' :=
  h.mono fun e w' ⟨d', cs, h1, h2, h3, h4⟩ => ⟨cs, h1, by rw [hq.one h2]; exact h3, h4⟩
theorem opensBytesU : Opens layBytes 29 := opensBytes Tryz.underlying29 Tryz.underlying5 (by kernel_rfl) (by kernel_rfl)
theorem slice_of_trod {α : Type} {A : Lay α} {H : Type} {enc : TypeId × Value → H} {W : World} {ao : Option Addr} {len cap : Nat} {d : DataW H} {ps : List MemPlace} {t : TypeId} (hO : Opens A t)
    (h : DataW.Trod enc Tryz.prog W 0 (fun _ => true) true t (.slice ao len cap) d ps) : ∃ a, A.rd W W.heap.size a [.slice ao len cap] := by
  obtain ⟨fuel, hfu⟩ := h
  exact hO.opens (cs := [.slice ao len cap]) hfu
theorem mark_S {α : Type} {A : Lay α} {c : α → Nat} {mk : Nat → α → α} {fn : Nat} (hm : MkS A c mk fn) {w : World} {lo hi : Nat} {d : α} {v : Value} (h : OwnT A w lo hi d [v]) (j : Nat) (hj : j + c d ≤ 100000000) :
    Calls Tryz.prog fn #[v, .int .i64 j] w fun e w' => e = .returned (.int .i64 ((j + c d : Nat) : Int)) ∧ OwnT A w' lo hi (mk j d) [v] ∧ Chg lo hi w w' := by
  obtain ⟨L, h1, h2, h3⟩ := h
  exact (hm v d L j w h1 h2 hj).mono fun e w' ⟨he, ho, hc⟩ => ⟨he, ⟨L, ho, h2, h3⟩, hc.chg h3⟩
theorem size_YR : (Tryz.prog.info? 32).map (·.size) = some 2 := by kernel_rfl
set_option maxHeartbeats 16000000 in
set_option maxRecDepth 20000 in
theorem fnExactOldBytes_walk (d : WorldD) (cs : List Value) (i0 i1 : Int) (q : Nat × (Nat → Nat)) (u : Value) (w : World) (rd0 : layWorld.rd w w.heap.size d cs) (hi0 : -9223372036854775808 ≤ i0 ∧ i0 ≤ 9223372036854775807) (hi1 : -9223372036854775808 ≤ i1 ∧ i1 ≤ 9223372036854775807) (r2 : layBytes.rd w w.heap.size q [u]) :
    Calls Tryz.prog 3 #[.agg cs.toArray, .int .i64 i0, .int .i64 i1, u] w fun e w' => e = .returned (.bool true) ∧ Below w.heap.size w w' := by
  obtain ⟨v0, v1, v2, v3, v4, v5, v6, v7, v8, vp0, vl0, vq0, vp1, vl1, vq1, vp2, vl2, vq2, v9, v10, vb, rfl⟩ := world15 rd0
  have HR : Hid (layWorld.rd w w.heap.size d [.int .i64 v0, .int .i64 v1, .int .i64 v2, .int .i64 v3, .int .i64 v4, .int .i64 v5, .int .i64 v6, .int .i64 v7, .int .i64 v8, .slice vp0 vl0 vq0, .slice vp1 vl1 vq1, .slice vp2 vl2 vq2, .int .i64 v9, .int .i64 v10, .bool vb]) := rd0
  obtain ⟨bo, bc, hv⟩ := bytes_form r2
  obtain rfl := one_eq hv
  have R2 : Hid (layBytes.rd w w.heap.size q [.slice bo q.1 bc]) := r2
  have hqm : q.1 ≤ maxLen := by
    obtain ⟨v', e9, r9, _⟩ := r2
    cases e9
    obtain ⟨_, _, e8, h8, _⟩ := r9
    exact h8
  unfold maxLen at hqm
  clear rd0 r2 hv hi0 hi1
  have T0 := one_new w #[.int .i64 v0, .int .i64 v1, .int .i64 v2, .int .i64 v3, .int .i64 v4, .int .i64 v5, .int .i64 v6, .int .i64 v7, .int .i64 v8, .slice vp0 vl0 vq0, .slice vp1 vl1 vq1, .slice vp2 vl2 vq2, .int .i64 v9, .int .i64 v10, .bool vb] 28
  by_cases hbig : 1048576 < q.1
  · have hb1 : (1048576 : Int) < (q.1 : Int) := by omega
    have HB0 : Hid (Below w.heap.size w (w.alloc (.cells #[.int .i64 v0, .int .i64 v1, .int .i64 v2, .int .i64 v3, .int .i64 v4, .int .i64 v5, .int .i64 v6, .int .i64 v7, .int .i64 v8, .slice vp0 vl0 vq0, .slice vp1 vl1 vq1, .slice vp2 vl2 vq2, .int .i64 v9, .int .i64 v10, .bool vb] 28))) := T0.bel
    clear T0 hbig
    go_enter Tryz.func3, Tryz.ntmps3
    go_wp2
    go_ret
    exact ⟨rfl, HB0.out⟩
  have hb1 : ¬ (1048576 : Int) < (q.1 : Int) := by omega
  have hbb : q.1 ≤ 1048576 := by omega
  clear hbig
  go_enter Tryz.func3, Tryz.ntmps3
  go_wp2_with (refine wp_loadBox 28 (.tmp 4) rfl rfl (w.heap.size) rfl (cs := [.int .i64 v0, .int .i64 v1, .int .i64 v2, .int .i64 v3, .int .i64 v4, .int .i64 v5, .int .i64 v6, .int .i64 v7, .int .i64 v8, .slice vp0 vl0 vq0, .slice vp1 vl1 vq1, .slice vp2 vl2 vq2, .int .i64 v9, .int .i64 v10, .bool vb]) T0.b1 Tryz.underlying28 size_LW rfl ?_)
  refine (szWorld_is _ d w.heap.size 1048576 _ (layWorld.rd_below HR.out T0.bel (Nat.le_refl _)) T0.bel.size (by omega)).mono ?_
  rintro e w1 ⟨x, rfl, hx, bb⟩
  have T1 := T0.call bb
  have P : Hid (Box w1 (w.heap.size) #[.int .i64 v0, .int .i64 v1, .int .i64 v2, .int .i64 v3, .int .i64 v4, .int .i64 v5, .int .i64 v6, .int .i64 v7, .int .i64 v8, .slice vp0 vl0 vq0, .slice vp1 vl1 vq1, .slice vp2 vl2 vq2, .int .i64 v9, .int .i64 v10, .bool vb] 28) := T1.b1
  have HB : Hid (Below w.heap.size w w1) := T1.bel
  have z0 : w.heap.size < w1.heap.size := P.out.lt
  clear T0 T1 bb
  rcases hx with rfl | ⟨hsz, hx⟩
  · go_wp2
    go_ret
    exact ⟨rfl, HB.out⟩
  have hx0 : ¬ x < 0 := by omega
  clear hx
  obtain ⟨y, hy⟩ := old_ex d i0 i1 q.1 q.2
  obtain ⟨N, hN⟩ : ∃ N, N = 1 + cvBytesResultD y := ⟨_, rfl⟩
  have hj : 1 + cvBytesResultD y ≤ 100000000 := by have := old_cv hy hsz; omega
  obtain ⟨M, hM⟩ : ∃ M, M = 1 + cvWorldD d := ⟨_, rfl⟩
  have hk : 1 + cvWorldD d ≤ 90000000 := by have := cvWorld_le d; omega
  obtain ⟨K, hK⟩ : ∃ K, K = M + lenD q := ⟨_, rfl⟩
  have hk2 : M + lenD q ≤ 100000000 := by unfold lenD; omega
  have hm0 : ¬ (K : Int) < 0 := by omega
  have hn0 : ¬ (N : Int) < 0 := by omega
  have CT : ∀ w', Below w.heap.size w w' → Calls Tryz.prog 6 #[.agg #[.int .i64 v0, .int .i64 v1, .int .i64 v2, .int .i64 v3, .int .i64 v4, .int .i64 v5, .int .i64 v6, .int .i64 v7, .int .i64 v8, .slice vp0 vl0 vq0, .slice vp1 vl1 vq1, .slice vp2 vl2 vq2, .int .i64 v9, .int .i64 v10, .bool vb]] w' fun e w'' => ∃ cs', e = .returned (.agg cs'.toArray) ∧ OwnT layWorld w'' w'.heap.size w''.heap.size d cs' ∧ Below w'.heap.size w' w'' := fun w' hb =>
    toWorld_is _ d w.heap.size w' (layWorld.rd_below HR.out hb (Nat.le_refl _)) hb.size hsz
  have CB : ∀ w', Below w.heap.size w w' → Calls Tryz.prog 7 #[.slice bo q.1 bc] w' fun e w'' => ∃ v', e = .returned v' ∧ OwnT layBytes w'' w'.heap.size w''.heap.size q [v'] ∧ Below w'.heap.size w' w'' := fun w' hb =>
    toBytes_is _ q w.heap.size w' (layBytes.rd_below R2.out hb (Nat.le_refl _)) hb.size hbb
  have CS := fun (cs' : List Value) (ao' : Option Addr) (cap' k1 k2 : Nat) (w' : World) (h1 : layWorld.rd w' k1 d cs') (h2 : k1 ≤ w'.heap.size) (h3 : layBytes.rd w' k2 q [.slice ao' q.1 cap']) (h4 : k2 ≤ w'.heap.size) => old_det hy (specOld_any d i0 i1 q.1 cap' ao' q.2 cs' k1 k2 w' h1 h2 h3 h4 hsz hbb)
  have CI := fun (cs' : List Value) (ao' : Option Addr) (cap' k1 k2 : Nat) (w' : World) (h1 : layWorld.rd w' k1 d cs') (h2 : k1 ≤ w'.heap.size) (h3 : layBytes.rd w' k2 q [.slice ao' q.1 cap']) (h4 : k2 ≤ w'.heap.size) => old_det hy (implOld_any d i0 i1 q.1 cap' ao' q.2 cs' k1 k2 w' h1 h2 h3 h4 hsz hbb)
  have CE := fun c1 c2 h1 h2 w' => eqBytesResult_is c1 c2 y h1 h2 w'
  have CW := fun c1 c2 h1 h2 w' => eqWorld_is c1 c2 d h1 h2 w'
  have CM := fun {w' : World} {lo hi : Nat} {cs : List Value} (h : OwnT layBytesResult w' lo hi y cs) => mark_T markBytesResult_is h 1 hj
  have CK := fun {w' : World} {lo hi : Nat} {cs : List Value} (h : OwnT layWorld w' lo hi d cs) => mark_T markWorld_is h 1 (by omega)
  have CKB := fun {w' : World} {lo hi : Nat} {v : Value} (h : OwnT layBytes w' lo hi q [v]) => mark_S markBytes_is h M hk2
  have CH := fun (cs : List Value) (hi : Nat) (w' : World) (h : layBytesResult.rd w' hi (mkvBytesResultD 1 y) cs) (hh : hi ≤ w'.heap.size) => heldBytesResult_is cs y hi 1 w' h hh hj
  rw [← hN] at CM CH
  rw [← hM] at CK
  rw [← hK] at CKB
  clear hN hM hK hj hk hk2 hy hsz
  go_wp2_with (refine wp_loadBox 28 (.tmp 4) rfl rfl (w.heap.size) rfl (cs := [.int .i64 v0, .int .i64 v1, .int .i64 v2, .int .i64 v3, .int .i64 v4, .int .i64 v5, .int .i64 v6, .int .i64 v7, .int .i64 v8, .slice vp0 vl0 vq0, .slice vp1 vl1 vq1, .slice vp2 vl2 vq2, .int .i64 v9, .int .i64 v10, .bool vb]) P.out Tryz.underlying28 size_LW rfl ?_)
  refine (CT _ HB.out).mono ?_
  rintro e w2 ⟨cA, rfl, oo, bb⟩
  have P' : Hid (Box w2 (w.heap.size) #[.int .i64 v0, .int .i64 v1, .int .i64 v2, .int .i64 v3, .int .i64 v4, .int .i64 v5, .int .i64 v6, .int .i64 v7, .int .i64 v8, .slice vp0 vl0 vq0, .slice vp1 vl1 vq1, .slice vp2 vl2 vq2, .int .i64 v9, .int .i64 v10, .bool vb] 28) := P.out.call bb
  clear P
  have P := P'
  clear P'
  have HB' : Hid (Below w.heap.size w w2) := HB.out.trans (bb.mono HB.out.size)
  clear HB
  have HB := HB'
  clear HB'
  have z1 : w1.heap.size ≤ w2.heap.size := bb.size
  have A1 : Hid (OwnT layWorld w2 (w1.heap.size) (w2.heap.size) d cA) := oo
  clear oo bb
  go_wp2_with fail
  refine (CB _ HB.out).mono ?_
  rintro e w3 ⟨vA, rfl, oo, bb⟩
  have A1' : Hid (OwnT layWorld w3 (w1.heap.size) (w2.heap.size) d cA) := A1.out.call bb
  clear A1
  have P' : Hid (Box w3 (w.heap.size) #[.int .i64 v0, .int .i64 v1, .int .i64 v2, .int .i64 v3, .int .i64 v4, .int .i64 v5, .int .i64 v6, .int .i64 v7, .int .i64 v8, .slice vp0 vl0 vq0, .slice vp1 vl1 vq1, .slice vp2 vl2 vq2, .int .i64 v9, .int .i64 v10, .bool vb] 28) := P.out.call bb
  clear P
  have P := P'
  clear P'
  have HB' : Hid (Below w.heap.size w w3) := HB.out.trans (bb.mono HB.out.size)
  clear HB
  have HB := HB'
  clear HB'
  have z2 : w2.heap.size ≤ w3.heap.size := bb.size
  obtain ⟨aA, capA, hv⟩ := bytes_formT oo
  obtain rfl := one_eq hv
  clear hv
  have A2 : Hid (OwnT layBytes w3 (w2.heap.size) (w3.heap.size) q [.slice aA q.1 capA]) := oo
  clear oo bb
  go_wp2_with fail
  refine (CS _ _ _ _ _ _ A1'.out.rd (by omega) A2.out.rd (Nat.le_refl _)).mono ?_
  rintro e w4 ⟨cc, rfl, oo, bb⟩
  obtain ⟨s0, sp, sl, sq, hv⟩ := res2_BytesResult oo.rd
  subst hv
  have P' : Hid (Box w4 (w.heap.size) #[.int .i64 v0, .int .i64 v1, .int .i64 v2, .int .i64 v3, .int .i64 v4, .int .i64 v5, .int .i64 v6, .int .i64 v7, .int .i64 v8, .slice vp0 vl0 vq0, .slice vp1 vl1 vq1, .slice vp2 vl2 vq2, .int .i64 v9, .int .i64 v10, .bool vb] 28) := P.out.call bb
  clear P
  have P := P'
  clear P'
  have HB' : Hid (Below w.heap.size w w4) := HB.out.trans (bb.mono HB.out.size)
  clear HB
  have HB := HB'
  clear HB'
  have z3 : w3.heap.size ≤ w4.heap.size := bb.size
  have OS : Hid (OwnT layBytesResult w4 (w3.heap.size) (w4.heap.size) (y) [.int .i64 s0, .slice sp sl sq]) := oo
  clear oo bb
  clear A1' A2
  go_upto_region 8 with (refine wp_allocStore 32 10 (.tmp 32) [.int .i64 s0, .slice sp sl sq] _ 2 rfl rfl rfl rfl rfl rfl rfl rfl info_BytesResult rfl rfl OS.out.one ?_)
  have bA : Below w4.heap.size w4 (w4.alloc (.cells #[.int .i64 s0, .slice sp sl sq] 32)) := (Below.refl _ _).alloc (Nat.le_refl _) _
  have bx : Box (w4.alloc (.cells #[.int .i64 s0, .slice sp sl sq] 32)) w4.heap.size #[.int .i64 s0, .slice sp sl sq] 32 := box_new _ _ _
  obtain ⟨w5, hW⟩ : ∃ x, x = w4.alloc (.cells #[.int .i64 s0, .slice sp sl sq] 32) := ⟨_, rfl⟩
  rw [← hW] at bA bx ⊢
  have P' : Hid (Box w5 (w.heap.size) #[.int .i64 v0, .int .i64 v1, .int .i64 v2, .int .i64 v3, .int .i64 v4, .int .i64 v5, .int .i64 v6, .int .i64 v7, .int .i64 v8, .slice vp0 vl0 vq0, .slice vp1 vl1 vq1, .slice vp2 vl2 vq2, .int .i64 v9, .int .i64 v10, .bool vb] 28) := P.out.call bA
  clear P
  have P := P'
  clear P'
  have OS' : Hid (OwnT layBytesResult w5 (w3.heap.size) (w4.heap.size) (y) [.int .i64 s0, .slice sp sl sq]) := OS.out.call bA
  clear OS
  have OS := OS'
  clear OS'
  have HB' : Hid (Below w.heap.size w w5) := HB.out.trans (bA.mono HB.out.size)
  clear HB
  have HB := HB'
  clear HB'
  have z4 : w4.heap.size ≤ w5.heap.size := bA.size
  have S : Hid (Box w5 (w4.heap.size) #[.int .i64 s0, .slice sp sl sq] 32) := bx
  have z5 : w4.heap.size < w5.heap.size := bx.lt
  clear bA bx hW
  go_wp2_with (refine wp_loadBox 28 (.tmp 4) rfl rfl (w.heap.size) rfl (cs := [.int .i64 v0, .int .i64 v1, .int .i64 v2, .int .i64 v3, .int .i64 v4, .int .i64 v5, .int .i64 v6, .int .i64 v7, .int .i64 v8, .slice vp0 vl0 vq0, .slice vp1 vl1 vq1, .slice vp2 vl2 vq2, .int .i64 v9, .int .i64 v10, .bool vb]) P.out Tryz.underlying28 size_LW rfl ?_)
  refine (CT _ HB.out).mono ?_
  rintro e w6 ⟨cc, rfl, oo, bb⟩
  obtain ⟨x0, x1, x2, x3, x4, x5, x6, x7, x8, xp0, xl0, xq0, xp1, xl1, xq1, xp2, xl2, xq2, x9, x10, xb, hv⟩ := world15O oo
  subst hv
  have P' : Hid (Box w6 (w.heap.size) #[.int .i64 v0, .int .i64 v1, .int .i64 v2, .int .i64 v3, .int .i64 v4, .int .i64 v5, .int .i64 v6, .int .i64 v7, .int .i64 v8, .slice vp0 vl0 vq0, .slice vp1 vl1 vq1, .slice vp2 vl2 vq2, .int .i64 v9, .int .i64 v10, .bool vb] 28) := P.out.call bb
  clear P
  have P := P'
  clear P'
  have OS' : Hid (OwnT layBytesResult w6 (w3.heap.size) (w4.heap.size) (y) [.int .i64 s0, .slice sp sl sq]) := OS.out.call bb
  clear OS
  have OS := OS'
  clear OS'
  have S' : Hid (Box w6 (w4.heap.size) #[.int .i64 s0, .slice sp sl sq] 32) := S.out.call bb
  clear S
  have S := S'
  clear S'
  have HB' : Hid (Below w.heap.size w w6) := HB.out.trans (bb.mono HB.out.size)
  clear HB
  have HB := HB'
  clear HB'
  have z6 : w5.heap.size ≤ w6.heap.size := bb.size
  have OX : Hid (OwnT layWorld w6 (w5.heap.size) (w6.heap.size) (d) [.int .i64 x0, .int .i64 x1, .int .i64 x2, .int .i64 x3, .int .i64 x4, .int .i64 x5, .int .i64 x6, .int .i64 x7, .int .i64 x8, .slice xp0 xl0 xq0, .slice xp1 xl1 xq1, .slice xp2 xl2 xq2, .int .i64 x9, .int .i64 x10, .bool xb]) := oo
  clear oo bb
  go_upto_region 9 with (refine wp_allocStore 38 11 (.tmp 34) [.int .i64 x0, .int .i64 x1, .int .i64 x2, .int .i64 x3, .int .i64 x4, .int .i64 x5, .int .i64 x6, .int .i64 x7, .int .i64 x8, .slice xp0 xl0 xq0, .slice xp1 xl1 xq1, .slice xp2 xl2 xq2, .int .i64 x9, .int .i64 x10, .bool xb] _ 15 rfl rfl rfl rfl rfl rfl rfl rfl info_W rfl rfl OX.out.one ?_)
  have bA : Below w6.heap.size w6 (w6.alloc (.cells #[.int .i64 x0, .int .i64 x1, .int .i64 x2, .int .i64 x3, .int .i64 x4, .int .i64 x5, .int .i64 x6, .int .i64 x7, .int .i64 x8, .slice xp0 xl0 xq0, .slice xp1 xl1 xq1, .slice xp2 xl2 xq2, .int .i64 x9, .int .i64 x10, .bool xb] 38)) := (Below.refl _ _).alloc (Nat.le_refl _) _
  have bx : Box (w6.alloc (.cells #[.int .i64 x0, .int .i64 x1, .int .i64 x2, .int .i64 x3, .int .i64 x4, .int .i64 x5, .int .i64 x6, .int .i64 x7, .int .i64 x8, .slice xp0 xl0 xq0, .slice xp1 xl1 xq1, .slice xp2 xl2 xq2, .int .i64 x9, .int .i64 x10, .bool xb] 38)) w6.heap.size #[.int .i64 x0, .int .i64 x1, .int .i64 x2, .int .i64 x3, .int .i64 x4, .int .i64 x5, .int .i64 x6, .int .i64 x7, .int .i64 x8, .slice xp0 xl0 xq0, .slice xp1 xl1 xq1, .slice xp2 xl2 xq2, .int .i64 x9, .int .i64 x10, .bool xb] 38 := box_new _ _ _
  obtain ⟨w7, hW⟩ : ∃ x, x = w6.alloc (.cells #[.int .i64 x0, .int .i64 x1, .int .i64 x2, .int .i64 x3, .int .i64 x4, .int .i64 x5, .int .i64 x6, .int .i64 x7, .int .i64 x8, .slice xp0 xl0 xq0, .slice xp1 xl1 xq1, .slice xp2 xl2 xq2, .int .i64 x9, .int .i64 x10, .bool xb] 38) := ⟨_, rfl⟩
  rw [← hW] at bA bx ⊢
  have P' : Hid (Box w7 (w.heap.size) #[.int .i64 v0, .int .i64 v1, .int .i64 v2, .int .i64 v3, .int .i64 v4, .int .i64 v5, .int .i64 v6, .int .i64 v7, .int .i64 v8, .slice vp0 vl0 vq0, .slice vp1 vl1 vq1, .slice vp2 vl2 vq2, .int .i64 v9, .int .i64 v10, .bool vb] 28) := P.out.call bA
  clear P
  have P := P'
  clear P'
  have OS' : Hid (OwnT layBytesResult w7 (w3.heap.size) (w4.heap.size) (y) [.int .i64 s0, .slice sp sl sq]) := OS.out.call bA
  clear OS
  have OS := OS'
  clear OS'
  have S' : Hid (Box w7 (w4.heap.size) #[.int .i64 s0, .slice sp sl sq] 32) := S.out.call bA
  clear S
  have S := S'
  clear S'
  have OX' : Hid (OwnT layWorld w7 (w5.heap.size) (w6.heap.size) (d) [.int .i64 x0, .int .i64 x1, .int .i64 x2, .int .i64 x3, .int .i64 x4, .int .i64 x5, .int .i64 x6, .int .i64 x7, .int .i64 x8, .slice xp0 xl0 xq0, .slice xp1 xl1 xq1, .slice xp2 xl2 xq2, .int .i64 x9, .int .i64 x10, .bool xb]) := OX.out.call bA
  clear OX
  have OX := OX'
  clear OX'
  have HB' : Hid (Below w.heap.size w w7) := HB.out.trans (bA.mono HB.out.size)
  clear HB
  have HB := HB'
  clear HB'
  have z7 : w6.heap.size ≤ w7.heap.size := bA.size
  have X : Hid (Box w7 (w6.heap.size) #[.int .i64 x0, .int .i64 x1, .int .i64 x2, .int .i64 x3, .int .i64 x4, .int .i64 x5, .int .i64 x6, .int .i64 x7, .int .i64 x8, .slice xp0 xl0 xq0, .slice xp1 xl1 xq1, .slice xp2 xl2 xq2, .int .i64 x9, .int .i64 x10, .bool xb] 38) := bx
  have z8 : w6.heap.size < w7.heap.size := bx.lt
  clear bA bx hW
  go_wp2_with fail
  refine (CB _ HB.out).mono ?_
  rintro e w8 ⟨vY, rfl, oo, bb⟩
  obtain ⟨yo, yc, hv⟩ := bytes_formT oo
  obtain rfl := one_eq hv
  clear hv
  have P' : Hid (Box w8 (w.heap.size) #[.int .i64 v0, .int .i64 v1, .int .i64 v2, .int .i64 v3, .int .i64 v4, .int .i64 v5, .int .i64 v6, .int .i64 v7, .int .i64 v8, .slice vp0 vl0 vq0, .slice vp1 vl1 vq1, .slice vp2 vl2 vq2, .int .i64 v9, .int .i64 v10, .bool vb] 28) := P.out.call bb
  clear P
  have P := P'
  clear P'
  have OS' : Hid (OwnT layBytesResult w8 (w3.heap.size) (w4.heap.size) (y) [.int .i64 s0, .slice sp sl sq]) := OS.out.call bb
  clear OS
  have OS := OS'
  clear OS'
  have S' : Hid (Box w8 (w4.heap.size) #[.int .i64 s0, .slice sp sl sq] 32) := S.out.call bb
  clear S
  have S := S'
  clear S'
  have OX' : Hid (OwnT layWorld w8 (w5.heap.size) (w6.heap.size) (d) [.int .i64 x0, .int .i64 x1, .int .i64 x2, .int .i64 x3, .int .i64 x4, .int .i64 x5, .int .i64 x6, .int .i64 x7, .int .i64 x8, .slice xp0 xl0 xq0, .slice xp1 xl1 xq1, .slice xp2 xl2 xq2, .int .i64 x9, .int .i64 x10, .bool xb]) := OX.out.call bb
  clear OX
  have OX := OX'
  clear OX'
  have X' : Hid (Box w8 (w6.heap.size) #[.int .i64 x0, .int .i64 x1, .int .i64 x2, .int .i64 x3, .int .i64 x4, .int .i64 x5, .int .i64 x6, .int .i64 x7, .int .i64 x8, .slice xp0 xl0 xq0, .slice xp1 xl1 xq1, .slice xp2 xl2 xq2, .int .i64 x9, .int .i64 x10, .bool xb] 38) := X.out.call bb
  clear X
  have X := X'
  clear X'
  have HB' : Hid (Below w.heap.size w w8) := HB.out.trans (bb.mono HB.out.size)
  clear HB
  have HB := HB'
  clear HB'
  have z9 : w7.heap.size ≤ w8.heap.size := bb.size
  have OY : Hid (OwnT layBytes w8 (w7.heap.size) (w8.heap.size) (q) [.slice yo q.1 yc]) := oo
  clear oo bb
  go_wp2_with (refine wp_loadBox 38 (.tmp 11) rfl rfl (w6.heap.size) rfl (cs := [.int .i64 x0, .int .i64 x1, .int .i64 x2, .int .i64 x3, .int .i64 x4, .int .i64 x5, .int .i64 x6, .int .i64 x7, .int .i64 x8, .slice xp0 xl0 xq0, .slice xp1 xl1 xq1, .slice xp2 xl2 xq2, .int .i64 x9, .int .i64 x10, .bool xb]) X.out Tryz.underlying38 size_W rfl ?_)
  refine (CI _ _ _ _ _ _ OX.out.rd (by omega) OY.out.rd (by omega)).mono ?_
  rintro e w9 ⟨cc, rfl, oo, bb⟩
  obtain ⟨g0, gp, gl, gq, hv⟩ := res2_BytesResult oo.rd
  subst hv
  have P' : Hid (Box w9 (w.heap.size) #[.int .i64 v0, .int .i64 v1, .int .i64 v2, .int .i64 v3, .int .i64 v4, .int .i64 v5, .int .i64 v6, .int .i64 v7, .int .i64 v8, .slice vp0 vl0 vq0, .slice vp1 vl1 vq1, .slice vp2 vl2 vq2, .int .i64 v9, .int .i64 v10, .bool vb] 28) := P.out.call bb
  clear P
  have P := P'
  clear P'
  have OS' : Hid (OwnT layBytesResult w9 (w3.heap.size) (w4.heap.size) (y) [.int .i64 s0, .slice sp sl sq]) := OS.out.call bb
  clear OS
  have OS := OS'
  clear OS'
  have S' : Hid (Box w9 (w4.heap.size) #[.int .i64 s0, .slice sp sl sq] 32) := S.out.call bb
  clear S
  have S := S'
  clear S'
  have OX' : Hid (OwnT layWorld w9 (w5.heap.size) (w6.heap.size) (d) [.int .i64 x0, .int .i64 x1, .int .i64 x2, .int .i64 x3, .int .i64 x4, .int .i64 x5, .int .i64 x6, .int .i64 x7, .int .i64 x8, .slice xp0 xl0 xq0, .slice xp1 xl1 xq1, .slice xp2 xl2 xq2, .int .i64 x9, .int .i64 x10, .bool xb]) := OX.out.call bb
  clear OX
  have OX := OX'
  clear OX'
  have X' : Hid (Box w9 (w6.heap.size) #[.int .i64 x0, .int .i64 x1, .int .i64 x2, .int .i64 x3, .int .i64 x4, .int .i64 x5, .int .i64 x6, .int .i64 x7, .int .i64 x8, .slice xp0 xl0 xq0, .slice xp1 xl1 xq1, .slice xp2 xl2 xq2, .int .i64 x9, .int .i64 x10, .bool xb] 38) := X.out.call bb
  clear X
  have X := X'
  clear X'
  have OY' : Hid (OwnT layBytes w9 (w7.heap.size) (w8.heap.size) (q) [.slice yo q.1 yc]) := OY.out.call bb
  clear OY
  have OY := OY'
  clear OY'
  have HB' : Hid (Below w.heap.size w w9) := HB.out.trans (bb.mono HB.out.size)
  clear HB
  have HB := HB'
  clear HB'
  have z10 : w8.heap.size ≤ w9.heap.size := bb.size
  have OG : Hid (OwnT layBytesResult w9 (w8.heap.size) (w9.heap.size) (y) [.int .i64 g0, .slice gp gl gq]) := oo
  clear oo bb
  go_upto_region 11 with (refine wp_allocStore 32 13 (.tmp 41) [.int .i64 g0, .slice gp gl gq] _ 2 rfl rfl rfl rfl rfl rfl rfl rfl info_BytesResult rfl rfl OG.out.one ?_)
  have bA : Below w9.heap.size w9 (w9.alloc (.cells #[.int .i64 g0, .slice gp gl gq] 32)) := (Below.refl _ _).alloc (Nat.le_refl _) _
  have bx : Box (w9.alloc (.cells #[.int .i64 g0, .slice gp gl gq] 32)) w9.heap.size #[.int .i64 g0, .slice gp gl gq] 32 := box_new _ _ _
  obtain ⟨w10, hW⟩ : ∃ x, x = w9.alloc (.cells #[.int .i64 g0, .slice gp gl gq] 32) := ⟨_, rfl⟩
  rw [← hW] at bA bx ⊢
  have P' : Hid (Box w10 (w.heap.size) #[.int .i64 v0, .int .i64 v1, .int .i64 v2, .int .i64 v3, .int .i64 v4, .int .i64 v5, .int .i64 v6, .int .i64 v7, .int .i64 v8, .slice vp0 vl0 vq0, .slice vp1 vl1 vq1, .slice vp2 vl2 vq2, .int .i64 v9, .int .i64 v10, .bool vb] 28) := P.out.call bA
  clear P
  have P := P'
  clear P'
  have OS' : Hid (OwnT layBytesResult w10 (w3.heap.size) (w4.heap.size) (y) [.int .i64 s0, .slice sp sl sq]) := OS.out.call bA
  clear OS
  have OS := OS'
  clear OS'
  have S' : Hid (Box w10 (w4.heap.size) #[.int .i64 s0, .slice sp sl sq] 32) := S.out.call bA
  clear S
  have S := S'
  clear S'
  have OX' : Hid (OwnT layWorld w10 (w5.heap.size) (w6.heap.size) (d) [.int .i64 x0, .int .i64 x1, .int .i64 x2, .int .i64 x3, .int .i64 x4, .int .i64 x5, .int .i64 x6, .int .i64 x7, .int .i64 x8, .slice xp0 xl0 xq0, .slice xp1 xl1 xq1, .slice xp2 xl2 xq2, .int .i64 x9, .int .i64 x10, .bool xb]) := OX.out.call bA
  clear OX
  have OX := OX'
  clear OX'
  have X' : Hid (Box w10 (w6.heap.size) #[.int .i64 x0, .int .i64 x1, .int .i64 x2, .int .i64 x3, .int .i64 x4, .int .i64 x5, .int .i64 x6, .int .i64 x7, .int .i64 x8, .slice xp0 xl0 xq0, .slice xp1 xl1 xq1, .slice xp2 xl2 xq2, .int .i64 x9, .int .i64 x10, .bool xb] 38) := X.out.call bA
  clear X
  have X := X'
  clear X'
  have OY' : Hid (OwnT layBytes w10 (w7.heap.size) (w8.heap.size) (q) [.slice yo q.1 yc]) := OY.out.call bA
  clear OY
  have OY := OY'
  clear OY'
  have OG' : Hid (OwnT layBytesResult w10 (w8.heap.size) (w9.heap.size) (y) [.int .i64 g0, .slice gp gl gq]) := OG.out.call bA
  clear OG
  have OG := OG'
  clear OG'
  have HB' : Hid (Below w.heap.size w w10) := HB.out.trans (bA.mono HB.out.size)
  clear HB
  have HB := HB'
  clear HB'
  have z11 : w9.heap.size ≤ w10.heap.size := bA.size
  have G : Hid (Box w10 (w9.heap.size) #[.int .i64 g0, .slice gp gl gq] 32) := bx
  have z12 : w9.heap.size < w10.heap.size := bx.lt
  clear bA bx hW
  go_wp2_with (first | (refine wp_loadBox 32 (.tmp 13) rfl rfl (w9.heap.size) rfl (cs := [.int .i64 g0, .slice gp gl gq]) G.out Tryz.underlying32 size_YR rfl ?_) | (refine wp_loadBox 32 (.tmp 10) rfl rfl (w4.heap.size) rfl (cs := [.int .i64 s0, .slice sp sl sq]) S.out Tryz.underlying32 size_YR rfl ?_))
  refine (CE _ _ _ _ _ OG.out.rd OS.out.rd (by omega) (by omega)).mono ?_
  rintro e w11 ⟨rfl, bb⟩
  have P' : Hid (Box w11 (w.heap.size) #[.int .i64 v0, .int .i64 v1, .int .i64 v2, .int .i64 v3, .int .i64 v4, .int .i64 v5, .int .i64 v6, .int .i64 v7, .int .i64 v8, .slice vp0 vl0 vq0, .slice vp1 vl1 vq1, .slice vp2 vl2 vq2, .int .i64 v9, .int .i64 v10, .bool vb] 28) := P.out.call bb
  clear P
  have P := P'
  clear P'
  have OS' : Hid (OwnT layBytesResult w11 (w3.heap.size) (w4.heap.size) (y) [.int .i64 s0, .slice sp sl sq]) := OS.out.call bb
  clear OS
  have OS := OS'
  clear OS'
  have S' : Hid (Box w11 (w4.heap.size) #[.int .i64 s0, .slice sp sl sq] 32) := S.out.call bb
  clear S
  have S := S'
  clear S'
  have OX' : Hid (OwnT layWorld w11 (w5.heap.size) (w6.heap.size) (d) [.int .i64 x0, .int .i64 x1, .int .i64 x2, .int .i64 x3, .int .i64 x4, .int .i64 x5, .int .i64 x6, .int .i64 x7, .int .i64 x8, .slice xp0 xl0 xq0, .slice xp1 xl1 xq1, .slice xp2 xl2 xq2, .int .i64 x9, .int .i64 x10, .bool xb]) := OX.out.call bb
  clear OX
  have OX := OX'
  clear OX'
  have X' : Hid (Box w11 (w6.heap.size) #[.int .i64 x0, .int .i64 x1, .int .i64 x2, .int .i64 x3, .int .i64 x4, .int .i64 x5, .int .i64 x6, .int .i64 x7, .int .i64 x8, .slice xp0 xl0 xq0, .slice xp1 xl1 xq1, .slice xp2 xl2 xq2, .int .i64 x9, .int .i64 x10, .bool xb] 38) := X.out.call bb
  clear X
  have X := X'
  clear X'
  have OY' : Hid (OwnT layBytes w11 (w7.heap.size) (w8.heap.size) (q) [.slice yo q.1 yc]) := OY.out.call bb
  clear OY
  have OY := OY'
  clear OY'
  have OG' : Hid (OwnT layBytesResult w11 (w8.heap.size) (w9.heap.size) (y) [.int .i64 g0, .slice gp gl gq]) := OG.out.call bb
  clear OG
  have OG := OG'
  clear OG'
  have G' : Hid (Box w11 (w9.heap.size) #[.int .i64 g0, .slice gp gl gq] 32) := G.out.call bb
  clear G
  have G := G'
  clear G'
  have HB' : Hid (Below w.heap.size w w11) := HB.out.trans (bb.mono HB.out.size)
  clear HB
  have HB := HB'
  clear HB'
  have z13 : w10.heap.size ≤ w11.heap.size := bb.size
  clear bb
  have CTc := fun w' (hb : Below w11.heap.size w11 w') => CT w' (HB.out.trans (hb.mono HB.out.size))
  go_upto_region 13 with fail
  go_cut [50] (fun v wx => v = .bool false ∧ Below w11.heap.size w11 wx)
  case first =>
    have KS : ∀ w', Below w11.heap.size w11 w' → (Box w' (w6.heap.size) #[.int .i64 x0, .int .i64 x1, .int .i64 x2, .int .i64 x3, .int .i64 x4, .int .i64 x5, .int .i64 x6, .int .i64 x7, .int .i64 x8, .slice xp0 xl0 xq0, .slice xp1 xl1 xq1, .slice xp2 xl2 xq2, .int .i64 x9, .int .i64 x10, .bool xb] 38 ∧ Box w' (w.heap.size) #[.int .i64 v0, .int .i64 v1, .int .i64 v2, .int .i64 v3, .int .i64 v4, .int .i64 v5, .int .i64 v6, .int .i64 v7, .int .i64 v8, .slice vp0 vl0 vq0, .slice vp1 vl1 vq1, .slice vp2 vl2 vq2, .int .i64 v9, .int .i64 v10, .bool vb] 28) := fun w' hb => ⟨(X.out).call hb, (P.out).call hb⟩
    have B0 : Below w11.heap.size w11 w11.drew := below_drew _
    refine wp_region_L 4 (fun w' => Box w' (w6.heap.size) #[.int .i64 x0, .int .i64 x1, .int .i64 x2, .int .i64 x3, .int .i64 x4, .int .i64 x5, .int .i64 x6, .int .i64 x7, .int .i64 x8, .slice xp0 xl0 xq0, .slice xp1 xl1 xq1, .slice xp2 xl2 xq2, .int .i64 x9, .int .i64 x10, .bool xb] 38 ∧ Box w' (w.heap.size) #[.int .i64 v0, .int .i64 v1, .int .i64 v2, .int .i64 v3, .int .i64 v4, .int .i64 v5, .int .i64 v6, .int .i64 v7, .int .i64 v8, .slice vp0 vl0 vq0, .slice vp1 vl1 vq1, .slice vp2 vl2 vq2, .int .i64 v9, .int .i64 v10, .bool vb] 28) (by kernel_rfl) (KS _ B0) (fun hHeld => ?_)
    refine wpAnyL_take (i := 0) (oi := _) (v := .agg #[.int .i64 x0, .int .i64 x1, .int .i64 x2, .int .i64 x3, .int .i64 x4, .int .i64 x5, .int .i64 x6, .int .i64 x7, .int .i64 x8, .slice xp0 xl0 xq0, .slice xp1 xl1 xq1, .slice xp2 xl2 xq2, .int .i64 x9, .int .i64 x10, .bool xb]) 16 rfl (by kernel_rfl) (fun _ _ _ h => h) (load_yield 38 (.tmp 11) rfl rfl (w6.heap.size) rfl (cs := [.int .i64 x0, .int .i64 x1, .int .i64 x2, .int .i64 x3, .int .i64 x4, .int .i64 x5, .int .i64 x6, .int .i64 x7, .int .i64 x8, .slice xp0 xl0 xq0, .slice xp1 xl1 xq1, .slice xp2 xl2 xq2, .int .i64 x9, .int .i64 x10, .bool xb]) (fun w' h => h.1) Tryz.underlying38 size_W rfl) (by assumption) ?_
    try simp only [Act.put, SL]
    refine wpAnyL_take (i := 1) (oi := _) (v := .agg #[.int .i64 v0, .int .i64 v1, .int .i64 v2, .int .i64 v3, .int .i64 v4, .int .i64 v5, .int .i64 v6, .int .i64 v7, .int .i64 v8, .slice vp0 vl0 vq0, .slice vp1 vl1 vq1, .slice vp2 vl2 vq2, .int .i64 v9, .int .i64 v10, .bool vb]) 16 rfl (by kernel_rfl) (fun _ _ _ h => h) (load_yield 28 (.tmp 4) rfl rfl (w.heap.size) rfl (cs := [.int .i64 v0, .int .i64 v1, .int .i64 v2, .int .i64 v3, .int .i64 v4, .int .i64 v5, .int .i64 v6, .int .i64 v7, .int .i64 v8, .slice vp0 vl0 vq0, .slice vp1 vl1 vq1, .slice vp2 vl2 vq2, .int .i64 v9, .int .i64 v10, .bool vb]) (fun w' h => h.2) Tryz.underlying28 size_LW rfl) (by assumption) ?_
    try simp only [Act.put, SL]
    refine wpAnyL_one (i := 2) (o := _) rfl (by kernel_rfl) (fun KC hKC => ?_)
    refine step_call rfl 6 _ _ rfl #[.agg #[.int .i64 v0, .int .i64 v1, .int .i64 v2, .int .i64 v3, .int .i64 v4, .int .i64 v5, .int .i64 v6, .int .i64 v7, .int .i64 v8, .slice vp0 vl0 vq0, .slice vp1 vl1 vq1, .slice vp2 vl2 vq2, .int .i64 v9, .int .i64 v10, .bool vb]] ?_ Tryz.func6 (by kernel_rfl) (by kernel_rfl) (CTc _ B0) ?_
    · simp [Act.eval, Act.put]
    rintro ee wb ⟨cs', rfl, oR, bb⟩
    have bR : Below w11.heap.size w11 wb := B0.trans (bb.mono B0.size)
    refine ⟨_, rfl, ?_⟩
    refine hKC.out _ _ (KS _ bR) (fun hHeld => ?_)
    clear hKC KC
    try simp only [Act.put, SL]
    refine wpAnyL_one (i := 3) (o := _) rfl (by kernel_rfl) (fun KC hKC => ?_)
    refine step_call rfl 10 _ _ rfl #[.agg #[.int .i64 x0, .int .i64 x1, .int .i64 x2, .int .i64 x3, .int .i64 x4, .int .i64 x5, .int .i64 x6, .int .i64 x7, .int .i64 x8, .slice xp0 xl0 xq0, .slice xp1 xl1 xq1, .slice xp2 xl2 xq2, .int .i64 x9, .int .i64 x10, .bool xb], .agg cs'.toArray] ?_ Tryz.func10 (by kernel_rfl) (by kernel_rfl) (CW _ _ _ _ _ ((OX.out).call bR).rd oR.rd (Nat.le_trans (by omega) bR.size) (Nat.le_refl _)) ?_
    · simp [Act.eval, Act.put]
    rintro ee wc' ⟨rfl, bc⟩
    have bC : Below w11.heap.size w11 wc' := bR.trans (bc.mono bR.size)
    refine ⟨_, rfl, ?_⟩
    refine hKC.out _ _ (KS _ bC) (fun hHeld => ?_)
    clear hKC KC
    try simp only [Act.put, SL]
    refine wpAnyL_last (o := _) rfl (by kernel_rfl) (fun KC hKC => ?_)
    go_simp
    refine hKC.out _ _ ?_
    clear hKC KC
    try simp only [Act.put, SL]
    refine wpAnyL_done (by kernel_rfl) ?_ _
    go_wp2
    go_meet
    exact ⟨rfl, bC⟩
  case rest =>
    obtain ⟨rfl, b12⟩ := hcut
    obtain ⟨w12, rfl⟩ : ∃ x, x = wc := ⟨_, rfl⟩
    clear CTc
    have P' : Hid (Box w12 (w.heap.size) #[.int .i64 v0, .int .i64 v1, .int .i64 v2, .int .i64 v3, .int .i64 v4, .int .i64 v5, .int .i64 v6, .int .i64 v7, .int .i64 v8, .slice vp0 vl0 vq0, .slice vp1 vl1 vq1, .slice vp2 vl2 vq2, .int .i64 v9, .int .i64 v10, .bool vb] 28) := P.out.call b12
    clear P
    have P := P'
    clear P'
    have OS' : Hid (OwnT layBytesResult w12 (w3.heap.size) (w4.heap.size) (y) [.int .i64 s0, .slice sp sl sq]) := OS.out.call b12
    clear OS
    have OS := OS'
    clear OS'
    have S' : Hid (Box w12 (w4.heap.size) #[.int .i64 s0, .slice sp sl sq] 32) := S.out.call b12
    clear S
    have S := S'
    clear S'
    have OX' : Hid (OwnT layWorld w12 (w5.heap.size) (w6.heap.size) (d) [.int .i64 x0, .int .i64 x1, .int .i64 x2, .int .i64 x3, .int .i64 x4, .int .i64 x5, .int .i64 x6, .int .i64 x7, .int .i64 x8, .slice xp0 xl0 xq0, .slice xp1 xl1 xq1, .slice xp2 xl2 xq2, .int .i64 x9, .int .i64 x10, .bool xb]) := OX.out.call b12
    clear OX
    have OX := OX'
    clear OX'
    have X' : Hid (Box w12 (w6.heap.size) #[.int .i64 x0, .int .i64 x1, .int .i64 x2, .int .i64 x3, .int .i64 x4, .int .i64 x5, .int .i64 x6, .int .i64 x7, .int .i64 x8, .slice xp0 xl0 xq0, .slice xp1 xl1 xq1, .slice xp2 xl2 xq2, .int .i64 x9, .int .i64 x10, .bool xb] 38) := X.out.call b12
    clear X
    have X := X'
    clear X'
    have OY' : Hid (OwnT layBytes w12 (w7.heap.size) (w8.heap.size) (q) [.slice yo q.1 yc]) := OY.out.call b12
    clear OY
    have OY := OY'
    clear OY'
    have OG' : Hid (OwnT layBytesResult w12 (w8.heap.size) (w9.heap.size) (y) [.int .i64 g0, .slice gp gl gq]) := OG.out.call b12
    clear OG
    have OG := OG'
    clear OG'
    have G' : Hid (Box w12 (w9.heap.size) #[.int .i64 g0, .slice gp gl gq] 32) := G.out.call b12
    clear G
    have G := G'
    clear G'
    have HB' : Hid (Below w.heap.size w w12) := HB.out.trans (b12.mono HB.out.size)
    clear HB
    have HB := HB'
    clear HB'
    have z14 : w11.heap.size ≤ w12.heap.size := b12.size
    clear b12
    go_wp2_with fail
    refine (CB _ HB.out).mono ?_
    rintro e w13 ⟨vZ, rfl, oo, bb⟩
    obtain ⟨zo, zc, hv⟩ := bytes_formT oo
    obtain rfl := one_eq hv
    clear hv
    have P' : Hid (Box w13 (w.heap.size) #[.int .i64 v0, .int .i64 v1, .int .i64 v2, .int .i64 v3, .int .i64 v4, .int .i64 v5, .int .i64 v6, .int .i64 v7, .int .i64 v8, .slice vp0 vl0 vq0, .slice vp1 vl1 vq1, .slice vp2 vl2 vq2, .int .i64 v9, .int .i64 v10, .bool vb] 28) := P.out.call bb
    clear P
    have P := P'
    clear P'
    have OS' : Hid (OwnT layBytesResult w13 (w3.heap.size) (w4.heap.size) (y) [.int .i64 s0, .slice sp sl sq]) := OS.out.call bb
    clear OS
    have OS := OS'
    clear OS'
    have S' : Hid (Box w13 (w4.heap.size) #[.int .i64 s0, .slice sp sl sq] 32) := S.out.call bb
    clear S
    have S := S'
    clear S'
    have OX' : Hid (OwnT layWorld w13 (w5.heap.size) (w6.heap.size) (d) [.int .i64 x0, .int .i64 x1, .int .i64 x2, .int .i64 x3, .int .i64 x4, .int .i64 x5, .int .i64 x6, .int .i64 x7, .int .i64 x8, .slice xp0 xl0 xq0, .slice xp1 xl1 xq1, .slice xp2 xl2 xq2, .int .i64 x9, .int .i64 x10, .bool xb]) := OX.out.call bb
    clear OX
    have OX := OX'
    clear OX'
    have X' : Hid (Box w13 (w6.heap.size) #[.int .i64 x0, .int .i64 x1, .int .i64 x2, .int .i64 x3, .int .i64 x4, .int .i64 x5, .int .i64 x6, .int .i64 x7, .int .i64 x8, .slice xp0 xl0 xq0, .slice xp1 xl1 xq1, .slice xp2 xl2 xq2, .int .i64 x9, .int .i64 x10, .bool xb] 38) := X.out.call bb
    clear X
    have X := X'
    clear X'
    have OY' : Hid (OwnT layBytes w13 (w7.heap.size) (w8.heap.size) (q) [.slice yo q.1 yc]) := OY.out.call bb
    clear OY
    have OY := OY'
    clear OY'
    have OG' : Hid (OwnT layBytesResult w13 (w8.heap.size) (w9.heap.size) (y) [.int .i64 g0, .slice gp gl gq]) := OG.out.call bb
    clear OG
    have OG := OG'
    clear OG'
    have G' : Hid (Box w13 (w9.heap.size) #[.int .i64 g0, .slice gp gl gq] 32) := G.out.call bb
    clear G
    have G := G'
    clear G'
    have HB' : Hid (Below w.heap.size w w13) := HB.out.trans (bb.mono HB.out.size)
    clear HB
    have HB := HB'
    clear HB'
    have z15 : w12.heap.size ≤ w13.heap.size := bb.size
    have OZ : Hid (OwnT layBytes w13 (w12.heap.size) (w13.heap.size) (q) [.slice zo q.1 zc]) := oo
    clear oo bb
    go_wp2_with fail
    refine (eqBytes_is _ _ _ _ _ _ OY.out.rd OZ.out.rd (by omega) (by omega)).mono ?_
    rintro e w14 ⟨rfl, bb⟩
    have P' : Hid (Box w14 (w.heap.size) #[.int .i64 v0, .int .i64 v1, .int .i64 v2, .int .i64 v3, .int .i64 v4, .int .i64 v5, .int .i64 v6, .int .i64 v7, .int .i64 v8, .slice vp0 vl0 vq0, .slice vp1 vl1 vq1, .slice vp2 vl2 vq2, .int .i64 v9, .int .i64 v10, .bool vb] 28) := P.out.call bb
    clear P
    have P := P'
    clear P'
    have OS' : Hid (OwnT layBytesResult w14 (w3.heap.size) (w4.heap.size) (y) [.int .i64 s0, .slice sp sl sq]) := OS.out.call bb
    clear OS
    have OS := OS'
    clear OS'
    have S' : Hid (Box w14 (w4.heap.size) #[.int .i64 s0, .slice sp sl sq] 32) := S.out.call bb
    clear S
    have S := S'
    clear S'
    have OX' : Hid (OwnT layWorld w14 (w5.heap.size) (w6.heap.size) (d) [.int .i64 x0, .int .i64 x1, .int .i64 x2, .int .i64 x3, .int .i64 x4, .int .i64 x5, .int .i64 x6, .int .i64 x7, .int .i64 x8, .slice xp0 xl0 xq0, .slice xp1 xl1 xq1, .slice xp2 xl2 xq2, .int .i64 x9, .int .i64 x10, .bool xb]) := OX.out.call bb
    clear OX
    have OX := OX'
    clear OX'
    have X' : Hid (Box w14 (w6.heap.size) #[.int .i64 x0, .int .i64 x1, .int .i64 x2, .int .i64 x3, .int .i64 x4, .int .i64 x5, .int .i64 x6, .int .i64 x7, .int .i64 x8, .slice xp0 xl0 xq0, .slice xp1 xl1 xq1, .slice xp2 xl2 xq2, .int .i64 x9, .int .i64 x10, .bool xb] 38) := X.out.call bb
    clear X
    have X := X'
    clear X'
    have OY' : Hid (OwnT layBytes w14 (w7.heap.size) (w8.heap.size) (q) [.slice yo q.1 yc]) := OY.out.call bb
    clear OY
    have OY := OY'
    clear OY'
    have OG' : Hid (OwnT layBytesResult w14 (w8.heap.size) (w9.heap.size) (y) [.int .i64 g0, .slice gp gl gq]) := OG.out.call bb
    clear OG
    have OG := OG'
    clear OG'
    have G' : Hid (Box w14 (w9.heap.size) #[.int .i64 g0, .slice gp gl gq] 32) := G.out.call bb
    clear G
    have G := G'
    clear G'
    have OZ' : Hid (OwnT layBytes w14 (w12.heap.size) (w13.heap.size) (q) [.slice zo q.1 zc]) := OZ.out.call bb
    clear OZ
    have OZ := OZ'
    clear OZ'
    have HB' : Hid (Below w.heap.size w w14) := HB.out.trans (bb.mono HB.out.size)
    clear HB
    have HB := HB'
    clear HB'
    have z16 : w13.heap.size ≤ w14.heap.size := bb.size
    clear bb
    clear OZ
    go_wp2_with (refine wp_loadBox 38 (.tmp 11) rfl rfl (w6.heap.size) rfl (cs := [.int .i64 x0, .int .i64 x1, .int .i64 x2, .int .i64 x3, .int .i64 x4, .int .i64 x5, .int .i64 x6, .int .i64 x7, .int .i64 x8, .slice xp0 xl0 xq0, .slice xp1 xl1 xq1, .slice xp2 xl2 xq2, .int .i64 x9, .int .i64 x10, .bool xb]) X.out Tryz.underlying38 size_W rfl ?_)
    refine (CK OX.out).mono ?_
    rintro e w15 ⟨rfl, oo, cc⟩
    have P' : Hid (Box w15 (w.heap.size) #[.int .i64 v0, .int .i64 v1, .int .i64 v2, .int .i64 v3, .int .i64 v4, .int .i64 v5, .int .i64 v6, .int .i64 v7, .int .i64 v8, .slice vp0 vl0 vq0, .slice vp1 vl1 vq1, .slice vp2 vl2 vq2, .int .i64 v9, .int .i64 v10, .bool vb] 28) := P.out.chg cc (by omega)
    clear P
    have P := P'
    clear P'
    have OS' : Hid (OwnT layBytesResult w15 (w3.heap.size) (w4.heap.size) (y) [.int .i64 s0, .slice sp sl sq]) := OS.out.chg cc (by omega)
    clear OS
    have OS := OS'
    clear OS'
    have S' : Hid (Box w15 (w4.heap.size) #[.int .i64 s0, .slice sp sl sq] 32) := S.out.chg cc (by omega)
    clear S
    have S := S'
    clear S'
    have X' : Hid (Box w15 (w6.heap.size) #[.int .i64 x0, .int .i64 x1, .int .i64 x2, .int .i64 x3, .int .i64 x4, .int .i64 x5, .int .i64 x6, .int .i64 x7, .int .i64 x8, .slice xp0 xl0 xq0, .slice xp1 xl1 xq1, .slice xp2 xl2 xq2, .int .i64 x9, .int .i64 x10, .bool xb] 38) := X.out.chg cc (by omega)
    clear X
    have X := X'
    clear X'
    have OY' : Hid (OwnT layBytes w15 (w7.heap.size) (w8.heap.size) (q) [.slice yo q.1 yc]) := OY.out.chg cc (by omega)
    clear OY
    have OY := OY'
    clear OY'
    have OG' : Hid (OwnT layBytesResult w15 (w8.heap.size) (w9.heap.size) (y) [.int .i64 g0, .slice gp gl gq]) := OG.out.chg cc (by omega)
    clear OG
    have OG := OG'
    clear OG'
    have G' : Hid (Box w15 (w9.heap.size) #[.int .i64 g0, .slice gp gl gq] 32) := G.out.chg cc (by omega)
    clear G
    have G := G'
    clear G'
    have HB' : Hid (Below w.heap.size w w15) := HB.out.trans (cc.bel (by omega) HB.out.size)
    clear HB
    have HB := HB'
    clear HB'
    have z17 : w14.heap.size ≤ w15.heap.size := cc.size
    clear OX
    have OX : Hid (OwnT layWorld w15 (w5.heap.size) (w6.heap.size) (mkvWorldD 1 d) [.int .i64 x0, .int .i64 x1, .int .i64 x2, .int .i64 x3, .int .i64 x4, .int .i64 x5, .int .i64 x6, .int .i64 x7, .int .i64 x8, .slice xp0 xl0 xq0, .slice xp1 xl1 xq1, .slice xp2 xl2 xq2, .int .i64 x9, .int .i64 x10, .bool xb]) := oo
    clear oo cc
    clear OX X
    go_wp2_with fail
    refine (CKB OY.out).mono ?_
    rintro e w16 ⟨rfl, oo, cc⟩
    have P' : Hid (Box w16 (w.heap.size) #[.int .i64 v0, .int .i64 v1, .int .i64 v2, .int .i64 v3, .int .i64 v4, .int .i64 v5, .int .i64 v6, .int .i64 v7, .int .i64 v8, .slice vp0 vl0 vq0, .slice vp1 vl1 vq1, .slice vp2 vl2 vq2, .int .i64 v9, .int .i64 v10, .bool vb] 28) := P.out.chg cc (by omega)
    clear P
    have P := P'
    clear P'
    have OS' : Hid (OwnT layBytesResult w16 (w3.heap.size) (w4.heap.size) (y) [.int .i64 s0, .slice sp sl sq]) := OS.out.chg cc (by omega)
    clear OS
    have OS := OS'
    clear OS'
    have S' : Hid (Box w16 (w4.heap.size) #[.int .i64 s0, .slice sp sl sq] 32) := S.out.chg cc (by omega)
    clear S
    have S := S'
    clear S'
    have OG' : Hid (OwnT layBytesResult w16 (w8.heap.size) (w9.heap.size) (y) [.int .i64 g0, .slice gp gl gq]) := OG.out.chg cc (by omega)
    clear OG
    have OG := OG'
    clear OG'
    have G' : Hid (Box w16 (w9.heap.size) #[.int .i64 g0, .slice gp gl gq] 32) := G.out.chg cc (by omega)
    clear G
    have G := G'
    clear G'
    have HB' : Hid (Below w.heap.size w w16) := HB.out.trans (cc.bel (by omega) HB.out.size)
    clear HB
    have HB := HB'
    clear HB'
    have z18 : w15.heap.size ≤ w16.heap.size := cc.size
    clear OY
    have OY : Hid (OwnT layBytes w16 (w7.heap.size) (w8.heap.size) (mkBytes M q) [.slice yo q.1 yc]) := oo
    clear oo cc
    clear OY
    have u_0 : w16.cell? ⟨w9.heap.size, 0, none⟩ = some (.int .i64 g0) := G.out.cell 0
    have y_0 : w16.cell? ⟨w4.heap.size, 0, none⟩ = some (.int .i64 s0) := S.out.cell 0
    have u_1 : w16.cell? ⟨w9.heap.size, 1, none⟩ = some (.slice gp gl gq) := G.out.cell 1
    have y_1 : w16.cell? ⟨w4.heap.size, 1, none⟩ = some (.slice sp sl sq) := S.out.cell 1
    go_wp2_with fail
    refine (CE _ _ _ _ _ OG.out.rd OS.out.rd (by omega) (by omega)).mono ?_
    rintro e w17 ⟨rfl, bb⟩
    have P' : Hid (Box w17 (w.heap.size) #[.int .i64 v0, .int .i64 v1, .int .i64 v2, .int .i64 v3, .int .i64 v4, .int .i64 v5, .int .i64 v6, .int .i64 v7, .int .i64 v8, .slice vp0 vl0 vq0, .slice vp1 vl1 vq1, .slice vp2 vl2 vq2, .int .i64 v9, .int .i64 v10, .bool vb] 28) := P.out.call bb
    clear P
    have P := P'
    clear P'
    have OS' : Hid (OwnT layBytesResult w17 (w3.heap.size) (w4.heap.size) (y) [.int .i64 s0, .slice sp sl sq]) := OS.out.call bb
    clear OS
    have OS := OS'
    clear OS'
    have S' : Hid (Box w17 (w4.heap.size) #[.int .i64 s0, .slice sp sl sq] 32) := S.out.call bb
    clear S
    have S := S'
    clear S'
    have OG' : Hid (OwnT layBytesResult w17 (w8.heap.size) (w9.heap.size) (y) [.int .i64 g0, .slice gp gl gq]) := OG.out.call bb
    clear OG
    have OG := OG'
    clear OG'
    have G' : Hid (Box w17 (w9.heap.size) #[.int .i64 g0, .slice gp gl gq] 32) := G.out.call bb
    clear G
    have G := G'
    clear G'
    have HB' : Hid (Below w.heap.size w w17) := HB.out.trans (bb.mono HB.out.size)
    clear HB
    have HB := HB'
    clear HB'
    have z19 : w16.heap.size ≤ w17.heap.size := bb.size
    clear bb
    clear u_0 y_0 u_1 y_1
    go_wp2_with (refine wp_loadBox 32 (.tmp 13) rfl rfl (w9.heap.size) rfl (cs := [.int .i64 g0, .slice gp gl gq]) G.out Tryz.underlying32 size_YR rfl ?_)
    refine (CM OG.out).mono ?_
    rintro e w18 ⟨rfl, oo, cc⟩
    have P' : Hid (Box w18 (w.heap.size) #[.int .i64 v0, .int .i64 v1, .int .i64 v2, .int .i64 v3, .int .i64 v4, .int .i64 v5, .int .i64 v6, .int .i64 v7, .int .i64 v8, .slice vp0 vl0 vq0, .slice vp1 vl1 vq1, .slice vp2 vl2 vq2, .int .i64 v9, .int .i64 v10, .bool vb] 28) := P.out.chg cc (by omega)
    clear P
    have P := P'
    clear P'
    have OS' : Hid (OwnT layBytesResult w18 (w3.heap.size) (w4.heap.size) (y) [.int .i64 s0, .slice sp sl sq]) := OS.out.chg cc (by omega)
    clear OS
    have OS := OS'
    clear OS'
    have S' : Hid (Box w18 (w4.heap.size) #[.int .i64 s0, .slice sp sl sq] 32) := S.out.chg cc (by omega)
    clear S
    have S := S'
    clear S'
    have G' : Hid (Box w18 (w9.heap.size) #[.int .i64 g0, .slice gp gl gq] 32) := G.out.chg cc (by omega)
    clear G
    have G := G'
    clear G'
    have HB' : Hid (Below w.heap.size w w18) := HB.out.trans (cc.bel (by omega) HB.out.size)
    clear HB
    have HB := HB'
    clear HB'
    have z20 : w17.heap.size ≤ w18.heap.size := cc.size
    clear OG
    have OG : Hid (OwnT layBytesResult w18 (w8.heap.size) (w9.heap.size) (mkvBytesResultD 1 y) [.int .i64 g0, .slice gp gl gq]) := oo
    clear oo cc
    go_wp2_with (refine wp_loadBox 32 (.tmp 13) rfl rfl (w9.heap.size) rfl (cs := [.int .i64 g0, .slice gp gl gq]) G.out Tryz.underlying32 size_YR rfl ?_)
    refine (CH _ _ _ OG.out.rd (by omega)).mono ?_
    rintro e w19 ⟨rfl, bb⟩
    have P' : Hid (Box w19 (w.heap.size) #[.int .i64 v0, .int .i64 v1, .int .i64 v2, .int .i64 v3, .int .i64 v4, .int .i64 v5, .int .i64 v6, .int .i64 v7, .int .i64 v8, .slice vp0 vl0 vq0, .slice vp1 vl1 vq1, .slice vp2 vl2 vq2, .int .i64 v9, .int .i64 v10, .bool vb] 28) := P.out.call bb
    clear P
    have P := P'
    clear P'
    have OS' : Hid (OwnT layBytesResult w19 (w3.heap.size) (w4.heap.size) (y) [.int .i64 s0, .slice sp sl sq]) := OS.out.call bb
    clear OS
    have OS := OS'
    clear OS'
    have S' : Hid (Box w19 (w4.heap.size) #[.int .i64 s0, .slice sp sl sq] 32) := S.out.call bb
    clear S
    have S := S'
    clear S'
    have OG' : Hid (OwnT layBytesResult w19 (w8.heap.size) (w9.heap.size) (mkvBytesResultD 1 y) [.int .i64 g0, .slice gp gl gq]) := OG.out.call bb
    clear OG
    have OG := OG'
    clear OG'
    have G' : Hid (Box w19 (w9.heap.size) #[.int .i64 g0, .slice gp gl gq] 32) := G.out.call bb
    clear G
    have G := G'
    clear G'
    have HB' : Hid (Below w.heap.size w w19) := HB.out.trans (bb.mono HB.out.size)
    clear HB
    have HB := HB'
    clear HB'
    have z21 : w18.heap.size ≤ w19.heap.size := bb.size
    clear bb
    go_wp2_with (refine wp_loadBox 28 (.tmp 4) rfl rfl (w.heap.size) rfl (cs := [.int .i64 v0, .int .i64 v1, .int .i64 v2, .int .i64 v3, .int .i64 v4, .int .i64 v5, .int .i64 v6, .int .i64 v7, .int .i64 v8, .slice vp0 vl0 vq0, .slice vp1 vl1 vq1, .slice vp2 vl2 vq2, .int .i64 v9, .int .i64 v10, .bool vb]) P.out Tryz.underlying28 size_LW rfl ?_)
    refine (CT _ HB.out).mono ?_
    rintro e w20 ⟨cA, rfl, oo, bb⟩
    have P' : Hid (Box w20 (w.heap.size) #[.int .i64 v0, .int .i64 v1, .int .i64 v2, .int .i64 v3, .int .i64 v4, .int .i64 v5, .int .i64 v6, .int .i64 v7, .int .i64 v8, .slice vp0 vl0 vq0, .slice vp1 vl1 vq1, .slice vp2 vl2 vq2, .int .i64 v9, .int .i64 v10, .bool vb] 28) := P.out.call bb
    clear P
    have P := P'
    clear P'
    have OS' : Hid (OwnT layBytesResult w20 (w3.heap.size) (w4.heap.size) (y) [.int .i64 s0, .slice sp sl sq]) := OS.out.call bb
    clear OS
    have OS := OS'
    clear OS'
    have S' : Hid (Box w20 (w4.heap.size) #[.int .i64 s0, .slice sp sl sq] 32) := S.out.call bb
    clear S
    have S := S'
    clear S'
    have OG' : Hid (OwnT layBytesResult w20 (w8.heap.size) (w9.heap.size) (mkvBytesResultD 1 y) [.int .i64 g0, .slice gp gl gq]) := OG.out.call bb
    clear OG
    have OG := OG'
    clear OG'
    have G' : Hid (Box w20 (w9.heap.size) #[.int .i64 g0, .slice gp gl gq] 32) := G.out.call bb
    clear G
    have G := G'
    clear G'
    have HB' : Hid (Below w.heap.size w w20) := HB.out.trans (bb.mono HB.out.size)
    clear HB
    have HB := HB'
    clear HB'
    have z22 : w19.heap.size ≤ w20.heap.size := bb.size
    have A3 : Hid (OwnT layWorld w20 (w19.heap.size) (w20.heap.size) d cA) := oo
    clear oo bb
    go_wp2_with fail
    refine (CB _ HB.out).mono ?_
    rintro e w21 ⟨vA, rfl, oo, bb⟩
    have A3' : Hid (OwnT layWorld w21 (w19.heap.size) (w20.heap.size) d cA) := A3.out.call bb
    clear A3
    have P' : Hid (Box w21 (w.heap.size) #[.int .i64 v0, .int .i64 v1, .int .i64 v2, .int .i64 v3, .int .i64 v4, .int .i64 v5, .int .i64 v6, .int .i64 v7, .int .i64 v8, .slice vp0 vl0 vq0, .slice vp1 vl1 vq1, .slice vp2 vl2 vq2, .int .i64 v9, .int .i64 v10, .bool vb] 28) := P.out.call bb
    clear P
    have P := P'
    clear P'
    have OS' : Hid (OwnT layBytesResult w21 (w3.heap.size) (w4.heap.size) (y) [.int .i64 s0, .slice sp sl sq]) := OS.out.call bb
    clear OS
    have OS := OS'
    clear OS'
    have S' : Hid (Box w21 (w4.heap.size) #[.int .i64 s0, .slice sp sl sq] 32) := S.out.call bb
    clear S
    have S := S'
    clear S'
    have OG' : Hid (OwnT layBytesResult w21 (w8.heap.size) (w9.heap.size) (mkvBytesResultD 1 y) [.int .i64 g0, .slice gp gl gq]) := OG.out.call bb
    clear OG
    have OG := OG'
    clear OG'
    have G' : Hid (Box w21 (w9.heap.size) #[.int .i64 g0, .slice gp gl gq] 32) := G.out.call bb
    clear G
    have G := G'
    clear G'
    have HB' : Hid (Below w.heap.size w w21) := HB.out.trans (bb.mono HB.out.size)
    clear HB
    have HB := HB'
    clear HB'
    have z23 : w20.heap.size ≤ w21.heap.size := bb.size
    obtain ⟨aA, capA, hv⟩ := bytes_formT oo
    obtain rfl := one_eq hv
    clear hv
    have A4 : Hid (OwnT layBytes w21 (w20.heap.size) (w21.heap.size) q [.slice aA q.1 capA]) := oo
    clear oo bb
    go_wp2_with fail
    refine (CI _ _ _ _ _ _ A3'.out.rd (by omega) A4.out.rd (Nat.le_refl _)).mono ?_
    rintro e w22 ⟨cc, rfl, oo, bb⟩
    obtain ⟨h0, hp, hl, hq, hv⟩ := res2_BytesResult oo.rd
    subst hv
    have P' : Hid (Box w22 (w.heap.size) #[.int .i64 v0, .int .i64 v1, .int .i64 v2, .int .i64 v3, .int .i64 v4, .int .i64 v5, .int .i64 v6, .int .i64 v7, .int .i64 v8, .slice vp0 vl0 vq0, .slice vp1 vl1 vq1, .slice vp2 vl2 vq2, .int .i64 v9, .int .i64 v10, .bool vb] 28) := P.out.call bb
    clear P
    have P := P'
    clear P'
    have OS' : Hid (OwnT layBytesResult w22 (w3.heap.size) (w4.heap.size) (y) [.int .i64 s0, .slice sp sl sq]) := OS.out.call bb
    clear OS
    have OS := OS'
    clear OS'
    have S' : Hid (Box w22 (w4.heap.size) #[.int .i64 s0, .slice sp sl sq] 32) := S.out.call bb
    clear S
    have S := S'
    clear S'
    have OG' : Hid (OwnT layBytesResult w22 (w8.heap.size) (w9.heap.size) (mkvBytesResultD 1 y) [.int .i64 g0, .slice gp gl gq]) := OG.out.call bb
    clear OG
    have OG := OG'
    clear OG'
    have G' : Hid (Box w22 (w9.heap.size) #[.int .i64 g0, .slice gp gl gq] 32) := G.out.call bb
    clear G
    have G := G'
    clear G'
    have HB' : Hid (Below w.heap.size w w22) := HB.out.trans (bb.mono HB.out.size)
    clear HB
    have HB := HB'
    clear HB'
    have z24 : w21.heap.size ≤ w22.heap.size := bb.size
    have OH : Hid (OwnT layBytesResult w22 (w21.heap.size) (w22.heap.size) (y) [.int .i64 h0, .slice hp hl hq]) := oo
    clear oo bb
    clear A3' A4
    go_upto_region 31 with (refine wp_allocStore 32 17 (.tmp 87) [.int .i64 h0, .slice hp hl hq] _ 2 rfl rfl rfl rfl rfl rfl rfl rfl info_BytesResult rfl rfl OH.out.one ?_)
    have bA : Below w22.heap.size w22 (w22.alloc (.cells #[.int .i64 h0, .slice hp hl hq] 32)) := (Below.refl _ _).alloc (Nat.le_refl _) _
    have bx : Box (w22.alloc (.cells #[.int .i64 h0, .slice hp hl hq] 32)) w22.heap.size #[.int .i64 h0, .slice hp hl hq] 32 := box_new _ _ _
    obtain ⟨w23, hW⟩ : ∃ x, x = w22.alloc (.cells #[.int .i64 h0, .slice hp hl hq] 32) := ⟨_, rfl⟩
    rw [← hW] at bA bx ⊢
    have P' : Hid (Box w23 (w.heap.size) #[.int .i64 v0, .int .i64 v1, .int .i64 v2, .int .i64 v3, .int .i64 v4, .int .i64 v5, .int .i64 v6, .int .i64 v7, .int .i64 v8, .slice vp0 vl0 vq0, .slice vp1 vl1 vq1, .slice vp2 vl2 vq2, .int .i64 v9, .int .i64 v10, .bool vb] 28) := P.out.call bA
    clear P
    have P := P'
    clear P'
    have OS' : Hid (OwnT layBytesResult w23 (w3.heap.size) (w4.heap.size) (y) [.int .i64 s0, .slice sp sl sq]) := OS.out.call bA
    clear OS
    have OS := OS'
    clear OS'
    have S' : Hid (Box w23 (w4.heap.size) #[.int .i64 s0, .slice sp sl sq] 32) := S.out.call bA
    clear S
    have S := S'
    clear S'
    have OG' : Hid (OwnT layBytesResult w23 (w8.heap.size) (w9.heap.size) (mkvBytesResultD 1 y) [.int .i64 g0, .slice gp gl gq]) := OG.out.call bA
    clear OG
    have OG := OG'
    clear OG'
    have G' : Hid (Box w23 (w9.heap.size) #[.int .i64 g0, .slice gp gl gq] 32) := G.out.call bA
    clear G
    have G := G'
    clear G'
    have OH' : Hid (OwnT layBytesResult w23 (w21.heap.size) (w22.heap.size) (y) [.int .i64 h0, .slice hp hl hq]) := OH.out.call bA
    clear OH
    have OH := OH'
    clear OH'
    have HB' : Hid (Below w.heap.size w w23) := HB.out.trans (bA.mono HB.out.size)
    clear HB
    have HB := HB'
    clear HB'
    have z25 : w22.heap.size ≤ w23.heap.size := bA.size
    have H : Hid (Box w23 (w22.heap.size) #[.int .i64 h0, .slice hp hl hq] 32) := bx
    have z26 : w22.heap.size < w23.heap.size := bx.lt
    clear bA bx hW
    go_wp2_with (first | (refine wp_loadBox 32 (.tmp 17) rfl rfl (w22.heap.size) rfl (cs := [.int .i64 h0, .slice hp hl hq]) H.out Tryz.underlying32 size_YR rfl ?_) | (refine wp_loadBox 32 (.tmp 10) rfl rfl (w4.heap.size) rfl (cs := [.int .i64 s0, .slice sp sl sq]) S.out Tryz.underlying32 size_YR rfl ?_))
    refine (CE _ _ _ _ _ OH.out.rd OS.out.rd (by omega) (by omega)).mono ?_
    rintro e w24 ⟨rfl, bb⟩
    have P' : Hid (Box w24 (w.heap.size) #[.int .i64 v0, .int .i64 v1, .int .i64 v2, .int .i64 v3, .int .i64 v4, .int .i64 v5, .int .i64 v6, .int .i64 v7, .int .i64 v8, .slice vp0 vl0 vq0, .slice vp1 vl1 vq1, .slice vp2 vl2 vq2, .int .i64 v9, .int .i64 v10, .bool vb] 28) := P.out.call bb
    clear P
    have P := P'
    clear P'
    have OS' : Hid (OwnT layBytesResult w24 (w3.heap.size) (w4.heap.size) (y) [.int .i64 s0, .slice sp sl sq]) := OS.out.call bb
    clear OS
    have OS := OS'
    clear OS'
    have S' : Hid (Box w24 (w4.heap.size) #[.int .i64 s0, .slice sp sl sq] 32) := S.out.call bb
    clear S
    have S := S'
    clear S'
    have OG' : Hid (OwnT layBytesResult w24 (w8.heap.size) (w9.heap.size) (mkvBytesResultD 1 y) [.int .i64 g0, .slice gp gl gq]) := OG.out.call bb
    clear OG
    have OG := OG'
    clear OG'
    have G' : Hid (Box w24 (w9.heap.size) #[.int .i64 g0, .slice gp gl gq] 32) := G.out.call bb
    clear G
    have G := G'
    clear G'
    have OH' : Hid (OwnT layBytesResult w24 (w21.heap.size) (w22.heap.size) (y) [.int .i64 h0, .slice hp hl hq]) := OH.out.call bb
    clear OH
    have OH := OH'
    clear OH'
    have H' : Hid (Box w24 (w22.heap.size) #[.int .i64 h0, .slice hp hl hq] 32) := H.out.call bb
    clear H
    have H := H'
    clear H'
    have HB' : Hid (Below w.heap.size w w24) := HB.out.trans (bb.mono HB.out.size)
    clear HB
    have HB := HB'
    clear HB'
    have z27 : w23.heap.size ≤ w24.heap.size := bb.size
    clear bb
    clear OH H OS S
    go_wp2_with (refine wp_loadBox 32 (.tmp 13) rfl rfl (w9.heap.size) rfl (cs := [.int .i64 g0, .slice gp gl gq]) G.out Tryz.underlying32 size_YR rfl ?_)
    refine (CH _ _ _ OG.out.rd (by omega)).mono ?_
    rintro e w25 ⟨rfl, bb⟩
    have P' : Hid (Box w25 (w.heap.size) #[.int .i64 v0, .int .i64 v1, .int .i64 v2, .int .i64 v3, .int .i64 v4, .int .i64 v5, .int .i64 v6, .int .i64 v7, .int .i64 v8, .slice vp0 vl0 vq0, .slice vp1 vl1 vq1, .slice vp2 vl2 vq2, .int .i64 v9, .int .i64 v10, .bool vb] 28) := P.out.call bb
    clear P
    have P := P'
    clear P'
    have OG' : Hid (OwnT layBytesResult w25 (w8.heap.size) (w9.heap.size) (mkvBytesResultD 1 y) [.int .i64 g0, .slice gp gl gq]) := OG.out.call bb
    clear OG
    have OG := OG'
    clear OG'
    have G' : Hid (Box w25 (w9.heap.size) #[.int .i64 g0, .slice gp gl gq] 32) := G.out.call bb
    clear G
    have G := G'
    clear G'
    have HB' : Hid (Below w.heap.size w w25) := HB.out.trans (bb.mono HB.out.size)
    clear HB
    have HB := HB'
    clear HB'
    have z28 : w24.heap.size ≤ w25.heap.size := bb.size
    clear bb
    go_wp2
    go_ret
    exact ⟨rfl, HB.out⟩

set_option maxRecDepth 100000 in
theorem fnExactOldBytes_lifted (os : Os) (started : os.Started) (H : Type) (enc : TypeId × Value → H) :
    ReturnsInHanded {} Tryz.checked os 3 .any (Rows.fnExactOldBytesSpec.pre6 enc Tryz.prog Tryz.f3 Rows.fnExactOldBytesRow.domain false) (Rows.fnExactOldBytesSpec.post enc Tryz.prog Tryz.f3 false true false false) := by
  refine returnsInHanded_of_change (C := Tryz.checked) frame_own started (by kernel_rfl) Tryz.func3
    (ChangeSpec.witness6 (enc := enc) (C := Tryz.checked) false ⟨#[], #[.agg #[.int .i64 0, .int .i64 0, .int .i64 0, .int .i64 0, .int .i64 0, .int .i64 0, .int .i64 0, .int .i64 0, .int .i64 0, .slice none 0 0, .slice none 0 0, .slice none 0 0, .int .i64 0, .int .i64 0, .bool false], .int .i64 0, .int .i64 0, .slice none 0 0], []⟩ 8 (by kernel_rfl) (by kernel_rfl) (by kernel_rfl) (by kernel_rfl)) ?_
  intro W base args ds gs before hval0 hW hcnd _
  have hval : ∀ (j : Nat) t v, Tryz.f3.params[j]? = some t → args[j]? = some v → Value.okWide Tryz.prog W .any base t v := hval0
  have hW' := hW
  obtain ⟨p, q, hA0, hV, rfl, hfz, hnd⟩ := hW
  have hA : DataW.TrodAll enc Tryz.prog W 0 (fun _ => true) true Tryz.f3.params.toList args.toList ds p := hA0
  rw [Tryz.params3] at hA hval
  obtain ⟨v0, vs0, d0, ds0, p0, q0, hargs, rfl, rfl, h0, r0⟩ := trodAll_cons hA
  obtain ⟨v1, vs1, d1, ds1, p1, q1, rfl, rfl, rfl, h1, r1⟩ := trodAll_cons r0
  obtain ⟨v2, vs2, d2, ds2, p2, q2, rfl, rfl, rfl, h2, r2⟩ := trodAll_cons r1
  obtain ⟨v3, vs3, d3, ds3, p3, q3, rfl, rfl, rfl, h3, r3⟩ := trodAll_cons r2
  obtain ⟨rfl, rfl, rfl⟩ := trodAll_nil r3
  obtain rfl : args = #[v0, v1, v2, v3] := by cases args; simp_all
  obtain ⟨rfl, rfl⟩ := trodVars_none hV
  have k0 := h0
  have lt0 : ∀ x ∈ p0, x.block < W.heap.size := by obtain ⟨m, hm⟩ := k0; exact DataW.trod_lt m _ _ _ hm
  have k3 := h3
  have lt3 : ∀ x ∈ p3, x.block < W.heap.size := by obtain ⟨m, hm⟩ := k3; exact DataW.trod_lt m _ _ _ hm
  obtain ⟨cs0, a0, rfl, rd0⟩ := struct_of_trod opensWorld Tryz.underlying28 (hval 0 28 v0 rfl rfl) h0
  obtain ⟨n1, rfl, rfl, rfl, hn1⟩ := open_int Tryz.underlying2 (hval 1 2 v1 rfl rfl) h1
  obtain ⟨n2, rfl, rfl, rfl, hn2⟩ := open_int Tryz.underlying2 (hval 2 2 v2 rfl rfl) h2
  obtain ⟨sa3, sl3, sc3, rfl⟩ := okWide_slice Tryz.underlying29 (hval 3 29 v3 rfl rfl)
  obtain ⟨a3, rd3⟩ := slice_of_trod opensBytesU h3
  clear hA0 hval0
  refine (fnExactOldBytes_walk a0 cs0 n1 n2 a3 (.slice sa3 sl3 sc3) W rd0 (bounds_i64 hn1) (bounds_i64 hn2) rd3).mono fun e W' ⟨he, bel⟩ => ?_
  subst he
  exact ⟨_, rfl, _, _, _, [], _, [], hW', trodAll_mk1 (shut_bool Tryz.underlying4 _), (trodAll_cons_mk (Below.trod frame_laid (by kernel_rfl) (of_decide_eq_true (by kernel_rfl)) k0 bel lt0) (trodAll_cons_mk (shut_int Tryz.underlying2 hn1) (trodAll_cons_mk (shut_int Tryz.underlying2 hn2) (trodAll_cons_mk (Below.trod frame_laid (by kernel_rfl) (of_decide_eq_true (by kernel_rfl)) k3 bel lt3) trodAll_mk0)))), rfl, bel.frame _, fun h => by cases h⟩

theorem fnExactOldBytes_proved : Rows.FnExactOldBytesSaid :=
  OpenClaim.holds_of_wide 3 Tryz.f3 rfl rfl rfl rfl rfl rfl rfl ⟨rfl, rfl, rfl, rfl, rfl⟩ rfl rfl rfl rfl rfl (by kernel_rfl) Tryz.func3 (by kernel_rfl)
    (of_decide_eq_true (by kernel_rfl)) (by unfold Func.isWrapper; first | (rw [if_pos (by decide +kernel)]; kernel_rfl) | (rw [if_neg (by decide +kernel)]; exact ⟨rfl, rfl⟩))
    (fun os started H enc _ => fnExactOldBytes_lifted os started H enc)
#print axioms fnExactOldBytes_proved
end Go.Proofs.YtaldlfoochmfcaaGreat
