/- GroupHolds of the specification. -/
import Derived.Test.YtkijpgfmjogagaaGreatZPgroupao
import Derived.Test.YtkijpgfmjogagaaGreatZPgroupam
import Derived.Deep.DeepCutAuto
import Derived.Test.YtkijpgfmjogagaaGreatRows
import Derived.Test.YtkijpgfmjogagaaGreatZPgroupab
import Derived.Test.YtkijpgfmjogagaaGreatZPgroupae
import Derived.Test.YtkijpgfmjogagaaGreatZPgroupaf
import Derived.Test.YtkijpgfmjogagaaGreatZPgroupag
import Derived.Deep.RegionLaw
set_option linter.unusedVariables false
set_option linter.unusedSimpArgs false
namespace Go.Proofs.YtkijpgfmjogagaaGreat
open Go.RowKit F256
theorem own_cap {w : World} {lo hi n cap : Nat} {ao : Option Addr} {f : Nat → Nat} (h : Own w lo hi (.slice ao n cap) n f) : n ≤ cap := by
  rcases h.1.2 with ⟨hv, hn⟩ | ⟨g, cap', cur, he, hbg, hgg, hnc, _⟩
  · cases hv; omega
  · cases he; exact hnc
set_option maxHeartbeats 16000000 in
set_option maxRecDepth 20000 in
theorem l10Group_any (d : WorldD) (cs : List Value) (hi B G : Nat) (w : World) (h : layWorld.rd w hi d cs) (hhi : hi ≤ w.heap.size) (hBX : Box w B cs.toArray 37) (hG : G < d.groups.1) (hok : OkWorld d) :
    Calls Tryz.prog 37 #[.pointer (some ⟨B, 0, none⟩), .int .i64 (G : Int)] w (BoolP (¬ DeadP d G ∧ ∀ R : Nat, (R : Int) < d.shape 4 → fitP d G R) w) := by
  have hfew := (grp_few hok hG).2
  obtain ⟨D, S, hDe0, hSe0, hDS, hD1, hD3, hS2, h4⟩ := row_facts hok hG
  have hDe : Hid (d.shape 2 = (D : Int)) := hDe0
  have hSe : Hid (d.shape 3 = (S : Int)) := hSe0
  clear hDe0 hSe0
  have HRD : Hid (layWorld.rd w hi d cs) := h
  have HBB : Hid (Box w B cs.toArray 37) := hBX
  have CL := l7Dead_any d cs hi B G w h hhi hBX hG
  have HL7 : Hid (∀ (R : Nat) (w' : World), (R : Int) < d.shape 4 → Below w.heap.size w w' → Calls Tryz.prog 58 #[.pointer (some ⟨B, 0, none⟩), .int .i64 (G : Int), .int .i64 (R : Int)] w' (L7BPost d G R w')) := fun R w' hR hb => l7Bytes_any d cs hi B G R w' (layWorld.rd_below h hb hhi) (Nat.le_trans hhi hb.size) (hBX.below hb hBX.lt) hG (rows_of hok hG hR) hok
  obtain ⟨ao1, cap1, ao2, cap2, ao3, cap3, rfl, g1, g2, g3, k0, k4, k5⟩ := World_rd h
  obtain ⟨_, _, e1, hm1, hc1⟩ := g1
  cases e1
  obtain ⟨b1, off1, he1, hb1, hel1⟩ := hc1 (by omega)
  subst he1
  obtain ⟨cg, hrg, hcg⟩ := hel1 G hG
  obtain ⟨ao9, cap9, rfl⟩ := sl_form hrg
  have c0 : w.cell? ⟨b1, off1 + G, none⟩ = some (.slice ao9 (d.groups.2 G).1 cap9) := by
    have := hcg 0 (by decide)
    have e : off1 + (G * (layDrive.slice 76).sz + 0) = off1 + G := by show off1 + (G * 1 + 0) = off1 + G; omega
    rw [e] at this
    exact this
  obtain ⟨_, _, e9, hm9, hc9⟩ := hrg
  cases e9
  have hc9' : (d.groups.2 G).1 ≠ 0 → ∃ b off, ao9 = some ⟨b, off, none⟩ ∧ b < hi ∧ ∀ i, i < (d.groups.2 G).1 → ∃ ce, layDrive.rd w hi ((d.groups.2 G).2 i) ce ∧ ∀ j, j < layDrive.sz → w.cell? ⟨b, off + (i * layDrive.sz + j), none⟩ = ce[j]? := hc9
  obtain ⟨nG, hnG⟩ : ∃ n, n = (d.groups.2 G).1 := ⟨_, rfl⟩
  have HNG : Hid (nG = (d.groups.2 G).1) := hnG
  rw [← hnG] at c0 hc9' hfew
  have HC9 : Hid (nG ≠ 0 → ∃ b off, ao9 = some ⟨b, off, none⟩ ∧ b < hi ∧ ∀ i, i < nG → ∃ ce, layDrive.rd w hi ((d.groups.2 G).2 i) ce ∧ ∀ j, j < layDrive.sz → w.cell? ⟨b, off + (i * layDrive.sz + j), none⟩ = ce[j]?) := hc9'
  have i1 : (0 : Int) ≤ (G : Int) := by omega
  have i2 : (G : Int) < (d.groups.1 : Int) := by omega
  clear g2 g3 k0 k4 k5 hcg hel1 hc1 hm1 hm9 hc9 hc9' hnG
  have HDS : Hid (nG = D + S) := by rw [HNG.out]; exact hDS
  have hBlt := HBB.out.lt
  have HX9 : Hid (w.cell? ⟨B, 9, none⟩ = some (.slice (some ⟨b1, off1, none⟩) d.groups.1 cap1)) := HBB.out.cell 9
  have HX2 : Hid (w.cell? ⟨B, 2, none⟩ = some (.int .i64 (D : Int))) := by rw [← hDe.out]; exact HBB.out.cell 2
  have HX3 : Hid (w.cell? ⟨B, 3, none⟩ = some (.int .i64 (S : Int))) := by rw [← hSe.out]; exact HBB.out.cell 3
  obtain ⟨N, hN⟩ : ∃ N : Nat, d.shape 4 = (N : Int) := ⟨(d.shape 4).toNat, by
    obtain ⟨s1, q, s3, _⟩ := hok.shape
    omega⟩
  have HNN : Hid (d.shape 4 = (N : Int)) := hN
  have hN6 : N ≤ 100 := by
    obtain ⟨s1, q, s3, _⟩ := hok.shape
    omega
  have HX4 : Hid (w.cell? ⟨B, 4, none⟩ = some (.int .i64 (N : Int))) := by rw [← hN]; exact HBB.out.cell 4
  have HC0 : Hid (w.cell? ⟨b1, off1 + G, none⟩ = some (.slice ao9 nG cap9)) := c0
  have eD : Hid ((d.shape 2).toNat = D) := by show (d.shape 2).toNat = D; rw [hDe.out]; rfl
  clear hN c0 hBX hDe hSe
  go_enter Tryz.func37, Tryz.ntmps37
  go_wp2_with fail
  refine CL.mono ?_
  rintro e w1 ⟨t, rfl, ht, b1⟩
  have HTD : Hid (t = true ↔ DeadP d G) := ht
  have HB1 : Hid (Below w.heap.size w w1) := b1
  clear CL ht b1
  cases t with
  | true =>
    go_wp2
    go_ret
    exact boolNo rfl (fun h => h.1 (HTD.out.1 (by simp))) HB1.out
  | false =>
  have HND : Hid (¬ DeadP d G) := fun h => absurd (HTD.out.2 h) (by simp)
  clear HTD
  go_wp2
  go_loopw [5] (fun i wr => ∃ R : Nat, R ≤ N ∧ i = .int .i64 R ∧ (∀ j, j < R → fitP d G j) ∧ Below w.heap.size w wr) (fun i _ => N - (intOf i).toNat)
  case atStart => exact ⟨0, Nat.zero_le _, rfl, fun j hj => by omega, HB1.out⟩
  case round =>
   clear HB1
   obtain ⟨R, hR, rfl, hallR, bw⟩ := hrel
   obtain ⟨wi, rfl⟩ : ∃ y, y = wr := ⟨_, rfl⟩
   have HALLR : Hid (∀ j, j < R → fitP d G j) := hallR
   have HBW : Hid (Below w.heap.size w wi) := bw
   have zi : w.heap.size ≤ wi.heap.size := bw.size
   have x4 : wi.cell? ⟨B, 4, none⟩ = some (.int .i64 (N : Int)) := (bw.cell (p := ⟨B, 4, none⟩) hBlt).trans HX4.out
   clear hallR
   by_cases hltR : R < N
   case neg =>
    obtain rfl : R = N := by omega
    clear bw hltR
    go_wp2
    go_ret
    exact boolYes rfl ⟨HND.out, fun j hj => HALLR.out j (by rw [HNN.out] at hj; omega)⟩ HBW.out
   have hRi : (R : Int) < d.shape 4 := by rw [HNN.out]; omega
   have hRr := rows_of hok hG hRi
   have t1 : (R : Int) < (N : Int) := by omega
   have CB := HL7.out R wi hRi bw
   clear bw
   go_wp2_with fail
   refine CB.mono ?_
   rintro e w2 ⟨vY, b0, rfl, hb0, oY, b2⟩
   obtain rfl : b0 = true := hb0.2 HND.out
   have HB2 : Hid (Below w.heap.size w w2) := HBW.out.trans (b2.mono zi)
   have z2 : w.heap.size ≤ w2.heap.size := HB2.out.size
   have oY' : Own w2 wi.heap.size w2.heap.size vY (4 * D) (rowB d G R) := by rw [← eD.out]; simpa using oY
   have hcapY : ∀ ao cap, vY = .slice ao (4 * D) cap → 4 * D ≤ cap := fun ao cap e => own_cap (by rw [e] at oY'; exact oY')
   have bD2 : Below w2.heap.size w2 w2.drew := ⟨rfl, rfl, rfl, Nat.le_refl _, fun _ _ => rfl⟩
   have CF0 := l2Encode_any D S hD1 hD3 hS2 vY (rowB d G R) w2.heap.size w2.drew (oY'.rd.below bD2 (Nat.le_refl _)) hcapY (Nat.le_refl _) (rowB_lt2 d G R)
   obtain ⟨aY, cY, hvY⟩ := rd_form oY'.rd
   subst hvY
   have CF : Calls Tryz.prog 59 (#[.int .i64 (D : Int), .int .i64 (S : Int), .slice aY (4 * D) cY] ++ #[]) w2.drew (fun e w' => ∃ v', e = .returned v' ∧ OwnM w' w2.drew.heap.size w'.heap.size v' (D + S) (fun _ => 4) (encN D (rowB d G R)) ∧ Below w2.drew.heap.size w2.drew w') := by rw [Array.append_empty]; exact CF0
   have x2 : w2.drew.cell? ⟨B, 2, none⟩ = some (.int .i64 (D : Int)) := (HB2.out.cell (p := ⟨B, 2, none⟩) hBlt).trans HX2.out
   have x3 : w2.drew.cell? ⟨B, 3, none⟩ = some (.int .i64 (S : Int)) := (HB2.out.cell (p := ⟨B, 3, none⟩) hBlt).trans HX3.out
   clear CB hb0 oY oY' hcapY b2 CF0 HBW x4
   go_upto_region 7 with fail
   refine wp_region_M 11 (fun w' => w'.cell? ⟨B, 2, none⟩ = some (.int .i64 (D : Int)) ∧ w'.cell? ⟨B, 3, none⟩ = some (.int .i64 (S : Int))) mixedG ⟨x2, x3⟩ (fun hHeld => ?_)
   refine wpAnyM_pure (i := 0) (oi := _) (v := ?_) rfl (by kernel_rfl) (fun _ _ _ h => h) (Or.inl ⟨by kernel_rfl, ?_⟩) (by assumption) ?_
   rotate_left
   · intro w' hSw; go_simp; try with_reducible rfl
   try simp only [Act.put, SL]
   refine wpAnyM_pure (i := 1) (oi := _) (v := ?_) rfl (by kernel_rfl) (fun _ _ _ h => h) (Or.inl ⟨by kernel_rfl, ?_⟩) (by assumption) ?_
   rotate_left
   · intro w' hSw; go_simp; try with_reducible rfl
   try simp only [Act.put, SL]
   refine wpAnyM_pure (i := 2) (oi := _) (v := ?_) rfl (by kernel_rfl) (fun _ _ _ h => h) (Or.inl ⟨by kernel_rfl, ?_⟩) (by assumption) ?_
   rotate_left
   · intro w' hSw; go_simp; try with_reducible rfl
   try simp only [Act.put, SL]
   refine wpAnyM_pure (i := 3) (oi := _) (v := ?_) rfl (by kernel_rfl) (fun _ _ _ h => h) (Or.inl ⟨by kernel_rfl, ?_⟩) (by assumption) ?_
   rotate_left
   · intro w' hSw; go_simp; try with_reducible rfl
   try simp only [Act.put, SL]
   refine wpAnyM_take (i := 4) (oi := _) (v := ?_) 16 rfl (by kernel_rfl) (fun _ _ _ h => h) (Or.inl ⟨by kernel_rfl, ?_⟩) (by assumption) ?_
   rotate_left
   · intro w' hSw
     try dsimp only at hSw
     obtain ⟨hq0, hq1⟩ := hSw
     go_simp
     try with_reducible rfl
   try simp only [Act.put, SL]
   refine wpAnyM_pure (i := 5) (oi := _) (v := ?_) rfl (by kernel_rfl) (fun _ _ _ h => h) (Or.inl ⟨by kernel_rfl, ?_⟩) (by assumption) ?_
   rotate_left
   · intro w' hSw; go_simp; try with_reducible rfl
   try simp only [Act.put, SL]
   refine wpAnyM_pure (i := 6) (oi := _) (v := ?_) rfl (by kernel_rfl) (fun _ _ _ h => h) (Or.inl ⟨by kernel_rfl, ?_⟩) (by assumption) ?_
   rotate_left
   · intro w' hSw; go_simp; try with_reducible rfl
   try simp only [Act.put, SL]
   refine wpAnyM_pure (i := 7) (oi := _) (v := ?_) rfl (by kernel_rfl) (fun _ _ _ h => h) (Or.inl ⟨by kernel_rfl, ?_⟩) (by assumption) ?_
   rotate_left
   · intro w' hSw; go_simp; try with_reducible rfl
   try simp only [Act.put, SL]
   refine wpAnyM_pure (i := 8) (oi := _) (v := ?_) rfl (by kernel_rfl) (fun _ _ _ h => h) (Or.inl ⟨by kernel_rfl, ?_⟩) (by assumption) ?_
   rotate_left
   · intro w' hSw; go_simp; try with_reducible rfl
   try simp only [Act.put, SL]
   refine wpAnyM_take (i := 9) (oi := _) (v := ?_) 16 rfl (by kernel_rfl) (fun _ _ _ h => h) (Or.inl ⟨by kernel_rfl, ?_⟩) (by assumption) ?_
   rotate_left
   · intro w' hSw
     try dsimp only at hSw
     obtain ⟨hq0, hq1⟩ := hSw
     go_simp
     try with_reducible rfl
   try simp only [Act.put, SL]
   refine wpAnyM_pure (i := 10) (oi := _) (v := ?_) rfl (by kernel_rfl) (fun _ _ _ h => h) (Or.inl ⟨by kernel_rfl, ?_⟩) (by assumption) ?_
   rotate_left
   · intro w' hSw; go_simp; try with_reducible rfl
   try simp only [Act.put, SL]
   refine wpAnyM_one (i := 11) (o := _) rfl (by kernel_rfl) (by kernel_rfl) (fun KC hKC => ?_)
   refine step_callv (by kernel_rfl) (.func 59) 59 #[] _ _ rfl (by simp [Act.eval, Act.put]) #[.int .i64 (D : Int), .int .i64 (S : Int), .slice aY (4 * D) cY] (by simp [Act.eval, Act.put]) Tryz.func59 (by kernel_rfl) (by kernel_rfl) CF ?_
   rintro ee w3 ⟨vF, rfl, oF, b3⟩
   refine ⟨_, rfl, ?_⟩
   refine hKC _ _ ?_
   clear hKC KC
   try simp only [Act.put, SL]
   refine wpAnyM_pureL (i := 12) (oi := _) (v := ?_) rfl (by kernel_rfl) (fun _ _ _ h => h) (Or.inl ⟨by kernel_rfl, ?_⟩) ?_
   rotate_left
   · intro w' hSw; go_simp; try with_reducible rfl
   try simp only [Act.put, SL]
   refine wpAnyM_done (by kernel_rfl) ?_ _
   have HB3 : Hid (Below w.heap.size w w3) := HB2.out.trans ((bD2.trans b3).mono z2)
   have RF : RdM w3 w3.heap.size vF nG (fun _ => 4) (encN (d.shape 2).toNat (rowB d G R)) := by rw [HDS.out, eD.out]; exact oF.rd
   obtain ⟨hF, hhF⟩ : ∃ x, x = w3.heap.size := ⟨_, rfl⟩
   have HRF : Hid (RdM w3 hF vF nG (fun _ => 4) (encN (d.shape 2).toNat (rowB d G R))) := by rw [hhF]; exact RF
   have zF : hF ≤ w3.heap.size := Nat.le_of_eq hhF
   obtain ⟨aoF, capF, evF⟩ : ∃ ao cap, vF = .slice ao nG cap := by
     obtain ⟨aoF, capF, eF, evF, _⟩ := RF
     exact ⟨aoF, capF, evF⟩
   subst evF
   clear CF b3 oF RF hhF hHeld x2 x3 bD2 HB2
   go_wp2
   go_loopw [9] (fun i wr => ∃ k : Nat, k ≤ nG ∧ i = .int .i64 k ∧ (∀ j, j < k → fitK d G R j) ∧ Below w.heap.size w wr ∧ RdM wr hF (.slice aoF nG capF) nG (fun _ => 4) (encN (d.shape 2).toNat (rowB d G R)) ∧ hF ≤ wr.heap.size) (fun i _ => nG - (intOf i).toNat)
   case atStart => exact ⟨0, Nat.zero_le _, rfl, fun j hj => by omega, HB3.out, HRF.out, zF⟩
   case round =>
    clear zF HRF HB3
    obtain ⟨k, hk, rfl, hall, bw, F, zF⟩ := hrel
    obtain ⟨wx, rfl⟩ : ∃ y, y = wr := ⟨_, rfl⟩
    have HALL : Hid (∀ j, j < k → fitK d G R j) := hall
    have HBW : Hid (Below w.heap.size w wx) := bw
    have HF : Hid (RdM wx hF (.slice aoF nG capF) nG (fun _ => 4) (encN (d.shape 2).toNat (rowB d G R))) := F
    have zx : w.heap.size ≤ wx.heap.size := bw.size
    have x9 : wx.cell? ⟨B, 9, none⟩ = some (.slice (some ⟨b1, off1, none⟩) d.groups.1 cap1) := (bw.cell (p := ⟨B, 9, none⟩) hBlt).trans HX9.out
    have c0 : wx.cell? ⟨b1, off1 + G, none⟩ = some (.slice ao9 nG cap9) := (bw.cell (p := ⟨b1, off1 + G, none⟩) (by show b1 < w.heap.size; omega)).trans HC0.out
    clear hall
    by_cases hlt : k < nG
    · skip
      obtain ⟨b, off, rfl, hblt, hcell⟩ := HC9.out (by omega)
      obtain ⟨cd, hrd, hcd⟩ := hcell k hlt
      obtain ⟨ao5, cap5, rfl, g5⟩ := Drive_rd hrd
      obtain ⟨_, _, e5, hm5, hc5⟩ := g5
      cases e5
      have hRk : R < ((d.groups.2 G).2 k).blocks.1 := hRr k (by rw [← HNG.out]; exact hlt)
      obtain ⟨b5, off5, he5, hb5, hel5⟩ := hc5 (by omega)
      subst he5
      obtain ⟨cb, hrb, hcb⟩ := hel5 R hRk
      obtain ⟨ao0, cap0, rfl, hrB, -⟩ := Block_rd hrb
      obtain ⟨vB, eB, hrBB, -⟩ := hrB
      obtain rfl : vB = .slice ao0 (((d.groups.2 G).2 k).blocks.2 R).bytes.1 cap0 := by simpa using eB.symm
      have c2 : wx.cell? ⟨b, off + k * 2, none⟩ = some (.bool ((d.groups.2 G).2 k).wiped) := (bw.cell (p := ⟨b, off + k * 2, none⟩) (by show b < w.heap.size; omega)).trans (hcd 0 (by decide))
      have c3 : wx.cell? ⟨b, off + k * 2 + 1, none⟩ = some (.slice (some ⟨b5, off5, none⟩) ((d.groups.2 G).2 k).blocks.1 cap5) := (bw.cell (p := ⟨b, off + k * 2 + 1, none⟩) (by show b < w.heap.size; omega)).trans (hcd 1 (by decide))
      have c4 : wx.cell? ⟨b5, off5 + R * 2 + 1, none⟩ = some (.slice ao0 (((d.groups.2 G).2 k).blocks.2 R).bytes.1 cap0) := (bw.cell (p := ⟨b5, off5 + R * 2 + 1, none⟩) (by show b5 < w.heap.size; omega)).trans (hcb 1 (by decide))
      obtain ⟨D9, hD9⟩ : ∃ D, D = (d.groups.2 G).2 k := ⟨_, rfl⟩
      have HD9 : Hid (D9 = (d.groups.2 G).2 k) := hD9
      rw [← hD9] at c2 c3 c4 hrBB hRk
      obtain ⟨y0, hy0⟩ : ∃ y, y = (D9.blocks.2 R).bytes.1 := ⟨_, rfl⟩
      have HY0 : Hid (y0 = (D9.blocks.2 R).bytes.1) := hy0
      rw [← hy0] at c4 hrBB
      obtain ⟨m5, hm5e⟩ : ∃ m, m = D9.blocks.1 := ⟨_, rfl⟩
      rw [← hm5e] at c3 hRk
      obtain ⟨aoF', capF', eF, evF, hmF, hcF, hrF⟩ := F
      obtain ⟨rfl, rfl⟩ : aoF = aoF' ∧ capF = capF' := by simpa using evF
      obtain ⟨fb, foff, haoF, hfb, hcFc⟩ := hcF (by omega)
      subst haoF
      obtain ⟨aoE, capE, eE⟩ := rd_form (hrF k hlt)
      have cF : wx.cell? ⟨fb, foff + k, none⟩ = some (.slice aoE 4 capE) := by rw [← eE]; exact hcFc k hlt
      have rEx : Rd wx hF (.slice aoE 4 capE) 4 (encN (d.shape 2).toNat (rowB d G R) k) := by rw [← eE]; exact hrF k hlt
      have i3 : (0 : Int) ≤ (k : Int) := by omega
      have i4 : (k : Int) < (nG : Int) := by omega
      have j1 : (0 : Int) ≤ (R : Int) := by omega
      have j2 : (R : Int) < (m5 : Int) := by omega
      have bA : Below wx.heap.size wx (wx.alloc (.cells #[.bool D9.wiped, .slice (some ⟨b5, off5, none⟩) m5 cap5] 76)) := (Below.refl _ _).alloc (Nat.le_refl _) _
      have XD : Box (wx.alloc (.cells #[.bool D9.wiped, .slice (some ⟨b5, off5, none⟩) m5 cap5] 76)) wx.heap.size #[.bool D9.wiped, .slice (some ⟨b5, off5, none⟩) m5 cap5] 76 := box_new _ _ _
      clear hcell hcd hrd hm5 hc5 hel5 hrb hcb eB hD9 hy0 hm5e hmF hcF hrF hcFc eE evF
      go_upto_region 12 with fail
      obtain ⟨W5, hW5⟩ : ∃ x, x = wx.alloc (.cells #[.bool D9.wiped, .slice (some ⟨b5, off5, none⟩) m5 cap5] 76) := ⟨_, rfl⟩
      rw [← hW5] at bA XD ⊢
      have z5 : wx.heap.size ≤ W5.heap.size := bA.size
      have HB5 : Hid (Below w.heap.size w W5) := HBW.out.trans (bA.mono zx)
      have HF5 : Hid (RdM W5 hF (.slice (some ⟨fb, foff, none⟩) nG capF) nG (fun _ => 4) (encN (d.shape 2).toNat (rowB d G R))) := HF.out.below bA zF
      have zF5 : hF ≤ W5.heap.size := by omega
      have q0 : W5.drew.cell? ⟨wx.heap.size, 0, none⟩ = some (.bool D9.wiped) := XD.cell 0
      have q1 : W5.drew.cell? ⟨wx.heap.size, 1, none⟩ = some (.slice (some ⟨b5, off5, none⟩) m5 cap5) := XD.cell 1
      have q2 : W5.drew.cell? ⟨b5, off5 + R * 2 + 1, none⟩ = some (.slice ao0 y0 cap0) := (bA.cell (p := ⟨b5, off5 + R * 2 + 1, none⟩) (by show b5 < _; omega)).trans c4
      have q3 : W5.drew.cell? ⟨fb, foff + k, none⟩ = some (.slice aoE 4 capE) := (bA.cell (p := ⟨fb, foff + k, none⟩) (by show fb < _; omega)).trans cF
      have bDD : Below wx.heap.size wx W5.drew := bA.trans (show Below wx.heap.size W5 W5.drew from ⟨rfl, rfl, rfl, Nat.le_refl _, fun _ _ => rfl⟩)
      have bWD : Below w.heap.size w W5.drew := bw.trans (bDD.mono (by omega))
      have r0 : Rd W5.drew W5.heap.size (.slice ao0 y0 cap0) y0 (D9.blocks.2 R).bytes.2 := rd_upto hrBB bWD hhi (by omega)
      have rE : Rd W5.drew W5.heap.size (.slice aoE 4 capE) 4 (encN (d.shape 2).toNat (rowB d G R) k) := rd_upto rEx bDD zF (by omega)
      clear hW5 bDD bWD bA XD HBW HF c2 c3 c4 cF rEx hrBB bw x9 c0
      cases hw : D9.wiped with
      | true =>
        rw [hw] at q0
        have HW : Hid (D9.wiped = true) := hw
        have bD : Below W5.heap.size W5 W5.drew := ⟨rfl, rfl, rfl, Nat.le_refl _, fun _ _ => rfl⟩
        clear hw q1 q2 q3
        refine wp_region_M 14 (fun w' => w'.cell? ⟨wx.heap.size, 0, none⟩ = some (.bool true)) mixedG q0 (fun hHeld => ?_)
        refine wpAnyM_pure (i := 0) (oi := _) (v := ?_) rfl (by kernel_rfl) (fun _ _ _ h => h) (Or.inl ⟨by kernel_rfl, ?_⟩) (by assumption) ?_
        rotate_left
        · intro w' hSw; go_simp; try with_reducible rfl
        try simp only [Act.put, SL]
        refine wpAnyM_take (i := 1) (oi := _) (v := ?_) 16 rfl (by kernel_rfl) (fun _ _ _ h => h) (Or.inl ⟨by kernel_rfl, ?_⟩) (by assumption) ?_
        rotate_left
        · intro w' hSw
          try dsimp only at hSw
          have hq0 := hSw
          go_simp
          try with_reducible rfl
        try simp only [Act.put, SL]
        refine wpAnyM_pure (i := 2) (oi := _) (v := ?_) rfl (by kernel_rfl) (fun _ _ _ h => h) (Or.inl ⟨by kernel_rfl, ?_⟩) (by assumption) ?_
        rotate_left
        · intro w' hSw; go_simp; try with_reducible rfl
        try simp only [Act.put, SL]
        refine wpAnyM_pure (i := 3) (oi := _) (v := ?_) rfl (by kernel_rfl) (fun _ _ _ h => h) (Or.inl ⟨by kernel_rfl, ?_⟩) (by assumption) ?_
        rotate_left
        · intro w' hSw; go_simp; try with_reducible rfl
        try simp only [Act.put, SL]
        refine wpAnyM_pure (i := 4) (oi := _) (v := undef) rfl (by kernel_rfl) (fun _ _ _ h => h) (Or.inr ⟨by kernel_rfl, rfl⟩) (by assumption) ?_
        try simp only [Act.put, SL]
        refine wpAnyM_pure (i := 5) (oi := _) (v := undef) rfl (by kernel_rfl) (fun _ _ _ h => h) (Or.inr ⟨by kernel_rfl, rfl⟩) (by assumption) ?_
        try simp only [Act.put, SL]
        refine wpAnyM_pure (i := 6) (oi := _) (v := undef) rfl (by kernel_rfl) (fun _ _ _ h => h) (Or.inr ⟨by kernel_rfl, rfl⟩) (by assumption) ?_
        try simp only [Act.put, SL]
        refine wpAnyM_pure (i := 7) (oi := _) (v := undef) rfl (by kernel_rfl) (fun _ _ _ h => h) (Or.inr ⟨by kernel_rfl, rfl⟩) (by assumption) ?_
        try simp only [Act.put, SL]
        refine wpAnyM_pure (i := 8) (oi := _) (v := undef) rfl (by kernel_rfl) (fun _ _ _ h => h) (Or.inr ⟨by kernel_rfl, rfl⟩) (by assumption) ?_
        try simp only [Act.put, SL]
        refine wpAnyM_pure (i := 9) (oi := _) (v := undef) rfl (by kernel_rfl) (fun _ _ _ h => h) (Or.inr ⟨by kernel_rfl, rfl⟩) (by assumption) ?_
        try simp only [Act.put, SL]
        refine wpAnyM_pure (i := 10) (oi := _) (v := undef) rfl (by kernel_rfl) (fun _ _ _ h => h) (Or.inr ⟨by kernel_rfl, rfl⟩) (by assumption) ?_
        try simp only [Act.put, SL]
        refine wpAnyM_pure (i := 11) (oi := _) (v := undef) rfl (by kernel_rfl) (fun _ _ _ h => h) (Or.inr ⟨by kernel_rfl, rfl⟩) (by assumption) ?_
        try simp only [Act.put, SL]
        refine wpAnyM_pure (i := 12) (oi := _) (v := undef) rfl (by kernel_rfl) (fun _ _ _ h => h) (Or.inr ⟨by kernel_rfl, rfl⟩) (by assumption) ?_
        try simp only [Act.put, SL]
        refine wpAnyM_pure (i := 13) (oi := _) (v := undef) rfl (by kernel_rfl) (fun _ _ _ h => h) (Or.inr ⟨by kernel_rfl, rfl⟩) (by assumption) ?_
        try simp only [Act.put, SL]
        refine wpAnyM_one (i := 14) (o := _) rfl (by kernel_rfl) (by kernel_rfl) (fun KC hKC => ?_)
        refine if_noG (by kernel_rfl) (hKC _ _ ?_)
        clear hKC KC
        try simp only [Act.put, SL]
        refine wpAnyM_pureL (i := 15) (oi := _) (v := undef) rfl (by kernel_rfl) (fun _ _ _ h => h) (Or.inr ⟨by kernel_rfl, rfl⟩) ?_
        try simp only [Act.put, SL]
        refine wpAnyM_pureL (i := 16) (oi := _) (v := ?_) rfl (by kernel_rfl) (fun _ _ _ h => h) (Or.inl ⟨by kernel_rfl, ?_⟩) ?_
        rotate_left
        · intro w' hSw; go_simp; try with_reducible rfl
        try simp only [Act.put, SL]
        refine wpAnyM_done (by kernel_rfl) ?_ _
        obtain ⟨w7, hw7⟩ : ∃ x, x = W5.drew := ⟨_, rfl⟩
        rw [← hw7] at bD ⊢
        have b7' : Below W5.heap.size W5 w7 := bD
        have HFK : Hid (fitK d G R k) := fun h => by rw [← HD9.out, HW.out] at h; cases h
        clear bD hw7 hHeld q0
        have HB7 : Hid (Below w.heap.size w w7) := HB5.out.trans (b7'.mono (by omega))
        have HF7 : Hid (RdM w7 hF (.slice (some ⟨fb, foff, none⟩) nG capF) nG (fun _ => 4) (encN (d.shape 2).toNat (rowB d G R))) := HF5.out.below b7' (by omega)
        have zF7 : hF ≤ w7.heap.size := Nat.le_trans zF5 b7'.size
        clear b7'
        go_wp2
        go_roundw
        case rel => exact ⟨k + 1, by omega, by go_num, fun j hj => by
          by_cases c : j = k
          · rw [c]; exact HFK.out
          · exact HALL.out j (by omega), HB7.out, HF7.out, zF7⟩
        case measure => simp [intOf]; omega
      | false =>
        rw [hw] at q0
        have HW : Hid (D9.wiped = false) := hw
        have bD : Below W5.heap.size W5 W5.drew := ⟨rfl, rfl, rfl, Nat.le_refl _, fun _ _ => rfl⟩
        clear hw
        have CC0 := l2Same_any (.slice ao0 y0 cap0) (.slice aoE 4 capE) y0 4 (D9.blocks.2 R).bytes.2 (encN (d.shape 2).toNat (rowB d G R) k) W5.heap.size W5.heap.size W5.drew r0 rE
        have CC : Calls Tryz.prog 60 (#[.slice ao0 y0 cap0, .slice aoE 4 capE] ++ #[]) W5.drew (BoolP (SameP y0 4 (D9.blocks.2 R).bytes.2 (encN (d.shape 2).toNat (rowB d G R) k)) W5.drew) := by rw [Array.append_empty]; exact CC0
        clear CC0 r0 rE
        refine wp_region_M 14 (fun w' => w'.cell? ⟨wx.heap.size, 0, none⟩ = some (.bool false) ∧ w'.cell? ⟨wx.heap.size, 1, none⟩ = some (.slice (some ⟨b5, off5, none⟩) m5 cap5) ∧ w'.cell? ⟨b5, off5 + R * 2 + 1, none⟩ = some (.slice ao0 y0 cap0) ∧ w'.cell? ⟨fb, foff + k, none⟩ = some (.slice aoE 4 capE)) mixedG ⟨q0, q1, q2, q3⟩ (fun hHeld => ?_)
        refine wpAnyM_pure (i := 0) (oi := _) (v := ?_) rfl (by kernel_rfl) (fun _ _ _ h => h) (Or.inl ⟨by kernel_rfl, ?_⟩) (by assumption) ?_
        rotate_left
        · intro w' hSw; go_simp; try with_reducible rfl
        try simp only [Act.put, SL]
        refine wpAnyM_take (i := 1) (oi := _) (v := ?_) 16 rfl (by kernel_rfl) (fun _ _ _ h => h) (Or.inl ⟨by kernel_rfl, ?_⟩) (by assumption) ?_
        rotate_left
        · intro w' hSw
          try dsimp only at hSw
          obtain ⟨hq0, hq1, hq2, hq3⟩ := hSw
          go_simp
          try with_reducible rfl
        try simp only [Act.put, SL]
        refine wpAnyM_pure (i := 2) (oi := _) (v := ?_) rfl (by kernel_rfl) (fun _ _ _ h => h) (Or.inl ⟨by kernel_rfl, ?_⟩) (by assumption) ?_
        rotate_left
        · intro w' hSw; go_simp; try with_reducible rfl
        try simp only [Act.put, SL]
        refine wpAnyM_pure (i := 3) (oi := _) (v := ?_) rfl (by kernel_rfl) (fun _ _ _ h => h) (Or.inl ⟨by kernel_rfl, ?_⟩) (by assumption) ?_
        rotate_left
        · intro w' hSw; go_simp; try with_reducible rfl
        try simp only [Act.put, SL]
        refine wpAnyM_pure (i := 4) (oi := _) (v := ?_) rfl (by kernel_rfl) (fun _ _ _ h => h) (Or.inl ⟨by kernel_rfl, ?_⟩) (by assumption) ?_
        rotate_left
        · intro w' hSw; go_simp; try with_reducible rfl
        try simp only [Act.put, SL]
        refine wpAnyM_take (i := 5) (oi := _) (v := ?_) 16 rfl (by kernel_rfl) (fun _ _ _ h => h) (Or.inl ⟨by kernel_rfl, ?_⟩) (by assumption) ?_
        rotate_left
        · intro w' hSw
          try dsimp only at hSw
          obtain ⟨hq0, hq1, hq2, hq3⟩ := hSw
          go_simp
          try with_reducible rfl
        try simp only [Act.put, SL]
        refine wpAnyM_pure (i := 6) (oi := _) (v := ?_) rfl (by kernel_rfl) (fun _ _ _ h => h) (Or.inl ⟨by kernel_rfl, ?_⟩) (by assumption) ?_
        rotate_left
        · intro w' hSw; go_simp; try with_reducible rfl
        try simp only [Act.put, SL]
        refine wpAnyM_pure (i := 7) (oi := _) (v := ?_) rfl (by kernel_rfl) (fun _ _ _ h => h) (Or.inl ⟨by kernel_rfl, ?_⟩) (by assumption) ?_
        rotate_left
        · intro w' hSw; go_simp; try with_reducible rfl
        try simp only [Act.put, SL]
        refine wpAnyM_pure (i := 8) (oi := _) (v := ?_) rfl (by kernel_rfl) (fun _ _ _ h => h) (Or.inl ⟨by kernel_rfl, ?_⟩) (by assumption) ?_
        rotate_left
        · intro w' hSw; go_simp; try with_reducible rfl
        try simp only [Act.put, SL]
        refine wpAnyM_take (i := 9) (oi := _) (v := ?_) 16 rfl (by kernel_rfl) (fun _ _ _ h => h) (Or.inl ⟨by kernel_rfl, ?_⟩) (by assumption) ?_
        rotate_left
        · intro w' hSw
          try dsimp only at hSw
          obtain ⟨hq0, hq1, hq2, hq3⟩ := hSw
          go_simp
          try with_reducible rfl
        try simp only [Act.put, SL]
        refine wpAnyM_pure (i := 10) (oi := _) (v := ?_) rfl (by kernel_rfl) (fun _ _ _ h => h) (Or.inl ⟨by kernel_rfl, ?_⟩) (by assumption) ?_
        rotate_left
        · intro w' hSw; go_simp; try with_reducible rfl
        try simp only [Act.put, SL]
        refine wpAnyM_pure (i := 11) (oi := _) (v := ?_) rfl (by kernel_rfl) (fun _ _ _ h => h) (Or.inl ⟨by kernel_rfl, ?_⟩) (by assumption) ?_
        rotate_left
        · intro w' hSw; go_simp; try with_reducible rfl
        try simp only [Act.put, SL]
        refine wpAnyM_pure (i := 12) (oi := _) (v := ?_) rfl (by kernel_rfl) (fun _ _ _ h => h) (Or.inl ⟨by kernel_rfl, ?_⟩) (by assumption) ?_
        rotate_left
        · intro w' hSw; go_simp; try with_reducible rfl
        try simp only [Act.put, SL]
        refine wpAnyM_take (i := 13) (oi := _) (v := ?_) 16 rfl (by kernel_rfl) (fun _ _ _ h => h) (Or.inl ⟨by kernel_rfl, ?_⟩) (by assumption) ?_
        rotate_left
        · intro w' hSw
          try dsimp only at hSw
          obtain ⟨hq0, hq1, hq2, hq3⟩ := hSw
          go_simp
          try with_reducible rfl
        try simp only [Act.put, SL]
        refine wpAnyM_one (i := 14) (o := _) rfl (by kernel_rfl) (by kernel_rfl) (fun KC hKC => ?_)
        refine step_callv (by kernel_rfl) (.func 60) 60 #[] _ _ rfl (by simp [Act.eval, Act.put]) #[.slice ao0 y0 cap0, .slice aoE 4 capE] (by simp [Act.eval, Act.put]) Tryz.func60 (by kernel_rfl) (by kernel_rfl) CC ?_
        rintro ee w7 ⟨t, rfl, ht, b7⟩
        refine ⟨_, rfl, ?_⟩
        refine hKC _ _ ?_
        clear hKC KC
        try simp only [Act.put, SL]
        refine wpAnyM_pureL (i := 15) (oi := _) (v := ?_) rfl (by kernel_rfl) (fun _ _ _ h => h) (Or.inl ⟨by kernel_rfl, ?_⟩) ?_
        rotate_left
        · intro w' hSw; go_simp; try with_reducible rfl
        try simp only [Act.put, SL]
        refine wpAnyM_pureL (i := 16) (oi := _) (v := ?_) rfl (by kernel_rfl) (fun _ _ _ h => h) (Or.inl ⟨by kernel_rfl, ?_⟩) ?_
        rotate_left
        · intro w' hSw; go_simp; try with_reducible rfl
        try simp only [Act.put, SL]
        refine wpAnyM_done (by kernel_rfl) ?_ _
        have b7' : Below W5.heap.size W5 w7 := bD.trans b7
        have HT : Hid (t = true ↔ fitK d G R k) := by
          show t = true ↔ fitK d G R k
          rw [ht]
          unfold fitK
          rw [← HD9.out, ← HY0.out]
          exact ⟨fun h _ => h, fun h => h HW.out⟩
        clear ht b7 bD CC hHeld q0 q1 q2 q3
        cases t with
        | true =>
          have HFK : Hid (fitK d G R k) := HT.out.1 (by simp)
          have HB7 : Hid (Below w.heap.size w w7) := HB5.out.trans (b7'.mono (by omega))
          have HF7 : Hid (RdM w7 hF (.slice (some ⟨fb, foff, none⟩) nG capF) nG (fun _ => 4) (encN (d.shape 2).toNat (rowB d G R))) := HF5.out.below b7' (by omega)
          have zF7 : hF ≤ w7.heap.size := Nat.le_trans zF5 b7'.size
          clear b7'
          go_wp2
          go_roundw
          case rel => exact ⟨k + 1, by omega, by go_num, fun j hj => by
            by_cases c : j = k
            · rw [c]; exact HFK.out
            · exact HALL.out j (by omega), HB7.out, HF7.out, zF7⟩
          case measure => simp [intOf]; omega
        | false =>
          have HFK : Hid (¬ fitK d G R k) := fun h => absurd (HT.out.2 h) (by simp)
          have HB7 : Hid (Below w.heap.size w w7) := HB5.out.trans (b7'.mono (by omega))
          clear b7'
          go_wp2
          go_ret
          exact boolNo rfl (fun h => HFK.out (h.2 R hRi k (by rw [← HNG.out]; exact hlt))) HB7.out
    · obtain rfl : k = nG := by omega
      clear F hlt bw
      have HFR : Hid (fitP d G R) := fun j hj => HALL.out j (by rw [HNG.out]; exact hj)
      go_wp2
      go_roundw
      case rel => exact ⟨R + 1, by omega, by go_num, fun j hj => by
                    by_cases c : j = R
                    · rw [c]; exact HFR.out
                    · exact HALLR.out j (by omega), HBW.out⟩
      case measure => simp [intOf]; omega
end Go.Proofs.YtkijpgfmjogagaaGreat
namespace Go.Proofs.YtkijpgfmjogagaaGreat
open Go.RowKit F256
set_option maxHeartbeats 16000000 in
set_option maxRecDepth 20000 in
theorem specGh_any (d : WorldD) (g : Int) (cs : List Value) (hi : Nat) (w : World) (h : layWorld.rd w hi d cs) (hhi : hi ≤ w.heap.size) (hsz : szWorldD d ≤ 1048576) :
    Calls Tryz.prog 14 #[.agg cs.toArray, .int .i64 g] w (BoolP (GhP d g) w) := by
  have h' := h
  obtain ⟨ao1, cap1, ao2, cap2, ao3, cap3, rfl, g1, g2, g3, k0, k4, k5⟩ := World_rd h'
  have HRD : Hid (layWorld.rd w hi d [.int .i64 (d.shape 0), .int .i64 (d.shape 1), .int .i64 (d.shape 2), .int .i64 (d.shape 3), .int .i64 (d.shape 4), .int .i64 (d.shape 5), .int .i64 (d.shape 6), .int .i64 (d.shape 7), .int .i64 (d.shape 8), .slice ao1 d.groups.1 cap1, .slice ao2 d.on.1 cap2, .slice ao3 d.tapes.1 cap3, .int .i64 d.writes, .int .i64 d.stop, .bool d.down]) := h
  clear h h' g1 g2 g3 k0 k4 k5
  have T0 := one_new w #[.int .i64 (d.shape 0), .int .i64 (d.shape 1), .int .i64 (d.shape 2), .int .i64 (d.shape 3), .int .i64 (d.shape 4), .int .i64 (d.shape 5), .int .i64 (d.shape 6), .int .i64 (d.shape 7), .int .i64 (d.shape 8), .slice ao1 d.groups.1 cap1, .slice ao2 d.on.1 cap2, .slice ao3 d.tapes.1 cap3, .int .i64 d.writes, .int .i64 d.stop, .bool d.down] 37
  go_enter Tryz.func14, Tryz.ntmps14
  go_wp2_with (refine wp_loadBox 37 (.tmp 2) rfl rfl (w.heap.size) rfl (cs := [.int .i64 (d.shape 0), .int .i64 (d.shape 1), .int .i64 (d.shape 2), .int .i64 (d.shape 3), .int .i64 (d.shape 4), .int .i64 (d.shape 5), .int .i64 (d.shape 6), .int .i64 (d.shape 7), .int .i64 (d.shape 8), .slice ao1 d.groups.1 cap1, .slice ao2 d.on.1 cap2, .slice ao3 d.tapes.1 cap3, .int .i64 d.writes, .int .i64 d.stop, .bool d.down]) (T0.b1) Tryz.underlying37 size_W rfl ?_)
  refine (specWorld_any d _ hi _ (layWorld.rd_below HRD.out T0.bel hhi) (Nat.le_trans hhi T0.bel.size) (wld_ok_names hsz)).mono ?_
  rintro e w1 ⟨x, rfl, hx, b1⟩
  have HT1 : Hid (One w w1 #[.int .i64 (d.shape 0), .int .i64 (d.shape 1), .int .i64 (d.shape 2), .int .i64 (d.shape 3), .int .i64 (d.shape 4), .int .i64 (d.shape 5), .int .i64 (d.shape 6), .int .i64 (d.shape 7), .int .i64 (d.shape 8), .slice ao1 d.groups.1 cap1, .slice ao2 d.on.1 cap2, .slice ao3 d.tapes.1 cap3, .int .i64 d.writes, .int .i64 d.stop, .bool d.down] 37) := T0.call b1
  have HX : Hid (WldAns d x) := hx
  clear b1 T0 hx
  by_cases hx0 : x = 0
  case neg =>
    have hne : (x == 0) = false := by simpa using hx0
    have HN : Hid (x ≠ 0) := hx0
    clear hx0
    go_wp2
    go_ret
    exact boolNo rfl (fun h => HN.out (HX.out.one (KnowAns.zero h.1).1)) HT1.out.bel
  subst hx0
  have HOK : Hid (OkWorld d) := WldAns.ok HX.out
  have x_0 : w1.cell? ⟨w.heap.size, 0, none⟩ = some (.int .i64 (d.shape 0)) := HT1.out.b1.cell 0
  have x_1 : w1.cell? ⟨w.heap.size, 1, none⟩ = some (.int .i64 (d.shape 1)) := HT1.out.b1.cell 1
  have x_2 : w1.cell? ⟨w.heap.size, 2, none⟩ = some (.int .i64 (d.shape 2)) := HT1.out.b1.cell 2
  have x_3 : w1.cell? ⟨w.heap.size, 3, none⟩ = some (.int .i64 (d.shape 3)) := HT1.out.b1.cell 3
  have x_4 : w1.cell? ⟨w.heap.size, 4, none⟩ = some (.int .i64 (d.shape 4)) := HT1.out.b1.cell 4
  have x_5 : w1.cell? ⟨w.heap.size, 5, none⟩ = some (.int .i64 (d.shape 5)) := HT1.out.b1.cell 5
  have x_6 : w1.cell? ⟨w.heap.size, 6, none⟩ = some (.int .i64 (d.shape 6)) := HT1.out.b1.cell 6
  have x_7 : w1.cell? ⟨w.heap.size, 7, none⟩ = some (.int .i64 (d.shape 7)) := HT1.out.b1.cell 7
  have x_8 : w1.cell? ⟨w.heap.size, 8, none⟩ = some (.int .i64 (d.shape 8)) := HT1.out.b1.cell 8
  have CB := l5Place_any d.shape HOK.out.shape g 0 0 w1
  unfold shapeV at CB
  go_wp2_with fail
  refine CB.mono ?_
  rintro e w2 ⟨t, rfl, hu, b2⟩
  have HT2 : Hid (One w w2 #[.int .i64 (d.shape 0), .int .i64 (d.shape 1), .int .i64 (d.shape 2), .int .i64 (d.shape 3), .int .i64 (d.shape 4), .int .i64 (d.shape 5), .int .i64 (d.shape 6), .int .i64 (d.shape 7), .int .i64 (d.shape 8), .slice ao1 d.groups.1 cap1, .slice ao2 d.on.1 cap2, .slice ao3 d.tapes.1 cap3, .int .i64 d.writes, .int .i64 d.stop, .bool d.down] 37) := HT1.out.call b2
  have HIN : Hid (t = true ↔ InP g 0 (d.shape 0 + d.shape 1 - 1)) := by
    show t = true ↔ _
    rw [hu]
    obtain ⟨s1, q, _⟩ := HOK.out.shape
    unfold Shp3 at s1
    unfold Shp at q
    unfold PlaceP InP
    constructor
    · exact fun h => h.1
    · intro h; exact ⟨h, by omega, by omega⟩
  clear CB hu b2 HT1 x_0 x_1 x_2 x_3 x_4 x_5 x_6 x_7 x_8
  cases t with
  | false =>
    go_wp2
    go_ret
    exact boolNo rfl (fun h => absurd (HIN.out.2 (KnowAns.zero h.1).2) (by simp)) HT2.out.bel
  | true =>
    have hIn := HIN.out.1 (by simp)
    obtain ⟨G, hGe⟩ : ∃ G : Nat, g = (G : Int) := ⟨g.toNat, by have := hIn.1; omega⟩
    subst hGe
    have hG : G < d.groups.1 := by have h1 := hIn.2; have h2 := HOK.out.form.1.1; omega
    have HK : Hid (KnowAns d (G : Int) 0) := .inr ⟨HX.out, .inr ⟨hIn, rfl⟩⟩
    have CG := l10Group_any d [.int .i64 (d.shape 0), .int .i64 (d.shape 1), .int .i64 (d.shape 2), .int .i64 (d.shape 3), .int .i64 (d.shape 4), .int .i64 (d.shape 5), .int .i64 (d.shape 6), .int .i64 (d.shape 7), .int .i64 (d.shape 8), .slice ao1 d.groups.1 cap1, .slice ao2 d.on.1 cap2, .slice ao3 d.tapes.1 cap3, .int .i64 d.writes, .int .i64 d.stop, .bool d.down] hi w.heap.size G w2 (layWorld.rd_below HRD.out HT2.out.bel hhi) (Nat.le_trans hhi HT2.out.bel.size) HT2.out.b1 hG HOK.out
    clear hIn HIN
    go_wp2_with fail
    refine CG.mono ?_
    rintro e w3 ⟨t, rfl, ht, b3⟩
    have HB3 : Hid (Below w.heap.size w w3) := (HT2.out.call b3).bel
    have HG : Hid (t = true ↔ GhP d (G : Int)) := by
      show t = true ↔ GhP d (G : Int)
      rw [ht]
      exact ⟨fun h => ⟨HK.out, h.1, h.2⟩, fun h => ⟨h.2.1, h.2.2⟩⟩
    clear CG ht b3
    go_wp2
    go_ret
    exact ⟨t, by simp, HG.out, HB3.out⟩
end Go.Proofs.YtkijpgfmjogagaaGreat
namespace Go.Proofs.YtkijpgfmjogagaaGreat
open Go.ChangeShapes Go.WideShapes Go.ChangeAt Go.RowKit F256
theorem bool_det {P : Prop} {b : Bool} {w : World} {f : Nat} {args : Array Value} (hb : b = true ↔ P) (h : Calls Tryz.prog f args w (BoolP P w)) : Calls Tryz.prog f args w fun e w' => e = .returned (.bool b) ∧ Below w.heap.size w w' :=
  h.mono fun e w' ⟨t, h1, h2, h3⟩ => ⟨by
    have : t = b := by
      cases t <;> cases b <;> first | rfl | (exfalso; simp only [Bool.false_eq_true, false_iff, true_iff] at hb h2; first | exact hb h2 | exact h2 hb)
    rw [h1, this], h3⟩
set_option maxHeartbeats 16000000 in
set_option maxRecDepth 20000 in
theorem fnExactGroupHolds_walk (d : WorldD) (cs : List Value) (i0 : Int) (w : World) (rd0 : layWorld.rd w w.heap.size d cs) (hi0 : -9223372036854775808 ≤ i0 ∧ i0 ≤ 9223372036854775807) :
    Calls Tryz.prog 4 #[.agg cs.toArray, .int .i64 i0] w fun e w' => e = .returned (.bool true) ∧ Below w.heap.size w w' := by
  obtain ⟨v0, v1, v2, v3, v4, v5, v6, v7, v8, vp0, vl0, vq0, vp1, vl1, vq1, vp2, vl2, vq2, v9, v10, vb, rfl⟩ := world15 rd0
  have HR : Hid (layWorld.rd w w.heap.size d [.int .i64 v0, .int .i64 v1, .int .i64 v2, .int .i64 v3, .int .i64 v4, .int .i64 v5, .int .i64 v6, .int .i64 v7, .int .i64 v8, .slice vp0 vl0 vq0, .slice vp1 vl1 vq1, .slice vp2 vl2 vq2, .int .i64 v9, .int .i64 v10, .bool vb]) := rd0
  clear rd0 hi0
  have T0 := one_new w #[.int .i64 v0, .int .i64 v1, .int .i64 v2, .int .i64 v3, .int .i64 v4, .int .i64 v5, .int .i64 v6, .int .i64 v7, .int .i64 v8, .slice vp0 vl0 vq0, .slice vp1 vl1 vq1, .slice vp2 vl2 vq2, .int .i64 v9, .int .i64 v10, .bool vb] 28
  go_enter Tryz.func4, Tryz.ntmps4
  go_wp2_with (refine wp_loadBox 28 (.tmp 2) rfl rfl (w.heap.size) rfl (cs := [.int .i64 v0, .int .i64 v1, .int .i64 v2, .int .i64 v3, .int .i64 v4, .int .i64 v5, .int .i64 v6, .int .i64 v7, .int .i64 v8, .slice vp0 vl0 vq0, .slice vp1 vl1 vq1, .slice vp2 vl2 vq2, .int .i64 v9, .int .i64 v10, .bool vb]) T0.b1 Tryz.underlying28 size_LW rfl ?_)
  refine (szWorld_is _ d w.heap.size 1048576 _ (layWorld.rd_below HR.out T0.bel (Nat.le_refl _)) T0.bel.size (by omega)).mono ?_
  rintro e w1 ⟨x, rfl, hx, b1⟩
  have T1 := T0.call b1
  have HT1 : Hid (One w w1 #[.int .i64 v0, .int .i64 v1, .int .i64 v2, .int .i64 v3, .int .i64 v4, .int .i64 v5, .int .i64 v6, .int .i64 v7, .int .i64 v8, .slice vp0 vl0 vq0, .slice vp1 vl1 vq1, .slice vp2 vl2 vq2, .int .i64 v9, .int .i64 v10, .bool vb] 28) := T1
  clear b1 T0
  rcases hx with rfl | ⟨hsz, hx⟩
  · clear T1
    go_wp2
    go_ret
    exact ⟨rfl, HT1.out.bel⟩
  have hx0 : ¬ x < 0 := by omega
  clear hx
  obtain ⟨bb, hq⟩ : ∃ b : Bool, (b = true ↔ GhP d i0) := ⟨@decide _ (Classical.propDecidable _), @decide_eq_true_iff _ (Classical.propDecidable _)⟩
  have CT : ∀ w', Below w1.heap.size w1 w' → Calls Tryz.prog 7 #[.agg #[.int .i64 v0, .int .i64 v1, .int .i64 v2, .int .i64 v3, .int .i64 v4, .int .i64 v5, .int .i64 v6, .int .i64 v7, .int .i64 v8, .slice vp0 vl0 vq0, .slice vp1 vl1 vq1, .slice vp2 vl2 vq2, .int .i64 v9, .int .i64 v10, .bool vb]] w' fun e w'' => ∃ cs', e = .returned (.agg cs'.toArray) ∧ OwnT layWorld w'' w'.heap.size w''.heap.size d cs' ∧ Below w'.heap.size w' w'' := fun w' hb =>
    toWorld_is _ d w.heap.size w' (layWorld.rd_below (layWorld.rd_below HR.out HT1.out.bel (Nat.le_refl _)) hb HT1.out.bel.size) (Nat.le_trans HT1.out.bel.size hb.size) hsz
  have CS := fun (cs' : List Value) (hi : Nat) (w' : World) (h1 : layWorld.rd w' hi d cs') (h2 : hi ≤ w'.heap.size) => bool_det hq (specGh_any d i0 cs' hi w' h1 h2 hsz)
  have CI := fun (cs' : List Value) (hi : Nat) (w' : World) (h1 : layWorld.rd w' hi d cs') (h2 : hi ≤ w'.heap.size) => bool_det hq (implGh_any d i0 cs' hi w' h1 h2 hsz)
  have CW := fun c1 c2 h1 h2 w' => eqWorld_is c1 c2 d h1 h2 w'
  clear hq hsz
  go_wp2_with (refine wp_loadBox 28 (.tmp 2) rfl rfl (w.heap.size) rfl (cs := [.int .i64 v0, .int .i64 v1, .int .i64 v2, .int .i64 v3, .int .i64 v4, .int .i64 v5, .int .i64 v6, .int .i64 v7, .int .i64 v8, .slice vp0 vl0 vq0, .slice vp1 vl1 vq1, .slice vp2 vl2 vq2, .int .i64 v9, .int .i64 v10, .bool vb]) T1.b1 Tryz.underlying28 size_LW rfl ?_)
  refine (CT _ (Below.refl _ _)).mono ?_
  rintro e w2 ⟨c2, rfl, o2, b2⟩
  have z1 : w.heap.size < w1.heap.size := T1.b1.lt
  clear T1
  go_wp2_with fail
  refine (CS _ _ _ o2.rd (Nat.le_refl _)).mono ?_
  rintro e w3 ⟨rfl, b3⟩
  have z2 : w1.heap.size ≤ w2.heap.size := b2.size
  have z3 : w2.heap.size ≤ w3.heap.size := b3.size
  have B4 : Below w1.heap.size w1 w3 := b2.trans (b3.mono b2.size)
  have P4 := HT1.out.call B4
  clear o2 b2 b3
  go_wp2_with (refine wp_loadBox 28 (.tmp 2) rfl rfl (w.heap.size) rfl (cs := [.int .i64 v0, .int .i64 v1, .int .i64 v2, .int .i64 v3, .int .i64 v4, .int .i64 v5, .int .i64 v6, .int .i64 v7, .int .i64 v8, .slice vp0 vl0 vq0, .slice vp1 vl1 vq1, .slice vp2 vl2 vq2, .int .i64 v9, .int .i64 v10, .bool vb]) P4.b1 Tryz.underlying28 size_LW rfl ?_)
  refine (CT _ B4).mono ?_
  rintro e w5 ⟨cX, rfl, oX, b5⟩
  obtain ⟨x0, x1, x2, x3, x4, x5, x6, x7, x8, xp0, xl0, xq0, xp1, xl1, xq1, xp2, xl2, xq2, x9, x10, xb, rfl⟩ := world15O oX
  have z5 : w3.heap.size ≤ w5.heap.size := b5.size
  have B5 := B4.trans (b5.mono (by omega))
  clear P4 b5 B4
  go_upto_region 7 with (refine wp_allocStore 37 7 (.tmp 19) [.int .i64 x0, .int .i64 x1, .int .i64 x2, .int .i64 x3, .int .i64 x4, .int .i64 x5, .int .i64 x6, .int .i64 x7, .int .i64 x8, .slice xp0 xl0 xq0, .slice xp1 xl1 xq1, .slice xp2 xl2 xq2, .int .i64 x9, .int .i64 x10, .bool xb] _ 15 rfl rfl rfl rfl rfl rfl rfl rfl info_W rfl rfl oX.one ?_)
  have bA : Below w5.heap.size w5 (w5.alloc (.cells #[.int .i64 x0, .int .i64 x1, .int .i64 x2, .int .i64 x3, .int .i64 x4, .int .i64 x5, .int .i64 x6, .int .i64 x7, .int .i64 x8, .slice xp0 xl0 xq0, .slice xp1 xl1 xq1, .slice xp2 xl2 xq2, .int .i64 x9, .int .i64 x10, .bool xb] 37)) := (Below.refl _ _).alloc (Nat.le_refl _) _
  have X6 : Box (w5.alloc (.cells #[.int .i64 x0, .int .i64 x1, .int .i64 x2, .int .i64 x3, .int .i64 x4, .int .i64 x5, .int .i64 x6, .int .i64 x7, .int .i64 x8, .slice xp0 xl0 xq0, .slice xp1 xl1 xq1, .slice xp2 xl2 xq2, .int .i64 x9, .int .i64 x10, .bool xb] 37)) w5.heap.size #[.int .i64 x0, .int .i64 x1, .int .i64 x2, .int .i64 x3, .int .i64 x4, .int .i64 x5, .int .i64 x6, .int .i64 x7, .int .i64 x8, .slice xp0 xl0 xq0, .slice xp1 xl1 xq1, .slice xp2 xl2 xq2, .int .i64 x9, .int .i64 x10, .bool xb] 37 := box_new _ _ _
  obtain ⟨W6, hW6⟩ : ∃ x, x = w5.alloc (.cells #[.int .i64 x0, .int .i64 x1, .int .i64 x2, .int .i64 x3, .int .i64 x4, .int .i64 x5, .int .i64 x6, .int .i64 x7, .int .i64 x8, .slice xp0 xl0 xq0, .slice xp1 xl1 xq1, .slice xp2 xl2 xq2, .int .i64 x9, .int .i64 x10, .bool xb] 37) := ⟨_, rfl⟩
  rw [← hW6] at bA X6 ⊢
  have B6 := B5.trans (bA.mono (by omega))
  have OX6 := oX.call bA
  have z6 : w5.heap.size < W6.heap.size := X6.lt
  clear bA hW6 oX B5
  go_wp2_with (refine wp_loadBox 37 (.tmp 7) rfl rfl (w5.heap.size) rfl (cs := [.int .i64 x0, .int .i64 x1, .int .i64 x2, .int .i64 x3, .int .i64 x4, .int .i64 x5, .int .i64 x6, .int .i64 x7, .int .i64 x8, .slice xp0 xl0 xq0, .slice xp1 xl1 xq1, .slice xp2 xl2 xq2, .int .i64 x9, .int .i64 x10, .bool xb]) X6 Tryz.underlying37 size_W rfl ?_)
  refine (CI _ _ _ OX6.rd (by omega)).mono ?_
  rintro e w9 ⟨rfl, b7⟩
  have z7 : W6.heap.size ≤ w9.heap.size := b7.size
  have B9 := B6.trans (b7.mono (by omega))
  have X9 : Hid (Box w9 w5.heap.size #[.int .i64 x0, .int .i64 x1, .int .i64 x2, .int .i64 x3, .int .i64 x4, .int .i64 x5, .int .i64 x6, .int .i64 x7, .int .i64 x8, .slice xp0 xl0 xq0, .slice xp1 xl1 xq1, .slice xp2 xl2 xq2, .int .i64 x9, .int .i64 x10, .bool xb] 37) := X6.call b7
  have OX9 : Hid (OwnT layWorld w9 w3.heap.size w5.heap.size d [.int .i64 x0, .int .i64 x1, .int .i64 x2, .int .i64 x3, .int .i64 x4, .int .i64 x5, .int .i64 x6, .int .i64 x7, .int .i64 x8, .slice xp0 xl0 xq0, .slice xp1 xl1 xq1, .slice xp2 xl2 xq2, .int .i64 x9, .int .i64 x10, .bool xb]) := OX6.call b7
  have HB9 : Hid (Below w1.heap.size w1 w9) := B9
  have P9 : Hid (One w w9 #[.int .i64 v0, .int .i64 v1, .int .i64 v2, .int .i64 v3, .int .i64 v4, .int .i64 v5, .int .i64 v6, .int .i64 v7, .int .i64 v8, .slice vp0 vl0 vq0, .slice vp1 vl1 vq1, .slice vp2 vl2 vq2, .int .i64 v9, .int .i64 v10, .bool vb] 28) := HT1.out.call B9
  have CTc := fun w' (hb : Below w9.heap.size w9 w') => CT w' (HB9.out.trans (hb.mono (by omega)))
  have eqb : (bb != bb) = false := by simp
  clear b7 B6 X6 OX6 B9
  go_upto_region 10 with fail
  go_cut [30] (fun v wx => v = .bool false ∧ Below w9.heap.size w9 wx)
  case first =>
    have KS : ∀ w', Below w9.heap.size w9 w' → (Box w' (w5.heap.size) #[.int .i64 x0, .int .i64 x1, .int .i64 x2, .int .i64 x3, .int .i64 x4, .int .i64 x5, .int .i64 x6, .int .i64 x7, .int .i64 x8, .slice xp0 xl0 xq0, .slice xp1 xl1 xq1, .slice xp2 xl2 xq2, .int .i64 x9, .int .i64 x10, .bool xb] 37 ∧ Box w' (w.heap.size) #[.int .i64 v0, .int .i64 v1, .int .i64 v2, .int .i64 v3, .int .i64 v4, .int .i64 v5, .int .i64 v6, .int .i64 v7, .int .i64 v8, .slice vp0 vl0 vq0, .slice vp1 vl1 vq1, .slice vp2 vl2 vq2, .int .i64 v9, .int .i64 v10, .bool vb] 28) := fun w' hb => ⟨(X9.out).call hb, (P9.out.b1).call hb⟩
    have B0 : Below w9.heap.size w9 w9.drew := below_drew _
    refine wp_region_L 4 (fun w' => Box w' (w5.heap.size) #[.int .i64 x0, .int .i64 x1, .int .i64 x2, .int .i64 x3, .int .i64 x4, .int .i64 x5, .int .i64 x6, .int .i64 x7, .int .i64 x8, .slice xp0 xl0 xq0, .slice xp1 xl1 xq1, .slice xp2 xl2 xq2, .int .i64 x9, .int .i64 x10, .bool xb] 37 ∧ Box w' (w.heap.size) #[.int .i64 v0, .int .i64 v1, .int .i64 v2, .int .i64 v3, .int .i64 v4, .int .i64 v5, .int .i64 v6, .int .i64 v7, .int .i64 v8, .slice vp0 vl0 vq0, .slice vp1 vl1 vq1, .slice vp2 vl2 vq2, .int .i64 v9, .int .i64 v10, .bool vb] 28) (by kernel_rfl) (KS _ B0) (fun hHeld => ?_)
    refine wpAnyL_take (i := 0) (oi := _) (v := .agg #[.int .i64 x0, .int .i64 x1, .int .i64 x2, .int .i64 x3, .int .i64 x4, .int .i64 x5, .int .i64 x6, .int .i64 x7, .int .i64 x8, .slice xp0 xl0 xq0, .slice xp1 xl1 xq1, .slice xp2 xl2 xq2, .int .i64 x9, .int .i64 x10, .bool xb]) 16 rfl (by kernel_rfl) (fun _ _ _ h => h) (load_yield 37 (.tmp 7) rfl rfl (w5.heap.size) rfl (cs := [.int .i64 x0, .int .i64 x1, .int .i64 x2, .int .i64 x3, .int .i64 x4, .int .i64 x5, .int .i64 x6, .int .i64 x7, .int .i64 x8, .slice xp0 xl0 xq0, .slice xp1 xl1 xq1, .slice xp2 xl2 xq2, .int .i64 x9, .int .i64 x10, .bool xb]) (fun w' h => h.1) Tryz.underlying37 size_W rfl) (by assumption) ?_
    try simp only [Act.put, SL]
    refine wpAnyL_take (i := 1) (oi := _) (v := .agg #[.int .i64 v0, .int .i64 v1, .int .i64 v2, .int .i64 v3, .int .i64 v4, .int .i64 v5, .int .i64 v6, .int .i64 v7, .int .i64 v8, .slice vp0 vl0 vq0, .slice vp1 vl1 vq1, .slice vp2 vl2 vq2, .int .i64 v9, .int .i64 v10, .bool vb]) 16 rfl (by kernel_rfl) (fun _ _ _ h => h) (load_yield 28 (.tmp 2) rfl rfl (w.heap.size) rfl (cs := [.int .i64 v0, .int .i64 v1, .int .i64 v2, .int .i64 v3, .int .i64 v4, .int .i64 v5, .int .i64 v6, .int .i64 v7, .int .i64 v8, .slice vp0 vl0 vq0, .slice vp1 vl1 vq1, .slice vp2 vl2 vq2, .int .i64 v9, .int .i64 v10, .bool vb]) (fun w' h => h.2) Tryz.underlying28 size_LW rfl) (by assumption) ?_
    try simp only [Act.put, SL]
    refine wpAnyL_one (i := 2) (o := _) rfl (by kernel_rfl) (fun KC hKC => ?_)
    refine step_call rfl 7 _ _ rfl #[.agg #[.int .i64 v0, .int .i64 v1, .int .i64 v2, .int .i64 v3, .int .i64 v4, .int .i64 v5, .int .i64 v6, .int .i64 v7, .int .i64 v8, .slice vp0 vl0 vq0, .slice vp1 vl1 vq1, .slice vp2 vl2 vq2, .int .i64 v9, .int .i64 v10, .bool vb]] ?_ Tryz.func7 (by kernel_rfl) (by kernel_rfl) (CTc _ B0) ?_
    · simp [Act.eval, Act.put]
    rintro ee wb ⟨cs', rfl, oR, bb⟩
    have bR : Below w9.heap.size w9 wb := B0.trans (bb.mono B0.size)
    refine ⟨_, rfl, ?_⟩
    refine hKC.out _ _ (KS _ bR) (fun hHeld => ?_)
    clear hKC KC
    try simp only [Act.put, SL]
    refine wpAnyL_one (i := 3) (o := _) rfl (by kernel_rfl) (fun KC hKC => ?_)
    refine step_call rfl 10 _ _ rfl #[.agg #[.int .i64 x0, .int .i64 x1, .int .i64 x2, .int .i64 x3, .int .i64 x4, .int .i64 x5, .int .i64 x6, .int .i64 x7, .int .i64 x8, .slice xp0 xl0 xq0, .slice xp1 xl1 xq1, .slice xp2 xl2 xq2, .int .i64 x9, .int .i64 x10, .bool xb], .agg cs'.toArray] ?_ Tryz.func10 (by kernel_rfl) (by kernel_rfl) (CW _ _ _ _ _ ((OX9.out).call bR).rd oR.rd (Nat.le_trans (by omega) bR.size) (Nat.le_refl _)) ?_
    · simp [Act.eval, Act.put]
    rintro ee wc' ⟨rfl, bc⟩
    have bC : Below w9.heap.size w9 wc' := bR.trans (bc.mono bR.size)
    refine ⟨_, rfl, ?_⟩
    refine hKC.out _ _ (KS _ bC) (fun hHeld => ?_)
    clear hKC KC
    try simp only [Act.put, SL]
    refine wpAnyL_last (o := _) rfl (by kernel_rfl) (fun KC hKC => ?_)
    go_simp
    refine hKC.out _ _ ?_
    clear hKC KC
    try simp only [Act.put, SL]
    refine wpAnyL_done (by kernel_rfl) ?_ _
    go_wp2
    go_meet
    exact ⟨rfl, bC⟩
  case rest =>
  obtain ⟨rfl, b10⟩ := hcut
  have HB : Hid (Below w.heap.size w wc) := (P9.out.call b10).bel
  clear b10 CTc
  go_wp2
  go_ret
  exact ⟨rfl, HB.out⟩
set_option maxRecDepth 100000 in
theorem fnExactGroupHolds_lifted (os : Os) (started : os.Started) (H : Type) (enc : TypeId × Value → H) :
    ReturnsInHanded {} Tryz.checked os 4 .any (Rows.fnExactGroupHoldsSpec.pre6 enc Tryz.prog Tryz.f4 Rows.fnExactGroupHoldsRow.domain false) (Rows.fnExactGroupHoldsSpec.post enc Tryz.prog Tryz.f4 false true false false) := by
  refine returnsInHanded_of_change (C := Tryz.checked) frame_own started (by kernel_rfl) Tryz.func4
    (ChangeSpec.witness6 (enc := enc) (C := Tryz.checked) false ⟨#[], #[.agg #[.int .i64 0, .int .i64 0, .int .i64 0, .int .i64 0, .int .i64 0, .int .i64 0, .int .i64 0, .int .i64 0, .int .i64 0, .slice none 0 0, .slice none 0 0, .slice none 0 0, .int .i64 0, .int .i64 0, .bool false], .int .i64 0], []⟩ 8 (by kernel_rfl) (by kernel_rfl) (by kernel_rfl) (by kernel_rfl)) ?_
  intro W base args ds gs before hval0 hW hcnd _
  have hval : ∀ (j : Nat) t v, Tryz.f4.params[j]? = some t → args[j]? = some v → Value.okWide Tryz.prog W .any base t v := hval0
  have hW' := hW
  obtain ⟨p, q, hA0, hV, rfl, hfz, hnd⟩ := hW
  have hA : DataW.TrodAll enc Tryz.prog W 0 (fun _ => true) true Tryz.f4.params.toList args.toList ds p := hA0
  rw [Tryz.params4] at hA hval
  obtain ⟨v0, vs0, d0, ds0, p0, q0, hargs, rfl, rfl, h0, r0⟩ := trodAll_cons hA
  obtain ⟨v1, vs1, d1, ds1, p1, q1, rfl, rfl, rfl, h1, r1⟩ := trodAll_cons r0
  obtain ⟨rfl, rfl, rfl⟩ := trodAll_nil r1
  obtain rfl : args = #[v0, v1] := by cases args; simp_all
  obtain ⟨rfl, rfl⟩ := trodVars_none hV
  have k0 := h0
  have lt0 : ∀ x ∈ p0, x.block < W.heap.size := by obtain ⟨m, hm⟩ := k0; exact DataW.trod_lt m _ _ _ hm
  obtain ⟨cs0, a0, rfl, rd0⟩ := struct_of_trod opensWorld Tryz.underlying28 (hval 0 28 v0 rfl rfl) h0
  obtain ⟨n1, rfl, rfl, rfl, hn1⟩ := open_int Tryz.underlying2 (hval 1 2 v1 rfl rfl) h1
  clear hA0 hval0
  refine (fnExactGroupHolds_walk a0 cs0 n1 W rd0 (bounds_i64 hn1)).mono fun e W' ⟨he, bel⟩ => ?_
  subst he
  exact ⟨_, rfl, _, _, _, [], _, [], hW', trodAll_mk1 (shut_bool Tryz.underlying4 _), (trodAll_cons_mk (Below.trod frame_laid (by kernel_rfl) (of_decide_eq_true (by kernel_rfl)) k0 bel lt0) (trodAll_cons_mk (shut_int Tryz.underlying2 hn1) trodAll_mk0)), rfl, bel.frame _, fun h => by cases h⟩
end Go.Proofs.YtkijpgfmjogagaaGreat