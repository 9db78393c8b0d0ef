/- Walk of DrawEncodeColumn. What is drawn is not told, only its bounds. -/
import Derived.Test.YtoadjpacchhleaaWDrawC
import Derived.Test.YtoadjpacchhleaaWAppend
namespace Go.Proofs.Ytoadjpacchhleaa
open Go.RowKit F256
set_option linter.unusedVariables false
set_option linter.unusedSimpArgs false

/-- lists that were drawn: N of them, the slice of their slices as it is -/
def StC (w wx : World) (bs T : Nat) (v : Value) (n : Nat) (f : Nat → Nat) (N g cap : Nat) : Prop :=
  ∃ nn ff e t', OwnE wx w.heap.size wx.heap.size (.slice (some ⟨g, 0, none⟩) N cap) N nn ff g cap e ∧ Byt ff ∧ (∀ i, nn i ≤ 4001) ∧ t' ≤ T ∧ Src wx bs t' v n f ∧ Chg bs (bs + 1) w wx
theorem StC.mono {w wx : World} {bs T T' : Nat} {v : Value} {n : Nat} {f : Nat → Nat} {N g cap : Nat} (h : StC w wx bs T v n f N g cap) (hT : T ≤ T') : StC w wx bs T' v n f N g cap := by
  obtain ⟨nn, ff, e, t', h1, h2, h3, h4, h5⟩ := h
  exact ⟨nn, ff, e, t', h1, h2, h3, by omega, h5⟩
/-- what DrawEncodeColumn tells -/
def DrawColP (w : World) (e : Ending) (w' : World) : Prop :=
  ∃ vr R nn ff, ∃ b : Int, e = .returned (.tuple #[vr, .int .i64 b]) ∧ OwnM w' w.heap.size w'.heap.size vr R nn ff ∧ Byt ff ∧ R ≤ 5 ∧ (∀ i, nn i ≤ 4001) ∧ -1 ≤ b ∧ b ≤ 3 ∧ Below w.heap.size w w'

set_option maxHeartbeats 4000000 in
theorem drawCol_any (v : Value) (n : Nat) (f : Nat → Nat) (w : World) (h : Rd w w.heap.size v n f) (kf : ∀ i, f i < 256) (hn : n ≤ 1048576) :
    Calls Try.prog 28 #[v] w (DrawColP w) := by
  go_enter Try.func28, Try.ntmps28
  go_wp2_with fail
  refine (l1Source_any v n f _ h kf hn).mono ?_
  rintro e w1 ⟨rfl, h1, b1⟩
  have s1 := h1.1.lt
  go_wp2_with fail
  refine (l3Sides_any w.heap.size 0 v n f (by omega) _ h1).mono ?_
  rintro e w2 ⟨a, b, ha1, ha2, hb1, hb2, rfl, h2, c2⟩
  have s2 := c2.size
  have HBB : Hid (-1 ≤ b ∧ b ≤ 3) := ⟨hb1, hb2⟩
  have CL := l3Lists_any w.heap.size 3 v n f (by omega) a ha1 ha2 w2 h2
  clear h h1 h2 kf
  go_wp2_with fail
  refine CL.mono ?_
  rintro e w3 ⟨g, cap, N, ff, er, t', rfl, hE, kff, hN6, ht', h3, c3⟩
  obtain ⟨R, hR⟩ : ∃ R, R = a.toNat := ⟨_, rfl⟩
  have hR5 : R ≤ 5 := by omega
  rw [← hR] at hE ⊢
  have S0 : StC w2 w3 w.heap.size 300 v n f R g cap := ⟨_, _, _, _, hE, kff, fun i => by show N ≤ 4001; omega, by omega, h3, c3⟩
  have HS0 : Hid (StC w2 w3 w.heap.size 300 v n f R g cap) := S0
  have hlow : w2.heap.size ≤ g := hE.low
  have hws : w.heap.size < w2.heap.size := by omega
  have HC2 : Hid (Chg w.heap.size (w.heap.size + 1) w1 w2) := c2
  have HB1 : Hid (Below w.heap.size w w1) := b1
  clear CL hE kff h3 c3 S0 ht' hR ha1 ha2 hb1 hb2 c2 b1
  go_upto_region 4 with fail
  go_cut [24] (fun c wx => ∃ q : Bool, c = .bool q ∧ (q = true → 1 < R) ∧ StC w2 wx w.heap.size 301 v n f R g cap)
  case first =>
    by_cases hN1 : 1 < R
    · obtain ⟨nn, ff, e, t', h1, h2, h3, h4, h5, h6⟩ := HS0.out
      go_wp2_with fail
      refine (l1Chance_any w.heap.size t' v n f 14 (by omega) (by omega) (by omega) _ h5).mono ?_
      rintro ee w4 ⟨q, rfl, h7, c7⟩
      have S1 : StC w2 w4 w.heap.size 301 v n f R g cap := ⟨nn, ff, e, t' + 1, h1.chgC c7 hws, h2, h3, by omega, h7, h6.trans c7⟩
      clear h1 h2 h3 h4 h5 h6 h7 c7
      go_wp2
      go_meet
      exact ⟨q, rfl, fun _ => hN1, S1⟩
    · go_wp2
      go_meet
      exact ⟨false, rfl, fun h => by simp at h, HS0.out.mono (by omega)⟩
  case rest =>
    obtain ⟨q, rfl, hq1, S1⟩ := hcut
    clear HS0
    have HS1 : Hid (StC w2 wc w.heap.size 301 v n f R g cap) := S1
    clear S1
    go_upto_if 24 with fail
    go_cut [] (fun wx => StC w2 wx w.heap.size 400 v n f R g cap)
    case first =>
      cases q with
      | false =>
        go_wp2
        go_meet
        exact HS1.out.mono (by omega)
      | true =>
        have hk1 := hq1 rfl
        obtain ⟨nn, ff, e, t', h1, h2, h3, h4, h5, h6⟩ := HS1.out
        have H1 : Hid (OwnE wc w2.heap.size wc.heap.size (.slice (some ⟨g, 0, none⟩) R cap) R nn ff g cap e) := h1
        have H2 : Hid (Byt ff) := h2
        have H3 : Hid (∀ i, nn i ≤ 4001) := h3
        have H6 : Hid (Chg w.heap.size (w.heap.size + 1) w2 wc) := h6
        have sz6 := h6.size
        have CS := l1Some_any w.heap.size t' v n f 9 (by omega) (by omega) wc h5
        have e9 : ((9 : Nat) : Int) = 9 := rfl
        rw [e9] at CS
        have h0R : 0 < R := by omega
        clear h1 h2 h3 h5 h6 e9
        go_wp2_with fail
        refine CS.mono ?_
        rintro ee w5 ⟨v5, g5, rfl, o5, k5, s5, c5⟩
        obtain ⟨ao5, cap5, rfl⟩ := o5.slice
        have E5 := (H1.out.keep (w2 := w5) fun b h1 h2 => c5.block b h2 (.inr (by omega)))
        have sc5 := c5.size
        have q1 := (E5.weaken sc5).cell 0 h0R
        have q2 := (E5.weaken sc5).frozen 0
        have L5 := E5.lay 0 h0R (n' := fun i => if i = 0 then 9 else nn i) (M' := fun i => if i = 0 then g5 else ff i) (by simpa using o5) (Nat.le_refl _) sc5 (fun j _ hj => by simp [hj]) (fun j _ hj => by simp [hj])
        obtain ⟨x0, hx0⟩ : ∃ x, x = e 0 := ⟨_, rfl⟩
        rw [← hx0] at q1
        have o4 := out_store w5 g (g + 1) g 0 (.slice ao5 9 cap5) (Nat.le_refl _) (by omega)
        have b4 : Below w2.heap.size w5 (w5.setCell ⟨g, 0, none⟩ (.slice ao5 9 cap5)) := (Below.refl w2.heap.size w5).setCell hlow _
        have S2 : StC w2 (w5.setCell ⟨g, 0, none⟩ (.slice ao5 9 cap5)) w.heap.size 400 v n f R g cap := ⟨_, _, _, _, L5.weaken (Nat.le_of_eq o4.size.symm), fun i j => by
          by_cases c : i = 0
          · simp [c]; exact k5 j
          · simp [c]; exact H2.out i j, fun i => by
          by_cases c : i = 0
          · simp [c]
          · simp [c]; exact H3.out i, by omega, s5.overC b4 hws, Chg.then (H6.out.trans c5) b4⟩
        clear E5 L5 o4 b4 o5 c5 s5 hx0 CS
        go_wp2
        go_meet
        exact S2
    case rest =>
      have HS2 : Hid (StC w2 wc w.heap.size 400 v n f R g cap) := hcut
      clear hcut hq1 HS1
      obtain ⟨nn, ff, e, t', h1, h2, h3, h4, h5, h6⟩ := HS2.out
      have H1 : Hid (OwnE wc w2.heap.size wc.heap.size (.slice (some ⟨g, 0, none⟩) R cap) R nn ff g cap e) := h1
      have H2 : Hid (Byt ff) := h2
      have H3 : Hid (∀ i, nn i ≤ 4001) := h3
      have H6 : Hid (Chg w.heap.size (w.heap.size + 1) w2 wc) := h6
      have sz6 := h6.size
      have CC := l1Chance_any w.heap.size t' v n f 40 (by omega) (by omega) (by omega) wc h5
      clear h1 h2 h3 h5 h6 HS2
      go_wp2_with fail
      refine CC.mono ?_
      rintro ee w5 ⟨q5, rfl, s5, c5⟩
      have B5 : Below w.heap.size w w5 := HB1.out.trans (((HC2.out.trans H6.out).trans c5).below (Nat.le_refl _) (by omega))
      have sc5 := c5.size
      have H5 : Hid (OwnE w5 w2.heap.size w5.heap.size (.slice (some ⟨g, 0, none⟩) R cap) R nn ff g cap e) := H1.out.chgC c5 hws
      clear CC c5 H1 H6
      cases q5 with
      | false =>
        go_wp2
        go_ret2
        obtain ⟨g9, cap9, e9, h9⟩ : OwnM w5 w.heap.size w5.heap.size (.slice (some ⟨g, 0, none⟩) R cap) R nn ff := OwnM.weaken ⟨_, _, _, H5.out⟩ (by omega) (Nat.le_refl _)
        exact ⟨_, R, nn, ff, b, rfl, ⟨_, _, _, h9⟩, H2.out, hR5, H3.out, HBB.out.1, HBB.out.2, B5⟩
      | true =>
        have CN := l1Next_any w.heap.size (t' + 1) v n f 2 (by omega) (by omega) (by omega) w5 s5
        have e2 : ((2 : Nat) : Int) = 2 := rfl
        rw [e2] at CN
        clear H5 H2 H3 s5 e2
        go_wp2_with fail
        refine CN.mono ?_
        rintro ee w6 ⟨r, hr, rfl, s6, c6⟩
        have B6 : Below w.heap.size w w6 := B5.trans (c6.below (Nat.le_refl _) (by omega))
        have z6 := B6.size
        obtain ⟨M, hM⟩ : ∃ M, M = 4000 + r := ⟨_, rfl⟩
        have hMi : (4000 : Int) + (r : Int) = (M : Int) := by omega
        have hM1 : M ≤ 4001 := by omega
        clear CN c6 s6 hM B5
        go_wp2_with (at_make; refine wp_makeB _ rfl _ _ rfl _ _ M rfl rfl (by first | omega | simp [hMi]) (by first | omega | simp [hMi]) (by omega) ?_; intro w7 o7 b7 z7)
        have B7 : Below w.heap.size w w7 := B6.trans (b7.mono z6)
        have s7 := b7.size
        have hrow : (w7.alloc (.cells #[.slice (some ⟨w6.heap.size, 0, none⟩) M M] 22)).ownsRow w7.heap.size 22 1 (.slice (some ⟨w7.heap.size, 0, none⟩) 1 1) 1 (valsOf 1 fun _ => .slice (some ⟨w6.heap.size, 0, none⟩) M M) := World.ownsRow_lit (base := w7.heap.size) (e := 22) (size := 1) w7 #[.slice (some ⟨w6.heap.size, 0, none⟩) M M] 1 (Nat.le_refl _) (by unfold maxLen; omega) rfl
        have EF : OwnE (w7.alloc (.cells #[.slice (some ⟨w6.heap.size, 0, none⟩) M M] 22)) w.heap.size (w7.alloc (.cells #[.slice (some ⟨w6.heap.size, 0, none⟩) M M] 22)).heap.size (.slice (some ⟨w7.heap.size, 0, none⟩) 1 1) 1 (fun _ => M) (fun _ _ => 0) w7.heap.size 1 (fun _ => .slice (some ⟨w6.heap.size, 0, none⟩) M M) :=
          ⟨rfl, by omega, by simp, row_weaken hrow (by omega), fun i _ => (o7.alloc _).weaken z6 (by simp), ⟨fun i _ hh => by simp [Value.ownBlock] at hh; omega, fun i j hi hj hij => by omega⟩⟩
        have B8 : Below w.heap.size w (w7.alloc (.cells #[.slice (some ⟨w6.heap.size, 0, none⟩) M M] 22)) := B7.alloc B7.size _
        clear hrow o7 b7
        go_ret2
        exact ⟨_, 1, _, _, b, rfl, ⟨_, _, _, EF⟩, fun _ _ => by show (0 : Nat) < 256; omega, by omega, fun _ => hM1, HBB.out.1, HBB.out.2, B8⟩
end Go.Proofs.Ytoadjpacchhleaa
