/- Walk of DrawShareOf. What is drawn is not told, only its bounds. -/
import Derived.Test.YtoadjpacchhleaaWDrawC
import Derived.Test.YtoadjpacchhleaaWInts
namespace Go.Proofs.Ytoadjpacchhleaa
open Go.RowKit F256
set_option linter.unusedVariables false
set_option linter.unusedSimpArgs false

/-- what DrawShareOf tells -/
def DrawShP (w : World) (e : Ending) (w' : World) : Prop :=
  ∃ a b want : Int, ∃ vh m, ∃ h : Nat → Int, e = .returned (.tuple #[.int .i64 a, .int .i64 b, vh, .int .i64 want]) ∧ OwnI w' w.heap.size w'.heap.size vh m h ∧ m ≤ 9 ∧ (∀ i, -1 ≤ h i ∧ h i ≤ 100) ∧ -1 ≤ a ∧ a ≤ 5 ∧ -1 ≤ b ∧ b ≤ 3 ∧ -1 ≤ want ∧ want ≤ 100 ∧ Below w.heap.size w w'

theorem results_tmp4 {fn : Func} {t u v x : Tmp} (h : fn.results = #[.tmp t, .tmp u, .tmp v, .tmp x]) (tmps : Array Value) (P : Program) (w : World) :
    (results fn tmps).run P w = .ok (.tuple #[tmps.getD t undef, tmps.getD u undef, tmps.getD v undef, tmps.getD x undef]) w := by
  simp [results, h]
set_option maxRecDepth 20000 in
set_option maxHeartbeats 8000000 in
theorem drawShare_any (v : Value) (n : Nat) (f : Nat → Nat) (w : World) (h : Rd w w.heap.size v n f) (kf : ∀ i, f i < 256) (hn : n ≤ 1048576) :
    Calls Try.prog 33 #[v] w (DrawShP w) := by
  go_enter Try.func33, Try.ntmps33
  go_wp2_with fail
  refine (l1Source_any v n f _ h kf hn).mono ?_
  rintro e w1 ⟨rfl, h1, b1⟩
  have s1 := h1.1.lt
  go_wp2_with fail
  refine (l3Sides_any w.heap.size 0 v n f (by omega) _ h1).mono ?_
  rintro e w2 ⟨a, b, ha1, ha2, hb1, hb2, rfl, h2, c2⟩
  have s2 := c2.size
  have HAB : Hid (-1 ≤ a ∧ a ≤ 5 ∧ -1 ≤ b ∧ b ≤ 3) := ⟨ha1, ha2, hb1, hb2⟩
  have MX := l1Max_any 1 (a + b) w2
  obtain ⟨Q, hQ⟩ : ∃ Q : Nat, (if a + b < 1 then (1 : Int) else a + b) = (Q : Int) := ⟨(if a + b < 1 then (1 : Int) else a + b).toNat, by split <;> omega⟩
  have hQ1 : 1 ≤ Q ∧ Q ≤ 8 := by split at hQ <;> omega
  rw [hQ] at MX
  have wab : IntKind.i64.wrap (a + b) = a + b := by rw [IntKind.wrap_i64]; omega
  clear h h1 kf hQ
  go_wp2_with fail
  refine MX.mono ?_
  rintro e w2' ⟨rfl, hw⟩
  obtain rfl := hw.symm
  have CN := l1Next_any w.heap.size 3 v n f Q hQ1.1 (by omega) (by omega) w2 h2
  clear MX h2
  go_wp2_with fail
  refine CN.mono ?_
  rintro e w3 ⟨r, hr, rfl, h3, c3⟩
  have s3 := c3.size
  have HC23 : Hid (Chg w.heap.size (w.heap.size + 1) w1 w3) := c2.trans c3
  have HB1 : Hid (Below w.heap.size w w1) := b1
  have hws : w.heap.size < w3.heap.size := by omega
  have hb0 : Below w3.heap.size w3 (w3.alloc (.cells #[] 2)) := (Below.refl _ _).alloc (Nat.le_refl _) _
  have O0 := ownI_lit0 w3 (fun _ => 0)
  have S0 := h3.chgTrans hb0
  clear CN h3 c2 c3 b1 ha1 ha2 hb1 hb2 wab
  go_wp2
  go_loopw [11, 12] (fun u i wr => ∃ k m : Nat, k ≤ Q ∧ m ≤ k ∧ i = .int .i64 k ∧ ∃ (h : Nat → Int) (t' : Nat), OwnI wr w3.heap.size wr.heap.size u m h ∧ (∀ i, -1 ≤ h i ∧ h i ≤ 100) ∧ t' ≤ 4 + 2 * k ∧ Src wr w.heap.size t' v n f ∧ Chg w.heap.size (w.heap.size + 1) w3 wr) (fun _ i _ => Q - (intOf i).toNat)
  case atStart => exact ⟨0, 0, Nat.zero_le _, Nat.le_refl _, rfl, fun _ => 0, 4, O0, fun _ => by show -1 ≤ (0 : Int) ∧ (0 : Int) ≤ 100; omega, by omega, S0, Below.chg hb0 _ _⟩
  case round =>
    clear O0 S0 hb0
    obtain ⟨k, m, hk, hmk, rfl, h, t', hown, hh, ht', hsrc, hchg⟩ := hrel
    have HH : Hid (∀ i, -1 ≤ h i ∧ h i ≤ 100) := hh
    have szr := hchg.size
    by_cases hlt : k < Q
    · have HO0 : Hid (OwnI wr w3.heap.size wr.heap.size u11 m (fun i => if i = m then (k : Int) else h i)) := hown.congr (fun i hi => by simp [show ¬ i = m by omega])
      have HCH : Hid (Chg w.heap.size (w.heap.size + 1) w3 wr) := hchg
      clear hown hh hchg
      have over : ∀ {wx wy : World}, OwnI wx w3.heap.size wx.heap.size u11 m (fun i => if i = m then (k : Int) else h i) → Chg w.heap.size (w.heap.size + 1) wx wy → OwnI wy w3.heap.size wy.heap.size u11 m (fun i => if i = m then (k : Int) else h i) := fun o c => (o.chg c (.inr (by omega))).mono c.size
      by_cases hkr : k = r
      · have tk : ((k : Int) != (r : Int)) = false := by simp; omega
        clear hkr
        go_wp2_with fail
        refine (l1Chance_any w.heap.size t' v n f 30 (by omega) (by omega) (by omega) _ hsrc).mono ?_
        rintro ee w5 ⟨q5, rfl, hs5, c5⟩
        have HO5 : Hid (OwnI w5 w3.heap.size w5.heap.size u11 m (fun i => if i = m then (k : Int) else h i)) := over HO0.out c5
        have HC5 : Hid (Chg w.heap.size (w.heap.size + 1) w3 w5) := HCH.out.trans c5
        have s5 := HC5.out.size
        clear hsrc HO0 HCH c5
        cases q5 with
        | true =>
          go_wp2_with (at_builtin; refine wp_appendI rfl (.tmp 45) (.tmp 47) rfl w3.heap.size w5.heap.size u11 m (fun i => if i = m then (k : Int) else h i) ?_ ?_ w5.heap.size 1 ?_ ?_ (by omega) ?_ ?_; (simp [Act.eval]); exact HO5.out.alloc _; (simp [Act.eval]); (simp); (simp; omega); intro v9 w9 o9 b9)
          have b9' : Below w3.heap.size w5 w9 := ((Below.refl w3.heap.size w5).alloc (by omega) _).trans b9
          have R1 := hs5.overC b9' (by omega)
          have R2 : Chg w.heap.size (w.heap.size + 1) w3 w9 := Chg.then HC5.out b9'
          have R3 : ∀ i, -1 ≤ (fun i => if i = m then (k : Int) else h i) i ∧ (fun i => if i = m then (k : Int) else h i) i ≤ 100 := fun i => by
            show -1 ≤ (if i = m then (k : Int) else h i) ∧ (if i = m then (k : Int) else h i) ≤ 100
            by_cases c : i = m
            · rw [if_pos c]; omega
            · rw [if_neg c]; exact HH.out i
          clear b9 b9' hs5
          go_wp2
          go_roundw
          case rel => exact ⟨k + 1, m + 1, by omega, by omega, by go_num, _, _, o9, R3, by omega, R1, R2⟩
          case measure => simp [intOf]; omega
        | false =>
          have R2 : Chg w.heap.size (w.heap.size + 1) w3 w5 := HC5.out
          have hk8 : k < 8 := by omega
          have R0 := HO5.out
          have R3 : ∀ i, -1 ≤ (fun i => if i = m then (k : Int) else h i) i ∧ (fun i => if i = m then (k : Int) else h i) i ≤ 100 := fun i => by
            show -1 ≤ (if i = m then (k : Int) else h i) ∧ (if i = m then (k : Int) else h i) ≤ 100
            by_cases c : i = m
            · rw [if_pos c]; omega
            · rw [if_neg c]; exact HH.out i
          go_wp2
          go_roundw
          case rel => exact ⟨k + 1, m, by omega, by omega, by go_num, _, _, R0, R3, by omega, hs5, R2⟩
          case measure => simp [intOf]; omega
      · have tk : ((k : Int) != (r : Int)) = true := by simp; omega
        clear hkr
        go_wp2_with fail
        refine (l1Chance_any w.heap.size t' v n f 6 (by omega) (by omega) (by omega) _ hsrc).mono ?_
        rintro ee w5 ⟨q5, rfl, hs5, c5⟩
        have HO5 : Hid (OwnI w5 w3.heap.size w5.heap.size u11 m (fun i => if i = m then (k : Int) else h i)) := over HO0.out c5
        have HC5 : Hid (Chg w.heap.size (w.heap.size + 1) w3 w5) := HCH.out.trans c5
        have s5 := HC5.out.size
        clear hsrc HO0 HCH c5
        cases q5 with
        | false =>
          go_wp2_with (at_builtin; refine wp_appendI rfl (.tmp 45) (.tmp 47) rfl w3.heap.size w5.heap.size u11 m (fun i => if i = m then (k : Int) else h i) ?_ ?_ w5.heap.size 1 ?_ ?_ (by omega) ?_ ?_; (simp [Act.eval]); exact HO5.out.alloc _; (simp [Act.eval]); (simp); (simp; omega); intro v9 w9 o9 b9)
          have b9' : Below w3.heap.size w5 w9 := ((Below.refl w3.heap.size w5).alloc (by omega) _).trans b9
          have R1 := hs5.overC b9' (by omega)
          have R2 : Chg w.heap.size (w.heap.size + 1) w3 w9 := Chg.then HC5.out b9'
          have R3 : ∀ i, -1 ≤ (fun i => if i = m then (k : Int) else h i) i ∧ (fun i => if i = m then (k : Int) else h i) i ≤ 100 := fun i => by
            show -1 ≤ (if i = m then (k : Int) else h i) ∧ (if i = m then (k : Int) else h i) ≤ 100
            by_cases c : i = m
            · rw [if_pos c]; omega
            · rw [if_neg c]; exact HH.out i
          clear b9 b9' hs5
          go_wp2
          go_roundw
          case rel => exact ⟨k + 1, m + 1, by omega, by omega, by go_num, _, _, o9, R3, by omega, R1, R2⟩
          case measure => simp [intOf]; omega
        | true =>
          go_wp2_with fail
          refine (l1Chance_any w.heap.size (t' + 1) v n f 30 (by omega) (by omega) (by omega) _ hs5).mono ?_
          rintro ee w6 ⟨q6, rfl, hs6, c6⟩
          have HO6 : Hid (OwnI w6 w3.heap.size w6.heap.size u11 m (fun i => if i = m then (k : Int) else h i)) := over HO5.out c6
          have HC6 : Hid (Chg w.heap.size (w.heap.size + 1) w3 w6) := HC5.out.trans c6
          have s6 := HC6.out.size
          clear hs5 HO5 HC5 c6
          cases q6 with
          | true =>
            go_wp2_with (at_builtin; refine wp_appendI rfl (.tmp 45) (.tmp 47) rfl w3.heap.size w6.heap.size u11 m (fun i => if i = m then (k : Int) else h i) ?_ ?_ w6.heap.size 1 ?_ ?_ (by omega) ?_ ?_; (simp [Act.eval]); exact HO6.out.alloc _; (simp [Act.eval]); (simp); (simp; omega); intro v9 w9 o9 b9)
            have b9' : Below w3.heap.size w6 w9 := ((Below.refl w3.heap.size w6).alloc (by omega) _).trans b9
            have R1 := hs6.overC b9' (by omega)
            have R2 : Chg w.heap.size (w.heap.size + 1) w3 w9 := Chg.then HC6.out b9'
            have R3 : ∀ i, -1 ≤ (fun i => if i = m then (k : Int) else h i) i ∧ (fun i => if i = m then (k : Int) else h i) i ≤ 100 := fun i => by
              show -1 ≤ (if i = m then (k : Int) else h i) ∧ (if i = m then (k : Int) else h i) ≤ 100
              by_cases c : i = m
              · rw [if_pos c]; omega
              · rw [if_neg c]; exact HH.out i
            clear b9 b9' hs6
            go_wp2
            go_roundw
            case rel => exact ⟨k + 1, m + 1, by omega, by omega, by go_num, _, _, o9, R3, by omega, R1, R2⟩
            case measure => simp [intOf]; omega
          | false =>
            have R2 : Chg w.heap.size (w.heap.size + 1) w3 w6 := HC6.out
            have hk8 : k < 8 := by omega
            have R0 := HO6.out
            have R3 : ∀ i, -1 ≤ (fun i => if i = m then (k : Int) else h i) i ∧ (fun i => if i = m then (k : Int) else h i) i ≤ 100 := fun i => by
              show -1 ≤ (if i = m then (k : Int) else h i) ∧ (if i = m then (k : Int) else h i) ≤ 100
              by_cases c : i = m
              · rw [if_pos c]; omega
              · rw [if_neg c]; exact HH.out i
            go_wp2
            go_roundw
            case rel => exact ⟨k + 1, m, by omega, by omega, by go_num, _, _, R0, R3, by omega, hs6, R2⟩
            case measure => simp [intOf]; omega
    · obtain rfl : k = Q := by omega
      have HO0 : Hid (OwnI wr w3.heap.size wr.heap.size u11 m h) := hown
      have HCH : Hid (Chg w.heap.size (w.heap.size + 1) w3 wr) := hchg
      obtain ⟨ao11, cap11, hs11⟩ := hown.slice
      subst hs11
      clear hown hh hchg
      go_wp2_with fail
      refine (l1Chance_any w.heap.size t' v n f 20 (by omega) (by omega) (by omega) _ hsrc).mono ?_
      rintro ee w5 ⟨q5, rfl, hs5, c5⟩
      have HO5 : Hid (OwnI w5 w3.heap.size w5.heap.size (.slice ao11 m cap11) m h) := (HO0.out.chg c5 (.inr (by omega))).mono c5.size
      have HC5 : Hid (Chg w.heap.size (w.heap.size + 1) w3 w5) := HCH.out.trans c5
      have s5 := HC5.out.size
      clear hsrc HO0 HCH c5
      cases q5 with
      | false =>
        have l5 := hs5.1.lt
        have hb5 : Below w5.heap.size w5 (w5.alloc (.cells #[.int .i64 r, .int .i64 r, .int .i64 r, .int .i64 r, .int .i64 r, .int .i64 (-1), .int .i64 k] 2)) := (Below.refl _ _).alloc (Nat.le_refl _) _
        have P5 := l1Pick_list w.heap.size (t' + 1) v n f [(r : Int), r, r, r, r, -1, k] w5.heap.size 7 (by omega) (by show 1 ≤ 7; omega) (by show 7 ≤ 100000; omega) _ (hs5.chgTrans hb5) (box_new _ _ _) (by omega)
        go_wp2_with fail
        refine P5.mono ?_
        rintro ee w7 ⟨x, hx, rfl, hs7, c7⟩
        have HX : Hid (-1 ≤ x ∧ x ≤ 100) := by
          show -1 ≤ x ∧ x ≤ 100
          simp only [List.mem_cons, List.not_mem_nil, or_false] at hx
          omega
        have c57 : Chg w.heap.size (w.heap.size + 1) w5 w7 := (Below.chg hb5 _ _).trans c7
        have O7 := ((HO5.out.chg c57 (.inr (by omega))).mono c57.size).weaken (lo' := w.heap.size) (by omega) (Nat.le_refl _)
        have B7 : Below w.heap.size w w7 := HB1.out.trans (((HC23.out.trans HC5.out).trans c57).below (Nat.le_refl _) (by omega))
        clear hx hb5 P5 c7 c57 hs5 hs7 HO5
        go_wp2
        (try simp only [Exit.inBlock, Exit.then])
        refine bodyPost_ret (results_tmp4 rfl _ _ _) rfl ?_
        exact ⟨a, b, x, _, m, h, rfl, O7, by omega, HH.out, HAB.out.1, HAB.out.2.1, HAB.out.2.2.1, HAB.out.2.2.2, HX.out.1, HX.out.2, B7⟩
      | true =>
        have l5 := hs5.1.lt
        have hb5 : Below w5.heap.size w5 (w5.alloc (.cells #[.int .i64 k, .int .i64 0, .int .i64 (-1)] 2)) := (Below.refl _ _).alloc (Nat.le_refl _) _
        have P5 := l1Pick_list w.heap.size (t' + 1) v n f [(k : Int), 0, -1] w5.heap.size 3 (by omega) (by show 1 ≤ 3; omega) (by show 3 ≤ 100000; omega) _ (hs5.chgTrans hb5) (box_new _ _ _) (by omega)
        go_wp2_with fail
        refine P5.mono ?_
        rintro ee w6 ⟨y, hy, rfl, hs6, c6⟩
        have HY : Hid (-1 ≤ y ∧ y ≤ 100) := by
          show -1 ≤ y ∧ y ≤ 100
          simp only [List.mem_cons, List.not_mem_nil, or_false] at hy
          omega
        have c56 : Chg w.heap.size (w.heap.size + 1) w5 w6 := (Below.chg hb5 _ _).trans c6
        have HO6 : Hid (OwnI w6 w3.heap.size w6.heap.size (.slice ao11 m cap11) m (fun i => if i = m then y else h i)) := ((HO5.out.chg c56 (.inr (by omega))).mono c56.size).congr (fun i hi => by simp [show ¬ i = m by omega])
        have HC6 : Hid (Chg w.heap.size (w.heap.size + 1) w3 w6) := HC5.out.trans c56
        have s6 := HC6.out.size
        clear hy hb5 P5 c6 c56 hs5 HO5 HC5
        go_wp2_with (at_builtin; refine wp_appendI rfl (.tmp 51) (.tmp 56) rfl w3.heap.size w6.heap.size (.slice ao11 m cap11) m (fun i => if i = m then y else h i) ?_ ?_ w6.heap.size 1 ?_ ?_ (by omega) ?_ ?_; (simp [Act.eval]); exact HO6.out.alloc _; (simp [Act.eval]); (simp); (simp; omega); intro v9 w9 o9 b9)
        have b9' : Below w3.heap.size w6 w9 := ((Below.refl w3.heap.size w6).alloc (by omega) _).trans b9
        have hs9 := hs6.overC b9' (by omega)
        have HC9 : Hid (Chg w.heap.size (w.heap.size + 1) w3 w9) := Chg.then HC6.out b9'
        have s9 := HC9.out.size
        obtain ⟨ao9, cap9, rfl⟩ := o9.slice
        have HO9 : Hid (OwnI w9 w3.heap.size w9.heap.size (.slice ao9 (m + 1) cap9) (m + 1) (fun i => if i = m then y else h i)) := o9
        have R3 : Hid (∀ i, -1 ≤ (fun i => if i = m then y else h i) i ∧ (fun i => if i = m then y else h i) i ≤ 100) := fun i => by
          show -1 ≤ (if i = m then y else h i) ∧ (if i = m then y else h i) ≤ 100
          by_cases c : i = m
          · rw [if_pos c]; exact HY.out
          · rw [if_neg c]; exact HH.out i
        clear b9 b9' o9 hs6
        have l9 := hs9.1.lt
        have hb9 : Below w9.heap.size w9 (w9.alloc (.cells #[.int .i64 r, .int .i64 r, .int .i64 r, .int .i64 r, .int .i64 r, .int .i64 (-1), .int .i64 k] 2)) := (Below.refl _ _).alloc (Nat.le_refl _) _
        have P9 := l1Pick_list w.heap.size (t' + 1 + 1) v n f [(r : Int), r, r, r, r, -1, k] w9.heap.size 7 (by omega) (by show 1 ≤ 7; omega) (by show 7 ≤ 100000; omega) _ (hs9.chgTrans hb9) (box_new _ _ _) (by omega)
        go_wp2_with fail
        refine P9.mono ?_
        rintro ee w7 ⟨x, hx, rfl, hs7, c7⟩
        have HX : Hid (-1 ≤ x ∧ x ≤ 100) := by
          show -1 ≤ x ∧ x ≤ 100
          simp only [List.mem_cons, List.not_mem_nil, or_false] at hx
          omega
        have c97 : Chg w.heap.size (w.heap.size + 1) w9 w7 := (Below.chg hb9 _ _).trans c7
        have O7 := ((HO9.out.chg c97 (.inr (by omega))).mono c97.size).weaken (lo' := w.heap.size) (by omega) (Nat.le_refl _)
        have B7 : Below w.heap.size w w7 := HB1.out.trans (((HC23.out.trans HC9.out).trans c97).below (Nat.le_refl _) (by omega))
        clear hx hb9 P9 c7 c97 hs9 hs7 HO9
        go_wp2
        (try simp only [Exit.inBlock, Exit.then])
        refine bodyPost_ret (results_tmp4 rfl _ _ _) rfl ?_
        exact ⟨a, b, x, _, m + 1, _, rfl, O7, by omega, R3.out, HAB.out.1, HAB.out.2.1, HAB.out.2.2.1, HAB.out.2.2.2, HX.out.1, HX.out.2, B7⟩
end Go.Proofs.Ytoadjpacchhleaa
