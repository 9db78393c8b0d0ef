/- Walks of the draw of a row and of lwBytes. What is drawn is not told, only its bounds. -/
import Derived.Test.YtoadjpacchhleaaWDraw2
namespace Go.Proofs.Ytoadjpacchhleaa
open Go.RowKit F256
set_option linter.unusedVariables false
set_option linter.unusedSimpArgs false

theorem l1Pick_list (bs t : Nat) (v : Value) (n : Nat) (f : Nat → Nat) (l : List Int) (bl cap : Nat) (ht : t ≤ 1000000) (hl : 1 ≤ l.length) (hl2 : l.length ≤ 100000)
    (w : World) (h : Src w bs t v n f) (hb : Box w bl (l.map fun x => Value.int .i64 x).toArray 2) (hne : bl ≠ bs) :
    Calls Try.prog 44 #[.pointer (some ⟨bs, 0, none⟩), .slice (some ⟨bl, 0, none⟩) l.length cap] w fun e w' => ∃ x : Int, x ∈ l ∧ e = .returned (.int .i64 x) ∧ Src w' bs (t + 1) v n f ∧ Chg bs (bs + 1) w w' := by
  have e1 : (l.map fun x => Value.int .i64 x).toArray.size = l.length := by simp
  have C := l1Pick_any bs t v n f (l.map fun x => Value.int .i64 x).toArray (fun i => l.getD i 0) bl cap ht (by rw [e1]; exact hl) (by rw [e1]; exact hl2) (fun i hi => by
    rw [e1] at hi
    simp [List.getD, List.getElem?_eq_getElem hi]) w h hb hne
  rw [e1] at C
  refine C.mono fun e w' ⟨i, hi, he, hs, hc⟩ => ⟨l.getD i 0, ?_, he, hs, hc⟩
  simp [List.getD, List.getElem?_eq_getElem hi]

theorem l1Max_any (a b : Int) (w : World) : Calls Try.prog 75 #[.int .i64 a, .int .i64 b] w fun e w' => e = .returned (.int .i64 (if b < a then a else b)) ∧ w' = w := by
  by_cases h : b < a
  · rw [if_pos h]
    go_enter Try.func75, Try.ntmps75
    go_wp2
    go_ret
    exact ⟨rfl, rfl⟩
  · rw [if_neg h]
    have h1 : decide (b < a) = false := by simp; omega
    clear h
    go_enter Try.func75, Try.ntmps75
    go_wp2
    go_ret
    exact ⟨rfl, rfl⟩
theorem l1Min_any (a b : Int) (w : World) : Calls Try.prog 87 #[.int .i64 a, .int .i64 b] w fun e w' => e = .returned (.int .i64 (if a < b then a else b)) ∧ w' = w := by
  by_cases h : a < b
  · rw [if_pos h]
    go_enter Try.func87, Try.ntmps87
    go_wp2
    go_ret
    exact ⟨rfl, rfl⟩
  · rw [if_neg h]
    have h1 : decide (a < b) = false := by simp; omega
    clear h
    go_enter Try.func87, Try.ntmps87
    go_wp2
    go_ret
    exact ⟨rfl, rfl⟩

theorem l2Good_any (a b : Int) (w : World) : Calls Try.prog 51 #[.int .i64 a, .int .i64 b] w fun e w' => ∃ n m : Nat, 1 ≤ n ∧ n ≤ 3 ∧ m ≤ 2 ∧ e = .returned (.tuple #[.int .i64 n, .int .i64 m]) ∧ w' = w := by
  obtain ⟨x, hx⟩ : ∃ x, x = (if (3 : Int) < a then 3 else a) := ⟨_, rfl⟩
  obtain ⟨y, hy⟩ : ∃ y, y = (if (2 : Int) < b then 2 else b) := ⟨_, rfl⟩
  have M1 := l1Min_any 3 a w
  have M2 := l1Min_any 2 b w
  rw [← hx] at M1
  rw [← hy] at M2
  have N1 := l1Max_any 1 x w
  have N2 := l1Max_any 0 y w
  obtain ⟨n, hn⟩ : ∃ n : Nat, (if x < 1 then (1 : Int) else x) = (n : Int) := ⟨(if x < 1 then (1 : Int) else x).toNat, by split <;> omega⟩
  obtain ⟨m, hm⟩ : ∃ m : Nat, (if y < 0 then (0 : Int) else y) = (m : Int) := ⟨(if y < 0 then (0 : Int) else y).toNat, by split <;> omega⟩
  rw [hn] at N1
  rw [hm] at N2
  have q1 : 1 ≤ n ∧ n ≤ 3 := by
    have : x ≤ 3 := by rw [hx]; split <;> omega
    split at hn <;> omega
  have q2 : m ≤ 2 := by
    have : y ≤ 2 := by rw [hy]; split <;> omega
    split at hm <;> omega
  have Q : Hid (1 ≤ n ∧ n ≤ 3 ∧ m ≤ 2) := ⟨q1.1, q1.2, q2⟩
  clear hx hy hn hm q1 q2
  go_enter Try.func51, Try.ntmps51
  go_wp2_with fail
  refine M1.mono ?_
  rintro e w1 ⟨rfl, hw⟩
  obtain rfl := hw.symm
  go_wp2_with fail
  refine N1.mono ?_
  rintro e w1 ⟨rfl, hw⟩
  obtain rfl := hw.symm
  go_wp2_with fail
  refine M2.mono ?_
  rintro e w1 ⟨rfl, hw⟩
  obtain rfl := hw.symm
  go_wp2_with fail
  refine N2.mono ?_
  rintro e w1 ⟨rfl, hw⟩
  obtain rfl := hw.symm
  clear M1 M2 N1 N2
  go_wp2
  go_ret2
  exact ⟨n, m, Q.out.1, Q.out.2.1, Q.out.2.2, rfl, rfl⟩

set_option maxHeartbeats 2000000 in
theorem l2Sides_any (bs t : Nat) (v : Value) (n : Nat) (f : Nat → Nat) (ht : t ≤ 900000) (w : World) (h : Src w bs t v n f) :
    Calls Try.prog 50 #[.pointer (some ⟨bs, 0, none⟩)] w fun e w' => ∃ a b : Int, -1 ≤ a ∧ a ≤ 4 ∧ -1 ≤ b ∧ b ≤ 3 ∧ e = .returned (.tuple #[.int .i64 a, .int .i64 b]) ∧ Src w' bs (t + 3) v n f ∧ Chg bs (bs + 1) w w' := by
  go_enter Try.func50, Try.ntmps50
  go_wp2_with fail
  refine (l1Chance_any bs t v n f 24 (by omega) (by omega) (by omega) _ h).mono ?_
  rintro e w1 ⟨b1, rfl, h1, c1⟩
  clear h
  have l1 := h1.1.lt
  cases b1 with
  | false =>
    go_wp2_with fail
    refine (l1Next_any bs (t + 1) v n f 3 (by omega) (by omega) (by omega) _ h1).mono ?_
    rintro e w2 ⟨r2, hr2, rfl, h2, c2⟩
    go_wp2_with fail
    refine (l1Next_any bs (t + 2) v n f 3 (by omega) (by omega) (by omega) _ h2).mono ?_
    rintro e w3 ⟨r3, hr3, rfl, h3, c3⟩
    have C := (c1.trans c2).trans c3
    clear h1 h2 c1 c2 c3
    go_wp2
    go_ret2
    exact ⟨_, _, by omega, by omega, by omega, by omega, rfl, h3, C⟩
  | true =>
    have hb1 : Below w1.heap.size w1 (w1.alloc (.cells #[.int .i64 0, .int .i64 4, .int .i64 3, .int .i64 (-1)] 2)) := (Below.refl _ _).alloc (Nat.le_refl _) _
    have P1 := l1Pick_list bs (t + 1) v n f [0, 4, 3, -1] w1.heap.size 4 (by omega) (by show 1 ≤ 4; omega) (by show 4 ≤ 100000; omega) _ (h1.chgTrans hb1) (box_new _ _ _) (by omega)
    go_wp2_with fail
    refine P1.mono ?_
    rintro e w2 ⟨a, ha, rfl, h2, c2⟩
    have l2 := h2.1.lt
    have hb2 : Below w2.heap.size w2 (w2.alloc (.cells #[.int .i64 0, .int .i64 3, .int .i64 2, .int .i64 (-1)] 2)) := (Below.refl _ _).alloc (Nat.le_refl _) _
    have P2 := l1Pick_list bs (t + 2) v n f [0, 3, 2, -1] w2.heap.size 4 (by omega) (by show 1 ≤ 4; omega) (by show 4 ≤ 100000; omega) _ (h2.chgTrans hb2) (box_new _ _ _) (by omega)
    clear P1
    have HA : Hid (-1 ≤ a ∧ a ≤ 4) := by
      show -1 ≤ a ∧ a ≤ 4
      simp only [List.mem_cons, List.not_mem_nil, or_false] at ha
      omega
    clear ha
    go_wp2_with fail
    refine P2.mono ?_
    rintro e w3 ⟨b, hb, rfl, h3, c3⟩
    have HB : Hid (-1 ≤ b ∧ b ≤ 3) := by
      show -1 ≤ b ∧ b ≤ 3
      simp only [List.mem_cons, List.not_mem_nil, or_false] at hb
      omega
    have C := ((c1.trans (Below.chg hb1 bs (bs + 1))).trans c2).trans ((Below.chg hb2 bs (bs + 1)).trans c3)
    clear hb hb1 hb2 h1 h2 c1 c2 c3 P2
    go_wp2
    go_ret2
    exact ⟨a, b, HA.out.1, HA.out.2, HB.out.1, HB.out.2, rfl, h3, C⟩

set_option maxHeartbeats 2000000 in
theorem drawRow_any (v : Value) (n : Nat) (f : Nat → Nat) (w : World) (h : Rd w w.heap.size v n f) (kf : ∀ i, f i < 256) (hn : n ≤ 1048576) :
    Calls Try.prog 19 #[v] w fun e w' => ∃ a b : Int, ∃ v' N g, -1 ≤ a ∧ a ≤ 4 ∧ -1 ≤ b ∧ b ≤ 3 ∧ e = .returned (.tuple #[.int .i64 a, .int .i64 b, v']) ∧ Own w' w.heap.size w'.heap.size v' N g ∧ (∀ i, g i < 256) ∧ N ≤ 13 ∧ Below w.heap.size w w' := by
  go_enter Try.func19, Try.ntmps19
  go_wp2_with fail
  refine (l1Source_any v n f _ h kf hn).mono ?_
  rintro e w1 ⟨rfl, h1, b1⟩
  have s1 := h1.1.lt
  go_wp2_with fail
  refine (l2Sides_any w.heap.size 0 v n f (by omega) _ h1).mono ?_
  rintro e w2 ⟨a, b, ha1, ha2, hb1, hb2, rfl, h2, c2⟩
  have s2 := c2.size
  have HAB : Hid (-1 ≤ a ∧ a ≤ 4 ∧ -1 ≤ b ∧ b ≤ 3) := ⟨ha1, ha2, hb1, hb2⟩
  clear ha1 ha2 hb1 hb2 h1
  go_wp2_with fail
  refine (l2Good_any a b _).mono ?_
  rintro e w2' ⟨D, S, hD1, hD2, hS, rfl, hw⟩
  obtain rfl := hw.symm
  have hb : Below w2.heap.size w2 (w2.alloc (.cells #[.int .i64 0, .int .i64 0, .int .i64 0, .int .i64 0, .int .i64 0, .int .i64 0, .int .i64 0, .int .i64 1] 2)) := (Below.refl _ _).alloc (Nat.le_refl _) _
  have l2 := h2.1.lt
  have C := l1Pick_list w.heap.size 3 v n f [0, 0, 0, 0, 0, 0, 0, 1] w2.heap.size 8 (by omega) (by show 1 ≤ 8; omega) (by show 8 ≤ 100000; omega) _ (h2.chgTrans hb) (box_new _ _ _) (by omega)
  go_wp2_with fail
  refine C.mono ?_
  rintro e w3 ⟨x, hx, rfl, h3, c3⟩
  obtain ⟨p, hp, rfl⟩ : ∃ p : Nat, p ≤ 1 ∧ x = (p : Int) := by
    simp only [List.mem_cons, List.not_mem_nil, or_false] at hx
    exact ⟨x.toNat, by omega, by omega⟩
  have c3' : Chg w.heap.size (w.heap.size + 1) w2 w3 := (Below.chg hb _ _).trans c3
  have s3 := c3'.size
  have E := l1Some_any w.heap.size 4 v n f (D * 4 + p) (by omega) (by omega) w3 h3
  have eRp : ((D * 4 + p : Nat) : Int) = (D : Int) * 4 + (p : Int) := by simp
  rw [eRp] at E
  clear hx c3 h2 h3 hb C eRp
  go_wp2_with fail
  refine E.mono ?_
  rintro e w4 ⟨vc, cc, rfl, oc, kcc, h4, c4⟩
  have s4 := c4.size
  have HC : Hid (Own w4 w3.heap.size w4.heap.size vc (D * 4 + p) cc) := oc
  have HK : Hid (∀ i, cc i < 256) := kcc
  have B : Below w.heap.size w w4 := b1.trans (((c2.trans c3').trans c4).below (Nat.le_refl _) (by omega))
  obtain ⟨aoc, capc, rfl⟩ := oc.slice
  have HN : Hid (D * 4 + p ≤ 13) := by show D * 4 + p ≤ 13; omega
  clear oc kcc E c4 c3' c2 b1 h4
  go_wp2
  go_ret3
  exact ⟨a, b, _, _, cc, HAB.out.1, HAB.out.2.1, HAB.out.2.2.1, HAB.out.2.2.2, rfl, HC.out.weaken (by omega) (Nat.le_refl _), HK.out, HN.out, B⟩

set_option maxHeartbeats 400000 in
theorem lwBytes_same (v1 v2 : Value) (n : Nat) (f : Nat → Nat) (h1 h2 : Nat) (w : World) (r1 : Rd w h1 v1 n f) (r2 : Rd w h2 v2 n f) :
    Calls Try.prog 24 #[v1, v2] w fun e w' => e = .returned (.bool true) ∧ Below w.heap.size w w' := by
  obtain ⟨ao, cap, rfl, hm, hc⟩ := r1
  obtain ⟨ao2, cap2, rfl, _, hc2⟩ := r2
  unfold maxLen at hm
  go_enter Try.func24, Try.ntmps24
  go_wp2
  go_loopw [5] (fun i wr => ∃ k : Nat, k ≤ n ∧ i = .int .i64 k ∧ ∃ m, wr = w.drewN m) (fun i _ => n - (intOf i).toNat)
  case atStart => exact ⟨0, Nat.zero_le _, rfl, 0, rfl⟩
  case round =>
    obtain ⟨k, hk, rfl, m, rfl⟩ := hrel
    by_cases hlt : k < n
    · obtain ⟨b, off, rfl, hblt, hcell⟩ := hc (by omega)
      obtain ⟨b2, off2, rfl, hblt2, hcell2⟩ := hc2 (by omega)
      have hck : w.cell? ⟨b, off + k, none⟩ = some (.int .u8 (f k)) := hcell k hlt
      have hck2 : w.cell? ⟨b2, off2 + k, none⟩ = some (.int .u8 (f k)) := hcell2 k hlt
      clear hc hc2 hcell hcell2
      go_wp2
      go_quiet (fail)
      go_wp2
      go_roundw
      case rel => exact ⟨k + 1, by omega, by go_num, _, rfl⟩
      case measure => simp [intOf]; omega
    · have hkn : k = n := by omega
      subst hkn
      go_wp2
      go_ret
      exact ⟨rfl, below_drewN (Below.refl _ _) _⟩
end Go.Proofs.Ytoadjpacchhleaa
