/- For all two lists of things the program's SameThings answers as the specification's does and writes into nothing that it is handed: the law FnExactSameThings returns true at every input, and changes nothing that was there. No condition. -/
import Derived.Test.YtapnjoophlckoaaZFnExactSameThingsA
import Derived.BigQuiet
import Derived.Deep.QuietTactic
import Derived.Test.YtapnjoophlckoaaRows
import Derived.Deep.DeepCutAuto
namespace Go.Proofs.Ytapnjoophlckoaa
open Go.RowKit F256
set_option linter.unusedVariables false
set_option linter.unusedSimpArgs false
set_option maxHeartbeats 8000000 in
set_option maxRecDepth 20000 in
theorem same1_any (a b : ThingD) (c1 c2 : List Value) (h1 h2 : Nat) (w : World) (r1 : layThing.rd w h1 a c1) (r2 : layThing.rd w h2 b c2) (u1 : h1 ≤ w.heap.size) (u2 : h2 ≤ w.heap.size) :
    Calls Try.prog 36 #[.agg c1.toArray, .agg c2.toArray] w (BoolP (SameT a b) w) := by
  obtain ⟨xo, xc, rfl, p2, -⟩ := Thing_rd r1
  obtain ⟨yo, yc, rfl, q2, -⟩ := Thing_rd r2
  obtain ⟨_, e, p2, _⟩ := p2
  cases e
  obtain ⟨_, e, q2, _⟩ := q2
  cases e
  clear r1 r2
  have T0 := two_newb w #[.string a.name, .bool a.lost, .slice xo a.bytes.1 xc] #[.string b.name, .bool b.lost, .slice yo b.bytes.1 yc] 40 40
  have HT0 : Hid (Two w ((w.alloc (.cells #[.string a.name, .bool a.lost, .slice xo a.bytes.1 xc] 40)).alloc (.cells #[.string b.name, .bool b.lost, .slice yo b.bytes.1 yc] 40)) #[.string a.name, .bool a.lost, .slice xo a.bytes.1 xc] #[.string b.name, .bool b.lost, .slice yo b.bytes.1 yc] 40 40) := T0
  obtain ⟨e2, he2⟩ : ∃ t, (a.name.toList == b.name.toList) = t := ⟨_, rfl⟩
  have HE2 : Hid (e2 = true ↔ a.name = b.name) := by show _ ↔ _; rw [← he2, beq_iff_eq]; exact toList_inj
  have he2' : decide (a.name.toList = b.name.toList) = e2 := by rw [← he2, Bool.eq_iff_iff]; simp
  obtain ⟨e1, he1⟩ : ∃ t, (a.lost == b.lost) = t := ⟨_, rfl⟩
  have HE1 : Hid (e1 = true ↔ a.lost = b.lost) := by show _ ↔ _; rw [← he1]; exact beq_iff_eq
  obtain ⟨t7, ht7⟩ := exB (SameP a.bytes.1 b.bytes.1 a.bytes.2 b.bytes.2)
  have C7 := fun (w' : World) (hb : Below w.heap.size w w') => det_b (equalB_any _ _ a.bytes.1 b.bytes.1 a.bytes.2 b.bytes.2 h1 h2 w' (p2.below hb u1) (q2.below hb u2)) ht7
  have HT7 : Hid (t7 = true ↔ SameP a.bytes.1 b.bytes.1 a.bytes.2 b.bytes.2) := ht7
  clear p2 q2 ht7 T0
  go_enter Try.func36, Try.ntmps36
  cases e2 with
  | false =>
    go_wp2
    go_ret
    exact boolNo rfl (fun h => by have := HE2.out.2 h.name; simp at this) HT0.out.bel
  | true =>
  cases e1 with
  | false =>
    go_wp2
    go_ret
    exact boolNo rfl (fun h => by have := HE1.out.2 h.lost; simp at this) HT0.out.bel
  | true =>
  go_wp2_with fail
  refine (C7 _ HT0.out.bel).mono ?_
  rintro e w7 ⟨rfl, b7⟩
  have HB : Hid (Below w.heap.size w w7) := (HT0.out.call b7).bel
  clear b7
  go_wp2
  go_ret
  exact ⟨t7, rfl, ⟨fun h => ⟨HE2.out.1 (by simp), HE1.out.1 (by simp), HT7.out.1 h⟩, fun h => HT7.out.2 h.bytes⟩, HB.out⟩
set_option maxHeartbeats 8000000 in
set_option maxRecDepth 20000 in
theorem equalFunc_any (p q : Nat × (Nat → ThingD)) (v1 v2 : Value) (h1 h2 : Nat) (w : World) (r1 : (layThing.slice 40).rd w h1 p [v1]) (r2 : (layThing.slice 40).rd w h2 q [v2]) (u1 : h1 ≤ w.heap.size) (u2 : h2 ≤ w.heap.size) :
    Calls Try.prog 35 #[v1, v2, .func (.func 36) #[] #[]] w (BoolP (SameTs p q) w) := by
  obtain ⟨n, x⟩ := p
  obtain ⟨m, y⟩ := q
  obtain ⟨ao, cap, hv, hm, hc⟩ := r1
  cases hv
  obtain ⟨ao', cap', hv', hm', hc'⟩ := r2
  cases hv'
  simp only at hm hc hm' hc'
  unfold maxLen at hm hm'
  have HC : Hid (n ≠ 0 → ∃ b off, ao = some ⟨b, off, none⟩ ∧ b < h1 ∧ ∀ i, i < n → ∃ ce, layThing.rd w h1 (x i) ce ∧ ∀ j, j < layThing.sz → w.cell? ⟨b, off + (i * layThing.sz + j), none⟩ = ce[j]?) := hc
  have HC' : Hid (m ≠ 0 → ∃ b off, ao' = some ⟨b, off, none⟩ ∧ b < h2 ∧ ∀ i, i < m → ∃ ce, layThing.rd w h2 (y i) ce ∧ ∀ j, j < layThing.sz → w.cell? ⟨b, off + (i * layThing.sz + j), none⟩ = ce[j]?) := hc'
  clear hc hc'
  go_enter Try.func35, Try.ntmps35
  by_cases hnm : ¬ n = m
  · have hne : decide ((n : Int) = (m : Int)) = false := decide_eq_false (by omega)
    have hne2 : ((n : Int) != (m : Int)) = true := by simp; omega
    have HN : Hid (¬ n = m) := hnm
    clear hnm
    go_wp2
    go_ret
    exact boolNo rfl (fun h => HN.out h.len) (Below.refl _ _)
  obtain rfl : n = m := Classical.not_not.1 hnm
  clear hnm
  go_wp2
  go_loopw [17] (fun z wr => ∃ k : Nat, k ≤ n ∧ z = .int .i64 k ∧ (∀ t, t < k → SameT (x t) (y t)) ∧ Below w.heap.size w wr) (fun z _ => n - (intOf z).toNat)
  case atStart => exact ⟨0, Nat.zero_le _, rfl, fun t ht => by omega, Below.refl _ _⟩
  case round =>
    obtain ⟨k, hk, rfl, hall, hbl⟩ := hrel
    obtain ⟨wx, rfl⟩ : ∃ y, y = wr := ⟨_, rfl⟩
    have HALL : Hid (∀ t, t < k → SameT (x t) (y t)) := hall
    have HBL : Hid (Below w.heap.size w wx) := hbl
    have zx := hbl.size
    clear hall
    by_cases hlt : k < n
    · obtain ⟨b, off, rfl, hblt, hel⟩ := HC.out (by omega)
      obtain ⟨b', off', rfl, hblt', hel'⟩ := HC'.out (by omega)
      obtain ⟨ck, hrk, hcell⟩ := elem_rd (t := 0) hel hbl u1 hblt hlt
      obtain ⟨ck', hrk', hcell'⟩ := elem_rd (t := 0) hel' hbl u2 hblt' hlt
      obtain ⟨ao2, cap2, rfl, -⟩ := Thing_rd hrk
      obtain ⟨bo2, bcap2, rfl, -⟩ := Thing_rd hrk'
      have c0 : wx.cell? ⟨b, off + k * 3, none⟩ = some (.string (x k).name) := hcell 0 (by decide)
      have c1 : wx.cell? ⟨b, off + k * 3 + 1, none⟩ = some (.bool (x k).lost) := hcell 1 (by decide)
      have c2 : wx.cell? ⟨b, off + k * 3 + 2, none⟩ = some (.slice ao2 (x k).bytes.1 cap2) := hcell 2 (by decide)
      have e0 : wx.cell? ⟨b', off' + k * 3, none⟩ = some (.string (y k).name) := hcell' 0 (by decide)
      have e1 : wx.cell? ⟨b', off' + k * 3 + 1, none⟩ = some (.bool (y k).lost) := hcell' 1 (by decide)
      have e2 : wx.cell? ⟨b', off' + k * 3 + 2, none⟩ = some (.slice bo2 (y k).bytes.1 bcap2) := hcell' 2 (by decide)
      have hb1 : b < wx.heap.size := by omega
      have hb2 : b' < wx.heap.size := by omega
      obtain ⟨t, ht⟩ := exB (SameT (x k) (y k))
      have CS := fun (w' : World) (hb : Below wx.heap.size wx w') => det_b (same1_any (x k) (y k) _ _ h1 h2 w' (layThing.rd_below hrk hb (by omega)) (layThing.rd_below hrk' hb (by omega)) (Nat.le_trans (by omega) hb.size) (Nat.le_trans (by omega) hb.size)) ht
      have HT : Hid (t = true ↔ SameT (x k) (y k)) := ht
      clear hbl hel hel' hcell hcell' hrk hrk' ht
      have i1 : (0 : Int) ≤ (k : Int) := by omega
      have i2 : (k : Int) < (n : Int) := by omega
      go_wp2_with fail
      refine (CS _ (((Below.refl _ _).alloc (Nat.le_refl _) _).alloc (by simp) _)).mono ?_
      rintro e w5 ⟨rfl, b5⟩
      have HB5 : Hid (Below w.heap.size w w5) := HBL.out.trans ((((Below.refl wx.heap.size wx).alloc (Nat.le_refl _) _).alloc (by simp) _ |>.trans (b5.mono (by simp; omega))).mono zx)
      clear b5 CS c0 c1 c2 e0 e1 e2
      cases t with
      | false =>
        go_wp2
        go_ret
        exact boolNo rfl (fun h => by have := HT.out.2 (h.each k hlt); simp at this) HB5.out
      | true =>
        go_wp2
        go_roundw
        case rel => exact ⟨k + 1, by omega, by go_num, fun t ht => by
                      by_cases c : t = k
                      · rw [c]; exact HT.out.1 (by simp)
                      · exact HALL.out t (by omega), HB5.out⟩
        case measure => simp [intOf]; omega
    · obtain rfl : k = n := by omega
      clear hbl
      go_wp2
      go_ret
      exact boolYes rfl ⟨rfl, HALL.out⟩ HBL.out
set_option maxHeartbeats 8000000 in
set_option maxRecDepth 20000 in
theorem implSameTs_any (p q : Nat × (Nat → ThingD)) (v1 v2 : Value) (h1 h2 : Nat) (w : World) (r1 : (layThing.slice 40).rd w h1 p [v1]) (r2 : (layThing.slice 40).rd w h2 q [v2]) (u1 : h1 ≤ w.heap.size) (u2 : h2 ≤ w.heap.size) :
    Calls Try.prog 19 #[v1, v2] w (BoolP (SameTs p q) w) := by
  have CE := equalFunc_any p q v1 v2 h1 h2 w r1 r2 u1 u2
  obtain ⟨P, hP⟩ : ∃ P, P = SameTs p q := ⟨_, rfl⟩
  rw [← hP] at CE ⊢
  obtain ⟨n, x⟩ := p
  obtain ⟨m, y⟩ := q
  obtain ⟨ao, cap, hv, -⟩ := r1
  cases hv
  obtain ⟨ao', cap', hv', -⟩ := r2
  cases hv'
  clear hP
  go_enter Try.func19, Try.ntmps19
  go_wp2_with fail
  refine CE.mono ?_
  rintro e w1 ⟨t, rfl, ht, b1⟩
  have HT : Hid (t = true ↔ P) := ht
  clear ht
  go_wp2
  go_ret
  exact ⟨t, rfl, HT.out, b1⟩
set_option maxHeartbeats 8000000 in
set_option maxRecDepth 20000 in
theorem specSameTs_any (p q : Nat × (Nat → ThingD)) (v1 v2 : Value) (h1 h2 : Nat) (w : World) (r1 : (layThing.slice 40).rd w h1 p [v1]) (r2 : (layThing.slice 40).rd w h2 q [v2]) (u1 : h1 ≤ w.heap.size) (u2 : h2 ≤ w.heap.size) :
    Calls Try.prog 18 #[v1, v2] w (BoolP (SameTs p q) w) := by
  obtain ⟨n, x⟩ := p
  obtain ⟨m, y⟩ := q
  obtain ⟨ao, cap, hv, hm, hc⟩ := r1
  cases hv
  obtain ⟨ao', cap', hv', hm', hc'⟩ := r2
  cases hv'
  simp only at hm hc hm' hc'
  unfold maxLen at hm hm'
  have HC : Hid (n ≠ 0 → ∃ b off, ao = some ⟨b, off, none⟩ ∧ b < h1 ∧ ∀ i, i < n → ∃ ce, layThing.rd w h1 (x i) ce ∧ ∀ j, j < layThing.sz → w.cell? ⟨b, off + (i * layThing.sz + j), none⟩ = ce[j]?) := hc
  have HC' : Hid (m ≠ 0 → ∃ b off, ao' = some ⟨b, off, none⟩ ∧ b < h2 ∧ ∀ i, i < m → ∃ ce, layThing.rd w h2 (y i) ce ∧ ∀ j, j < layThing.sz → w.cell? ⟨b, off + (i * layThing.sz + j), none⟩ = ce[j]?) := hc'
  clear hc hc'
  go_enter Try.func18, Try.ntmps18
  by_cases hnm : ¬ n = m
  · have hne : decide ((n : Int) = (m : Int)) = false := decide_eq_false (by omega)
    have hne2 : ((n : Int) != (m : Int)) = true := by simp; omega
    have HN : Hid (¬ n = m) := hnm
    clear hnm
    go_wp2
    go_ret
    exact boolNo rfl (fun h => HN.out h.len) (Below.refl _ _)
  obtain rfl : n = m := Classical.not_not.1 hnm
  clear hnm
  go_wp2
  go_loopw [5] (fun z wr => ∃ k : Nat, k ≤ n ∧ z = .int .i64 k ∧ (∀ t, t < k → SameT (x t) (y t)) ∧ Below w.heap.size w wr) (fun z _ => n - (intOf z).toNat)
  case atStart => exact ⟨0, Nat.zero_le _, rfl, fun t ht => by omega, Below.refl _ _⟩
  case round =>
    obtain ⟨k, hk, rfl, hall, hbl⟩ := hrel
    obtain ⟨wx, rfl⟩ : ∃ y, y = wr := ⟨_, rfl⟩
    have HALL : Hid (∀ t, t < k → SameT (x t) (y t)) := hall
    have HBL : Hid (Below w.heap.size w wx) := hbl
    have zx := hbl.size
    clear hall
    by_cases hlt : k < n
    · obtain ⟨b, off, rfl, hblt, hel⟩ := HC.out (by omega)
      obtain ⟨b', off', rfl, hblt', hel'⟩ := HC'.out (by omega)
      obtain ⟨ck, hrk, hcell⟩ := elem_rd (t := 0) hel hbl u1 hblt hlt
      obtain ⟨ck', hrk', hcell'⟩ := elem_rd (t := 0) hel' hbl u2 hblt' hlt
      obtain ⟨ao2, cap2, rfl, p2, -⟩ := Thing_rd hrk
      obtain ⟨bo2, bcap2, rfl, q2, -⟩ := Thing_rd hrk'
      obtain ⟨_, e, p2, _⟩ := p2
      cases e
      obtain ⟨_, e, q2, _⟩ := q2
      cases e
      have c0 : wx.cell? ⟨b, off + k * 3, none⟩ = some (.string (x k).name) := hcell 0 (by decide)
      have c1 : wx.cell? ⟨b, off + k * 3 + 1, none⟩ = some (.bool (x k).lost) := hcell 1 (by decide)
      have c2 : wx.cell? ⟨b, off + k * 3 + 2, none⟩ = some (.slice ao2 (x k).bytes.1 cap2) := hcell 2 (by decide)
      have e0 : wx.cell? ⟨b', off' + k * 3, none⟩ = some (.string (y k).name) := hcell' 0 (by decide)
      have e1 : wx.cell? ⟨b', off' + k * 3 + 1, none⟩ = some (.bool (y k).lost) := hcell' 1 (by decide)
      have e2 : wx.cell? ⟨b', off' + k * 3 + 2, none⟩ = some (.slice bo2 (y k).bytes.1 bcap2) := hcell' 2 (by decide)
      obtain ⟨t, ht⟩ := exB (SameP (x k).bytes.1 (y k).bytes.1 (x k).bytes.2 (y k).bytes.2)
      have C7 := q_below (W := wx) (fun (w' : World) (hb : Below wx.heap.size wx w') => det_b (l2Same_any _ _ (x k).bytes.1 (y k).bytes.1 (x k).bytes.2 (y k).bytes.2 h1 h2 w' (p2.below hb (by omega)) (q2.below hb (by omega))) ht)
      have HT : Hid (t = true ↔ SameP (x k).bytes.1 (y k).bytes.1 (x k).bytes.2 (y k).bytes.2) := ht
      obtain ⟨na, hna⟩ : ∃ z, z = (x k).name := ⟨_, rfl⟩
      obtain ⟨nb, hnb⟩ : ∃ z, z = (y k).name := ⟨_, rfl⟩
      obtain ⟨la, hla⟩ : ∃ z, z = (x k).lost := ⟨_, rfl⟩
      obtain ⟨lb, hlb⟩ : ∃ z, z = (y k).lost := ⟨_, rfl⟩
      have HX : Hid (SameT (x k) (y k) ↔ na = nb ∧ la = lb ∧ t = true) := by
        show _ ↔ _
        rw [hna, hnb, hla, hlb, ht]
        exact ⟨fun h => ⟨h.name, h.lost, h.bytes⟩, fun h => ⟨h.1, h.2.1, h.2.2⟩⟩
      rw [← hna] at c0
      rw [← hla] at c1
      rw [← hnb] at e0
      rw [← hlb] at e1
      clear hbl hel hel' hcell hcell' hrk hrk' ht p2 q2 hna hnb hla hlb
      have i1 : (0 : Int) ≤ (k : Int) := by omega
      have i2 : (k : Int) < (n : Int) := by omega
      have cf0 := cell_regrown c0
      have cf1 := cell_regrown c1
      have cf2 := cell_regrown c2
      have ef0 := cell_regrown e0
      have ef1 := cell_regrown e1
      have ef2 := cell_regrown e2
      have close : ∀ (w7 : World) , (∃ p : Regrown, w7 = Go.Sort.grow (redrawn wx p.d) p.os) → Below w.heap.size w w7 := fun w7 h => HBL.out.trans ((below_rg h).mono zx)
      obtain ⟨en, hen⟩ : ∃ t, (na.toList == nb.toList) = t := ⟨_, rfl⟩
      have HEN : Hid (en = true ↔ na = nb) := by show _ ↔ _; rw [← hen, beq_iff_eq]; exact toList_inj
      have hen' : decide (na.toList = nb.toList) = en := by rw [← hen, Bool.eq_iff_iff]; simp
      have hen2 : (na.toList != nb.toList) = !en := by rw [← hen]; rfl
      go_upto_region 6 with fail
      go_cut [54] (fun v wz => Below w.heap.size w wz ∧ ∃ tt : Bool, v = .bool tt ∧ (tt = false ↔ SameT (x k) (y k)))
      case first =>
        cases en with
        | false =>
          refine WQ.region (by kernel_rfl) (by kernel_rfl) ?_
          repeat (first | (apply WQ.skip; (case hw => rfl); intro K hK; go_simp; apply hK; clear hK K) | (apply WQ.want; (case hw => rfl); intro K hK; go_simp; first | (apply hK; clear hK K) | (apply Exists.intro; apply And.intro; (case left => intro p; (first | (go_at_call 34; exact C7 _ _))); apply hK; clear hK K)))
          refine WQ.nil ?_
          intro w7 h7
          have H7 : Hid (Below w.heap.size w w7) := close _ h7
          have HS : Hid (true = false ↔ SameT (x k) (y k)) := by show _ ↔ _; rw [HX.out]; simp; intro h; exact absurd (HEN.out.2 h) (by simp)
          clear h7
          go_wp2
          go_meet
          exact ⟨H7.out, _, rfl, HS.out⟩
        | true =>
        cases la <;> cases lb
        all_goals
          refine WQ.region (by kernel_rfl) (by kernel_rfl) ?_
          repeat (first | (apply WQ.skip; (case hw => rfl); intro K hK; go_simp; apply hK; clear hK K) | (apply WQ.want; (case hw => rfl); intro K hK; go_simp; first | (apply hK; clear hK K) | (apply Exists.intro; apply And.intro; (case left => intro p; (first | (go_at_call 34; exact C7 _ _))); apply hK; clear hK K)))
          refine WQ.nil ?_
          intro w7 h7
          have H7 : Hid (Below w.heap.size w w7) := close _ h7
          have HN : Hid (na = nb) := HEN.out.1 rfl
          clear h7
          go_wp2
          go_meet
          exact ⟨H7.out, _, rfl, by rw [HX.out]; simp [HN.out]⟩
      case rest =>
        obtain ⟨hbc, tt, rfl, htt⟩ := hcut
        have HTT : Hid (tt = false ↔ SameT (x k) (y k)) := htt
        have HBC : Hid (Below w.heap.size w wc) := hbc
        clear htt hbc
        cases tt with
        | true =>
          go_wp2
          go_ret
          exact boolNo rfl (fun h => by have := HTT.out.2 (h.each k hlt); simp at this) HBC.out
        | false =>
          go_wp2
          go_roundw
          case rel => exact ⟨k + 1, by omega, by go_num, fun t ht => by
                        by_cases c : t = k
                        · rw [c]; exact HTT.out.1 rfl
                        · exact HALL.out t (by omega), HBC.out⟩
          case measure => simp [intOf]; omega
    · obtain rfl : k = n := by omega
      clear hbl
      go_wp2
      go_ret
      exact boolYes rfl ⟨rfl, HALL.out⟩ HBL.out
end Go.Proofs.Ytapnjoophlckoaa

namespace Go.Proofs.Ytapnjoophlckoaa
open Go.ChangeShapes Go.WideShapes Go.ChangeAt Go.RowKit F256
set_option linter.unusedVariables false
set_option linter.unusedSimpArgs false
set_option maxHeartbeats 16000000 in
set_option maxRecDepth 20000 in
theorem fnExactSameThings_walk (p : Nat × (Nat → ThingD)) (v : Value) (q : Nat × (Nat → ThingD)) (u : Value) (w : World) (r0 : (layThing.slice 40).rd w w.heap.size p [v]) (r1 : (layThing.slice 40).rd w w.heap.size q [u]) :
    Calls Try.prog 5 #[v, u] w fun e w' => e = .returned (.bool true) ∧ Below w.heap.size w w' := by
  obtain ⟨ao, cap, hv⟩ := sl_form r0
  obtain rfl := one_eq hv
  obtain ⟨ao', cap', hv'⟩ := sl_form r1
  obtain rfl := one_eq hv'
  have R0 : Hid ((layThing.slice 40).rd w w.heap.size p [.slice ao p.1 cap]) := r0
  have R1 : Hid ((layThing.slice 40).rd w w.heap.size q [.slice ao' q.1 cap']) := r1
  obtain ⟨bb, hq⟩ := exB (SameTs p q)
  have HQ : Hid (bb = true ↔ SameTs p q) := hq
  have CS := fun v1 v2 h1 h2 w' r1 r2 u1 u2 => det_b (specSameTs_any p q v1 v2 h1 h2 w' r1 r2 u1 u2) hq
  have CI := fun v1 v2 h1 h2 w' r1 r2 u1 u2 => det_b (implSameTs_any p q v1 v2 h1 h2 w' r1 r2 u1 u2) hq
  clear r0 r1 hv hv' hq
  go_enter Try.func5, Try.ntmps5
  go_wp2_with fail
  refine (szThingS_is _ p w.heap.size 1048576 _ R0.out (Nat.le_refl _) (by omega)).mono ?_
  rintro e w1 ⟨x, rfl, hx, b1⟩
  have HB : Hid (Below w.heap.size w w1) := b1
  have z1 : w.heap.size ≤ w1.heap.size := b1.size
  clear b1
  rcases hx with rfl | ⟨hsz, hx⟩
  · go_wp2
    go_ret
    exact ⟨rfl, HB.out⟩
  obtain ⟨X, hX⟩ : ∃ X : Nat, X = 1048576 - szSl szThingD p := ⟨_, rfl⟩
  obtain rfl : x = (X : Int) := by omega
  have hX1 : X ≤ 1048576 := by omega
  have hx0 : ¬ (X : Int) < 0 := by omega
  clear hx hX
  go_wp2_with fail
  refine (szThingS_is _ q w.heap.size X _ ((layThing.slice 40).rd_below R1.out HB.out (Nat.le_refl _)) HB.out.size hX1).mono ?_
  rintro e w2 ⟨x, rfl, hx, b2⟩
  have HB' : Hid (Below w.heap.size w w2) := HB.out.trans (b2.mono HB.out.size)
  clear HB
  have HB := HB'
  clear HB'
  have z2 : w1.heap.size ≤ w2.heap.size := b2.size
  clear b2
  rcases hx with rfl | ⟨hsz2, hx⟩
  · go_wp2
    go_ret
    exact ⟨rfl, HB.out⟩
  have hx2 : ¬ x < 0 := by omega
  have hsz3 : szSl szThingD q ≤ 1048576 := by omega
  clear hx
  go_wp2_with fail
  refine (toThingS_is _ p w.heap.size _ ((layThing.slice 40).rd_below R0.out HB.out (Nat.le_refl _)) HB.out.size hsz).mono ?_
  rintro e w3 ⟨v3, rfl, o3, b3⟩
  obtain ⟨a1o, a1c, hv⟩ := sl_formT o3
  obtain rfl := one_eq hv
  clear hv
  have HB' : Hid (Below w.heap.size w w3) := HB.out.trans (b3.mono HB.out.size)
  clear HB
  have HB := HB'
  clear HB'
  have z3 : w2.heap.size ≤ w3.heap.size := b3.size
  have A1 : Hid (OwnT (layThing.slice 40) w3 (w2.heap.size) (w3.heap.size) (p) [.slice a1o (p).1 a1c]) := o3
  clear o3 b3
  go_wp2_with fail
  refine (toThingS_is _ q w.heap.size _ ((layThing.slice 40).rd_below R1.out HB.out (Nat.le_refl _)) HB.out.size hsz3).mono ?_
  rintro e w4 ⟨v4, rfl, o4, b4⟩
  obtain ⟨a2o, a2c, hv⟩ := sl_formT o4
  obtain rfl := one_eq hv
  clear hv
  have A1' : Hid (OwnT (layThing.slice 40) w4 (w2.heap.size) (w3.heap.size) (p) [.slice a1o (p).1 a1c]) := A1.out.call b4
  clear A1
  have A1 := A1'
  clear A1'
  have HB' : Hid (Below w.heap.size w w4) := HB.out.trans (b4.mono HB.out.size)
  clear HB
  have HB := HB'
  clear HB'
  have z4 : w3.heap.size ≤ w4.heap.size := b4.size
  have A2 : Hid (OwnT (layThing.slice 40) w4 (w3.heap.size) (w4.heap.size) (q) [.slice a2o (q).1 a2c]) := o4
  clear o4 b4
  go_wp2_with fail
  refine (CS _ _ _ _ _ A1.out.rd A2.out.rd (by omega) (by omega)).mono ?_
  rintro e w5 ⟨rfl, b5⟩
  have A1' : Hid (OwnT (layThing.slice 40) w5 (w2.heap.size) (w3.heap.size) (p) [.slice a1o (p).1 a1c]) := A1.out.call b5
  clear A1
  have A1 := A1'
  clear A1'
  have A2' : Hid (OwnT (layThing.slice 40) w5 (w3.heap.size) (w4.heap.size) (q) [.slice a2o (q).1 a2c]) := A2.out.call b5
  clear A2
  have A2 := A2'
  clear A2'
  have HB' : Hid (Below w.heap.size w w5) := HB.out.trans (b5.mono HB.out.size)
  clear HB
  have HB := HB'
  clear HB'
  have z5 : w4.heap.size ≤ w5.heap.size := b5.size
  clear b5
  clear A1
  clear A2
  go_wp2_with fail
  refine (toThingS_is _ p w.heap.size _ ((layThing.slice 40).rd_below R0.out HB.out (Nat.le_refl _)) HB.out.size hsz).mono ?_
  rintro e w6 ⟨v6, rfl, o6, b6⟩
  obtain ⟨x0o, x0c, hv⟩ := sl_formT o6
  obtain rfl := one_eq hv
  clear hv
  have HB' : Hid (Below w.heap.size w w6) := HB.out.trans (b6.mono HB.out.size)
  clear HB
  have HB := HB'
  clear HB'
  have z6 : w5.heap.size ≤ w6.heap.size := b6.size
  have X0 : Hid (OwnT (layThing.slice 40) w6 (w5.heap.size) (w6.heap.size) (p) [.slice x0o (p).1 x0c]) := o6
  clear o6 b6
  go_wp2_with fail
  refine (toThingS_is _ q w.heap.size _ ((layThing.slice 40).rd_below R1.out HB.out (Nat.le_refl _)) HB.out.size hsz3).mono ?_
  rintro e w7 ⟨v7, rfl, o7, b7⟩
  obtain ⟨x1o, x1c, hv⟩ := sl_formT o7
  obtain rfl := one_eq hv
  clear hv
  have X0' : Hid (OwnT (layThing.slice 40) w7 (w5.heap.size) (w6.heap.size) (p) [.slice x0o (p).1 x0c]) := X0.out.call b7
  clear X0
  have X0 := X0'
  clear X0'
  have HB' : Hid (Below w.heap.size w w7) := HB.out.trans (b7.mono HB.out.size)
  clear HB
  have HB := HB'
  clear HB'
  have z7 : w6.heap.size ≤ w7.heap.size := b7.size
  have X1 : Hid (OwnT (layThing.slice 40) w7 (w6.heap.size) (w7.heap.size) (q) [.slice x1o (q).1 x1c]) := o7
  clear o7 b7
  go_wp2_with fail
  refine (CI _ _ _ _ _ X0.out.rd X1.out.rd (by omega) (by omega)).mono ?_
  rintro e w8 ⟨rfl, b8⟩
  have X0' : Hid (OwnT (layThing.slice 40) w8 (w5.heap.size) (w6.heap.size) (p) [.slice x0o (p).1 x0c]) := X0.out.call b8
  clear X0
  have X0 := X0'
  clear X0'
  have X1' : Hid (OwnT (layThing.slice 40) w8 (w6.heap.size) (w7.heap.size) (q) [.slice x1o (q).1 x1c]) := X1.out.call b8
  clear X1
  have X1 := X1'
  clear X1'
  have HB' : Hid (Below w.heap.size w w8) := HB.out.trans (b8.mono HB.out.size)
  clear HB
  have HB := HB'
  clear HB'
  have z8 : w7.heap.size ≤ w8.heap.size := b8.size
  clear b8
  have eqb : (bb != bb) = false := by simp
  go_wp2_with fail
  refine (toThingS_is _ p w.heap.size _ ((layThing.slice 40).rd_below R0.out HB.out (Nat.le_refl _)) HB.out.size hsz).mono ?_
  rintro e w9 ⟨v9, rfl, o9, b9⟩
  obtain ⟨a3o, a3c, hv⟩ := sl_formT o9
  obtain rfl := one_eq hv
  clear hv
  have X0' : Hid (OwnT (layThing.slice 40) w9 (w5.heap.size) (w6.heap.size) (p) [.slice x0o (p).1 x0c]) := X0.out.call b9
  clear X0
  have X0 := X0'
  clear X0'
  have X1' : Hid (OwnT (layThing.slice 40) w9 (w6.heap.size) (w7.heap.size) (q) [.slice x1o (q).1 x1c]) := X1.out.call b9
  clear X1
  have X1 := X1'
  clear X1'
  have HB' : Hid (Below w.heap.size w w9) := HB.out.trans (b9.mono HB.out.size)
  clear HB
  have HB := HB'
  clear HB'
  have z9 : w8.heap.size ≤ w9.heap.size := b9.size
  have A3 : Hid (OwnT (layThing.slice 40) w9 (w8.heap.size) (w9.heap.size) (p) [.slice a3o (p).1 a3c]) := o9
  clear o9 b9
  go_wp2_with fail
  refine (eqThingS_is _ _ _ _ _ _ X0.out.rd A3.out.rd (by omega) (by omega)).mono ?_
  rintro e w10 ⟨rfl, b10⟩
  have X0' : Hid (OwnT (layThing.slice 40) w10 (w5.heap.size) (w6.heap.size) (p) [.slice x0o (p).1 x0c]) := X0.out.call b10
  clear X0
  have X0 := X0'
  clear X0'
  have X1' : Hid (OwnT (layThing.slice 40) w10 (w6.heap.size) (w7.heap.size) (q) [.slice x1o (q).1 x1c]) := X1.out.call b10
  clear X1
  have X1 := X1'
  clear X1'
  have A3' : Hid (OwnT (layThing.slice 40) w10 (w8.heap.size) (w9.heap.size) (p) [.slice a3o (p).1 a3c]) := A3.out.call b10
  clear A3
  have A3 := A3'
  clear A3'
  have HB' : Hid (Below w.heap.size w w10) := HB.out.trans (b10.mono HB.out.size)
  clear HB
  have HB := HB'
  clear HB'
  have z10 : w9.heap.size ≤ w10.heap.size := b10.size
  clear b10
  clear A3
  go_wp2_with fail
  refine (toThingS_is _ q w.heap.size _ ((layThing.slice 40).rd_below R1.out HB.out (Nat.le_refl _)) HB.out.size hsz3).mono ?_
  rintro e w11 ⟨v11, rfl, o11, b11⟩
  obtain ⟨a4o, a4c, hv⟩ := sl_formT o11
  obtain rfl := one_eq hv
  clear hv
  have X0' : Hid (OwnT (layThing.slice 40) w11 (w5.heap.size) (w6.heap.size) (p) [.slice x0o (p).1 x0c]) := X0.out.call b11
  clear X0
  have X0 := X0'
  clear X0'
  have X1' : Hid (OwnT (layThing.slice 40) w11 (w6.heap.size) (w7.heap.size) (q) [.slice x1o (q).1 x1c]) := X1.out.call b11
  clear X1
  have X1 := X1'
  clear X1'
  have HB' : Hid (Below w.heap.size w w11) := HB.out.trans (b11.mono HB.out.size)
  clear HB
  have HB := HB'
  clear HB'
  have z11 : w10.heap.size ≤ w11.heap.size := b11.size
  have A4 : Hid (OwnT (layThing.slice 40) w11 (w10.heap.size) (w11.heap.size) (q) [.slice a4o (q).1 a4c]) := o11
  clear o11 b11
  go_wp2_with fail
  refine (eqThingS_is _ _ _ _ _ _ X1.out.rd A4.out.rd (by omega) (by omega)).mono ?_
  rintro e w12 ⟨rfl, b12⟩
  have X0' : Hid (OwnT (layThing.slice 40) w12 (w5.heap.size) (w6.heap.size) (p) [.slice x0o (p).1 x0c]) := X0.out.call b12
  clear X0
  have X0 := X0'
  clear X0'
  have X1' : Hid (OwnT (layThing.slice 40) w12 (w6.heap.size) (w7.heap.size) (q) [.slice x1o (q).1 x1c]) := X1.out.call b12
  clear X1
  have X1 := X1'
  clear X1'
  have A4' : Hid (OwnT (layThing.slice 40) w12 (w10.heap.size) (w11.heap.size) (q) [.slice a4o (q).1 a4c]) := A4.out.call b12
  clear A4
  have A4 := A4'
  clear A4'
  have HB' : Hid (Below w.heap.size w w12) := HB.out.trans (b12.mono HB.out.size)
  clear HB
  have HB := HB'
  clear HB'
  have z12 : w11.heap.size ≤ w12.heap.size := b12.size
  clear b12
  go_wp2
  go_ret
  exact ⟨rfl, HB.out⟩

set_option maxRecDepth 100000 in
theorem fnExactSameThings_lifted (os : Os) (started : os.Started) (H : Type) (enc : TypeId × Value → H) :
    ReturnsInHanded {} Try.checked os 5 .any (Rows.fnExactSameThingsSpec.pre6 enc Try.prog Try.f5 Rows.fnExactSameThingsRow.domain false) (Rows.fnExactSameThingsSpec.post enc Try.prog Try.f5 false true false false) := by
  refine returnsInHanded_of_change (C := Try.checked) frame_own started (by kernel_rfl) Try.func5
    (ChangeSpec.witness6 (enc := enc) (C := Try.checked) false ⟨#[], #[.slice none 0 0, .slice none 0 0], []⟩ 8 (by kernel_rfl) (by kernel_rfl) (by kernel_rfl) (by kernel_rfl)) ?_
  intro W base args ds gs before hval0 hW hcnd _
  have hval : ∀ (j : Nat) t v, Try.f5.params[j]? = some t → args[j]? = some v → Value.okWide Try.prog W .any base t v := hval0
  have hW' := hW
  obtain ⟨p, q, hA0, hV, rfl, hfz, hnd⟩ := hW
  have hA : DataW.TrodAll enc Try.prog W 0 (fun _ => true) true Try.f5.params.toList args.toList ds p := hA0
  rw [Try.params5] at hA hval
  obtain ⟨v0, vs0, d0, ds0, p0, q0, hargs, rfl, rfl, h0, r0⟩ := trodAll_cons hA
  obtain ⟨v1, vs1, d1, ds1, p1, q1, rfl, rfl, rfl, h1, r1⟩ := trodAll_cons r0
  obtain ⟨rfl, rfl, rfl⟩ := trodAll_nil r1
  obtain rfl : args = #[v0, v1] := by cases args; simp_all
  obtain ⟨rfl, rfl⟩ := trodVars_none hV
  have k0 := h0
  have lt0 : ∀ x ∈ p0, x.block < W.heap.size := by obtain ⟨m, hm⟩ := k0; exact DataW.trod_lt m _ _ _ hm
  have k1 := h1
  have lt1 : ∀ x ∈ p1, x.block < W.heap.size := by obtain ⟨m, hm⟩ := k1; exact DataW.trod_lt m _ _ _ hm
  obtain ⟨sa0, sl0, sc0, rfl⟩ := okWide_slice Try.underlying22 (hval 0 22 v0 rfl rfl)
  obtain ⟨a0, rd0⟩ := slice_of_trod opensThings h0
  obtain ⟨sa1, sl1, sc1, rfl⟩ := okWide_slice Try.underlying22 (hval 1 22 v1 rfl rfl)
  obtain ⟨a1, rd1⟩ := slice_of_trod opensThings h1
  clear hA0 hval0
  refine (fnExactSameThings_walk a0 (.slice sa0 sl0 sc0) a1 (.slice sa1 sl1 sc1) W rd0 rd1).mono fun e W' ⟨he, bel⟩ => ?_
  subst he
  exact ⟨_, rfl, _, _, _, [], _, [], hW', trodAll_mk1 (shut_bool Try.underlying4 _), (trodAll_cons_mk (Below.trod frame_laid (by kernel_rfl) (of_decide_eq_true (by kernel_rfl)) k0 bel lt0) (trodAll_cons_mk (Below.trod frame_laid (by kernel_rfl) (of_decide_eq_true (by kernel_rfl)) k1 bel lt1) trodAll_mk0)), rfl, bel.frame _, fun h => by cases h⟩

theorem fnExactSameThings_proved : Rows.FnExactSameThingsSaid :=
  OpenClaim.holds_of_wide 5 Try.f5 rfl rfl rfl rfl rfl rfl rfl ⟨rfl, rfl, rfl, rfl, rfl⟩ rfl rfl rfl rfl rfl (by kernel_rfl) Try.func5 (by kernel_rfl)
    (of_decide_eq_true (by kernel_rfl)) (by unfold Func.isWrapper; first | (rw [if_pos (by decide +kernel)]; kernel_rfl) | (rw [if_neg (by decide +kernel)]; exact ⟨rfl, rfl⟩))
    (fun os started H enc _ => fnExactSameThings_lifted os started H enc)
#print axioms fnExactSameThings_proved
end Go.Proofs.Ytapnjoophlckoaa
