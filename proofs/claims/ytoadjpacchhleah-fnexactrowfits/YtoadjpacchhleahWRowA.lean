/- Walks of the small functions of the specification's chapter 2: shapes, whole blocks, sameness, how a place comes of the data places. -/
import Derived.Test.YtoadjpacchhleahWCauchy
import Derived.Test.YtoadjpacchhleahWMix
import Derived.Test.YtoadjpacchhleahWBld
import Derived.Test.YtoadjpacchhleahGaussT
import Derived.Deep.DeepCutAuto
namespace Go.Proofs.Ytoadjpacchhleah
open Go.RowKit F256
set_option linter.unusedVariables false
set_option linter.unusedSimpArgs false

/-- it tells whether P, and changes nothing -/
def BoolP (P : Prop) (w : World) (e : Ending) (w' : World) : Prop := ∃ b : Bool, e = .returned (.bool b) ∧ (b = true ↔ P) ∧ Below w.heap.size w w'
theorem boolYes {P : Prop} {w : World} {e : Ending} {w' : World} (he : e = .returned (.bool true)) (h : P) (hb : Below w.heap.size w w') : BoolP P w e w' := ⟨true, he, ⟨fun _ => h, fun _ => rfl⟩, hb⟩
theorem boolNo {P : Prop} {w : World} {e : Ending} {w' : World} (he : e = .returned (.bool false)) (h : ¬ P) (hb : Below w.heap.size w w') : BoolP P w e w' := ⟨false, he, ⟨fun h => (by cases h), fun hh => absurd hh h⟩, hb⟩
/-- a shape: 1 to 3 data places, 0 to 2 spare ones -/
def Shp (d s : Int) : Prop := 1 ≤ d ∧ d ≤ 3 ∧ 0 ≤ s ∧ s ≤ 2
theorem l2Shape_any (d s : Int) (w : World) :
    Calls Try.prog 48 #[.int .i64 d, .int .i64 s] w (BoolP (Shp d s) w) := by
  by_cases h1 : 1 ≤ d ∧ d ≤ 3
  · by_cases h2 : 0 ≤ s ∧ s ≤ 2
    · go_enter Try.func48, Try.ntmps48
      go_wp2_with fail
      refine (l1In_yes d 1 3 h1.1 h1.2 _).mono ?_
      rintro e w1 ⟨rfl, rfl⟩
      go_wp2_with fail
      refine (l1In_yes s 0 2 h2.1 h2.2 _).mono ?_
      rintro e w1 ⟨rfl, rfl⟩
      go_wp2
      go_ret
      exact boolYes rfl ⟨h1.1, h1.2, h2.1, h2.2⟩ (Below.refl _ _)
    · go_enter Try.func48, Try.ntmps48
      go_wp2_with fail
      refine (l1In_yes d 1 3 h1.1 h1.2 _).mono ?_
      rintro e w1 ⟨rfl, rfl⟩
      go_wp2_with fail
      refine (l1In_no s 0 2 (by omega) _).mono ?_
      rintro e w1 ⟨rfl, rfl⟩
      go_wp2
      go_ret
      exact boolNo rfl (fun h => h2 ⟨h.2.2.1, h.2.2.2⟩) (Below.refl _ _)
  · go_enter Try.func48, Try.ntmps48
    go_wp2_with fail
    refine (l1In_no d 1 3 (by omega) _).mono ?_
    rintro e w1 ⟨rfl, rfl⟩
    go_wp2
    go_ret
    exact boolNo rfl (fun h => h1 ⟨h.1, h.2.1⟩) (Below.refl _ _)

def WholeP (R : Nat) (n : Nat → Nat) (N : Int) : Prop := (∀ i, i < R → n i = 4) ∧ (R : Int) = N
def SameP (n m : Nat) (f g : Nat → Nat) : Prop := n = m ∧ ∀ i, i < n → f i = g i
theorem l2Whole_any (v : Value) (R : Nat) (n : Nat → Nat) (f : Nat → Nat → Nat) (hi : Nat) (N : Int) (w : World) (r : RdM w hi v R n f) :
    Calls Try.prog 53 #[v, .int .i64 N] w (BoolP (WholeP R n N) w) := by
  obtain ⟨ao, cap, e, rfl, hm, hc, he⟩ := r
  unfold maxLen at hm
  go_enter Try.func53, Try.ntmps53
  go_wp2
  go_loop [5] (fun i => ∃ k : Nat, k ≤ R ∧ i = .int .i64 k ∧ ∀ i, i < k → n i = 4) (fun i => R - (intOf i).toNat)
  case atStart => exact ⟨0, Nat.zero_le _, rfl, fun i hi => by omega⟩
  case round =>
    obtain ⟨k, hk, rfl, hall⟩ := hrel
    have HALL : Hid (∀ i, i < k → n i = 4) := hall
    clear hall
    by_cases hlt : k < R
    · obtain ⟨b, off, rfl, hblt, hcell⟩ := hc (by omega)
      have hck : w.cell? ⟨b, off + k, none⟩ = some (e k) := hcell k hlt
      obtain ⟨aok, capk, hsk, hmk, hqk⟩ := he k hlt
      unfold maxLen at hmk
      rw [hsk] at hck
      obtain ⟨nk, hnk⟩ : ∃ x, x = n k := ⟨_, rfl⟩
      have HK : Hid (nk = n k) := hnk
      rw [← hnk] at hck hmk
      clear hc hcell he hsk hqk hnk
      by_cases heq : nk = 4
      · subst heq
        go_wp2
        go_round
        case rel => exact ⟨k + 1, by omega, by go_num, fun i hi => by
                      by_cases c : i = k
                      · rw [c, ← HK.out]
                      · exact HALL.out i (by omega)⟩
        case measure => simp [intOf]; omega
      · have tn : ((nk : Int) != 4) = true := by simp; omega
        go_wp2
        go_ret
        exact boolNo rfl (fun h => absurd (h.1 k hlt) (by rw [← HK.out]; exact heq)) (Below.refl _ _)
    · have hkn : k = R := by omega
      subst hkn
      by_cases hN : (k : Int) = N
      · have tN : ((k : Int) == N) = true := by simp [hN]
        go_wp2
        go_ret
        exact boolYes rfl ⟨HALL.out, hN⟩ (Below.refl _ _)
      · have tN : ((k : Int) == N) = false := by simp [hN]
        go_wp2
        go_ret
        exact boolNo rfl (fun h => hN h.2) (Below.refl _ _)

set_option maxHeartbeats 1000000 in
theorem l2Same_any (v1 v2 : Value) (n m : Nat) (f g : Nat → Nat) (h1 h2 : Nat) (w : World) (r1 : Rd w h1 v1 n f) (r2 : Rd w h2 v2 m g) :
    Calls Try.prog 55 #[v1, v2] w (BoolP (SameP n m f g) w) := by
  obtain ⟨ao, cap, rfl, hm, hc⟩ := r1
  obtain ⟨ao2, cap2, rfl, hm2, hc2⟩ := r2
  unfold maxLen at hm hm2
  by_cases hnm : n = m
  · subst hnm
    go_enter Try.func55, Try.ntmps55
    go_wp2
    go_loopw [5] (fun i wr => ∃ k : Nat, k ≤ n ∧ i = .int .i64 k ∧ (∀ i, i < k → f i = g i) ∧ ∃ m, wr = w.drewN m) (fun i _ => n - (intOf i).toNat)
    case atStart => exact ⟨0, Nat.zero_le _, rfl, fun i hi => by omega, 0, rfl⟩
    case round =>
      obtain ⟨k, hk, rfl, hall, q, rfl⟩ := hrel
      have HALL : Hid (∀ i, i < k → f i = g i) := hall
      clear hall
      by_cases hlt : k < n
      · obtain ⟨b, off, rfl, hblt, hcell⟩ := hc (by omega)
        obtain ⟨b2, off2, rfl, hblt2, hcell2⟩ := hc2 (by omega)
        have hck : w.cell? ⟨b, off + k, none⟩ = some (.int .u8 (f k)) := hcell k hlt
        have hck2 : w.cell? ⟨b2, off2 + k, none⟩ = some (.int .u8 (g k)) := hcell2 k hlt
        obtain ⟨x, hx⟩ : ∃ x, x = f k := ⟨_, rfl⟩
        obtain ⟨y, hy⟩ : ∃ y, y = g k := ⟨_, rfl⟩
        have HX : Hid (x = f k) := hx
        have HY : Hid (y = g k) := hy
        rw [← hx] at hck
        rw [← hy] at hck2
        clear hc hc2 hcell hcell2 hx hy
        by_cases heq : x = y
        · subst heq
          go_wp2
          go_quiet (fail)
          go_wp2
          go_roundw
          case rel => exact ⟨k + 1, by omega, by go_num, fun i hi => by
                        by_cases c : i = k
                        · rw [c, ← HX.out, ← HY.out]
                        · exact HALL.out i (by omega), _, rfl⟩
          case measure => simp [intOf]; omega
        · have tn : ((x : Int) != (y : Int)) = true := by simp; omega
          go_wp2
          go_quiet (fail)
          go_wp2
          go_ret
          exact boolNo rfl (fun h => absurd (h.2 k hlt) (by rw [← HX.out, ← HY.out]; exact heq)) (below_drewN (below_drewN (Below.refl _ _) _) _)
      · have hkn : k = n := by omega
        subst hkn
        go_wp2
        go_ret
        exact boolYes rfl ⟨rfl, HALL.out⟩ (below_drewN (Below.refl _ _) _)
  · have tn : ((n : Int) != (m : Int)) = true := by simp; omega
    clear hc hc2
    go_enter Try.func55, Try.ntmps55
    go_wp2
    go_ret
    exact boolNo rfl (fun h => hnm h.1) (Below.refl _ _)

set_option maxHeartbeats 1000000 in
theorem l2Gen_any (n p base : Nat) (hn : n ≤ 16) (hp : base + p < n + 16) (w : World) :
    Calls Try.prog 68 #[.int .i64 n, .int .i64 p, .int .i64 base] w fun e w' => ∃ v', e = .returned v' ∧ Own w' w.heap.size w'.heap.size v' n (genN n p base) ∧ Below w.heap.size w w' := by
  go_enter Try.func68, Try.ntmps68
  go_wp2_with (at_make; refine wp_makeB _ rfl _ _ rfl _ _ n rfl rfl rfl rfl (by omega) ?_; intro w1 hown1 hb1 hz1)
  go_loopw [8] (fun i wr => ∃ k : Nat, k ≤ n ∧ i = .int .i64 k ∧ Own wr w.heap.size w1.heap.size (.slice (some ⟨w.heap.size, 0, none⟩) n n) n (fun i => if i < k then genN n p base i else 0) ∧ Out w.heap.size w1.heap.size w1 wr) (fun i _ => n - (intOf i).toNat)
  case atStart => exact ⟨0, Nat.zero_le _, rfl, hown1, Out.refl _ _ _⟩
  case round =>
    clear hown1
    obtain ⟨k, hk, rfl, hown, hout⟩ := hrel
    by_cases hlt : k < n
    · have hco : wr.cell? ⟨w.heap.size, k, none⟩ = some (.int .u8 (0 : Nat)) := by
        have := hown.1.cellAt k (by omega)
        rw [this, cellsOf_get _ _ _ hlt, if_neg (Nat.lt_irrefl k)]
      have hfo : wr.frozen? ⟨w.heap.size, k, none⟩ = false := hown.1.frozenAt k
      have RW : Own (wr.setCell ⟨w.heap.size, k, none⟩ (.int .u8 (genN n p base k))) w.heap.size w1.heap.size (.slice (some ⟨w.heap.size, 0, none⟩) n n) n (fun i => if i < k + 1 then genN n p base i else 0) :=
        hown.store k _ hlt (fun i _ => by
          by_cases c1 : i = k
          · subst c1; simp
          · by_cases c2 : i < k
            · have c3 : i < k + 1 := by omega
              simp [c1, c2, c3]
            · have c3 : ¬ i < k + 1 := by omega
              simp [c1, c2, c3])
      have RO : Out w.heap.size w1.heap.size w1 (wr.setCell ⟨w.heap.size, k, none⟩ (.int .u8 (genN n p base k))) := hout.trans (out_store wr _ _ _ k _ (Nat.le_refl _) hz1)
      by_cases hpn : n ≤ p
      · have hg : genN n p base k = powN ((128 + (base + p - n)) ^^^ k) 254 := by simp [genN, hpn]
        rw [hg] at RW RO
        obtain ⟨q, hq⟩ : ∃ q, q = base + p - n := ⟨_, rfl⟩
        rw [← hq] at RW RO
        have hsum : (base : Int) + (p : Int) - (n : Int) = (q : Int) := by omega
        have C := l1Cauchy_any q k (by omega) (by omega)
        have hw1 : IntKind.i64.wrap ((base : Int) + (p : Int)) = (base : Int) + (p : Int) := by rw [IntKind.wrap_i64]; omega
        have hw2 : IntKind.i64.wrap ((base : Int) + (p : Int) - (n : Int)) = (q : Int) := by rw [IntKind.wrap_i64]; omega
        have HRW : Hid (Own (wr.setCell ⟨w.heap.size, k, none⟩ (.int .u8 (powN ((128 + q) ^^^ k) 254))) w.heap.size w1.heap.size (.slice (some ⟨w.heap.size, 0, none⟩) n n) n (fun i => if i < k + 1 then genN n p base i else 0)) := RW
        clear hown hout hg hq RW
        go_wp2_with fail
        refine (C _).mono ?_
        rintro e w2 ⟨rfl, rfl⟩
        go_wp2
        go_roundw
        case rel => exact ⟨k + 1, by omega, by go_num, HRW.out, RO⟩
        case measure => simp [intOf]; omega
      · have HRW : Hid (Own (wr.setCell ⟨w.heap.size, k, none⟩ (.int .u8 (genN n p base k))) w.heap.size w1.heap.size (.slice (some ⟨w.heap.size, 0, none⟩) n n) n (fun i => if i < k + 1 then genN n p base i else 0)) := RW
        have HRO : Hid (Out w.heap.size w1.heap.size w1 (wr.setCell ⟨w.heap.size, k, none⟩ (.int .u8 (genN n p base k)))) := RO
        have hd1 : decide ((n : Int) ≤ (p : Int)) = false := by simp; omega
        have HOW : Hid (Own wr w.heap.size w1.heap.size (.slice (some ⟨w.heap.size, 0, none⟩) n n) n (fun i => if i < k then genN n p base i else 0)) := hown
        have HOU : Hid (Out w.heap.size w1.heap.size w1 wr) := hout
        clear hown hout RW RO
        by_cases hkp : k = p
        · subst hkp
          have hg : genN n k base k = 1 := by simp [genN, hpn]
          have tk : ((k : Int) == (k : Int)) = true := by simp
          go_wp2
          go_roundw
          case rel => exact ⟨k + 1, by omega, by go_num, by have := HRW.out; rw [hg] at this; exact this, by have := HRO.out; rw [hg] at this; exact this⟩
          case measure => simp [intOf]; omega
        · have hg : genN n p base k = 0 := by simp [genN, hpn, hkp]
          have tk : ((k : Int) == (p : Int)) = false := by simp; omega
          go_wp2
          go_roundw
          case rel => exact ⟨k + 1, by omega, by go_num, HOW.out.congr (fun i hi => by
                        by_cases c1 : i = k
                        · subst c1; simp [hg]
                        · by_cases c2 : i < k
                          · have c3 : i < k + 1 := by omega
                            simp [c2, c3]
                          · have c3 : ¬ i < k + 1 := by omega
                            simp [c2, c3]), HOU.out⟩
          case measure => simp [intOf]; omega
    · have hkn : k = n := by omega
      subst hkn
      have h6 := hown.congr (g := genN k p base) (fun i hi => by simp [hi])
      have hsz := hout.size
      have hb6 : Below w.heap.size w wr := hb1.trans hout.below
      clear hown hout
      go_wp2
      go_ret
      exact ⟨_, rfl, h6.weaken (Nat.le_refl _) (by omega), hb6⟩
end Go.Proofs.Ytoadjpacchhleah
