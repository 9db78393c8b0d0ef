/- Walks of the small functions of the specification's chapter 2: shapes, whole blocks, sameness, how a place comes of the data places. -/
import Derived.Test.YtdnankopblkblajWCauchy
import Derived.Test.YtdnankopblkblajWMix
import Derived.Test.YtdnankopblkblajWBld
import Derived.Test.YtdnankopblkblajGaussT
import Derived.Deep.DeepCutAuto
namespace Go.Proofs.Ytdnankopblkblaj
open Go.RowKit F256
set_option linter.unusedVariables false
set_option linter.unusedSimpArgs false

/-- it tells whether P, and changes nothing -/
def BoolP (P : Prop) (w : World) (e : Ending) (w' : World) : Prop := ∃ b : Bool, e = .returned (.bool b) ∧ (b = true ↔ P) ∧ Below w.heap.size w w'
theorem boolYes {P : Prop} {w : World} {e : Ending} {w' : World} (he : e = .returned (.bool true)) (h : P) (hb : Below w.heap.size w w') : BoolP P w e w' := ⟨true, he, ⟨fun _ => h, fun _ => rfl⟩, hb⟩
theorem boolNo {P : Prop} {w : World} {e : Ending} {w' : World} (he : e = .returned (.bool false)) (h : ¬ P) (hb : Below w.heap.size w w') : BoolP P w e w' := ⟨false, he, ⟨fun h => (by cases h), fun hh => absurd hh h⟩, hb⟩
/-- a shape: 1 to 3 data places, 0 to 2 spare ones -/
def Shp (d s : Int) : Prop := 1 ≤ d ∧ d ≤ 3 ∧ 0 ≤ s ∧ s ≤ 2
theorem l2Shape_any (d s : Int) (w : World) :
    Calls Try.prog 66 #[.int .i64 d, .int .i64 s] w (BoolP (Shp d s) w) := by
  by_cases h1 : 1 ≤ d ∧ d ≤ 3
  · by_cases h2 : 0 ≤ s ∧ s ≤ 2
    · go_enter Try.func66, Try.ntmps66
      go_wp2_with fail
      refine (l1In_yes d 1 3 h1.1 h1.2 _).mono ?_
      rintro e w1 ⟨rfl, rfl⟩
      go_wp2_with fail
      refine (l1In_yes s 0 2 h2.1 h2.2 _).mono ?_
      rintro e w1 ⟨rfl, rfl⟩
      go_wp2
      go_ret
      exact boolYes rfl ⟨h1.1, h1.2, h2.1, h2.2⟩ (Below.refl _ _)
    · go_enter Try.func66, Try.ntmps66
      go_wp2_with fail
      refine (l1In_yes d 1 3 h1.1 h1.2 _).mono ?_
      rintro e w1 ⟨rfl, rfl⟩
      go_wp2_with fail
      refine (l1In_no s 0 2 (by omega) _).mono ?_
      rintro e w1 ⟨rfl, rfl⟩
      go_wp2
      go_ret
      exact boolNo rfl (fun h => h2 ⟨h.2.2.1, h.2.2.2⟩) (Below.refl _ _)
  · go_enter Try.func66, Try.ntmps66
    go_wp2_with fail
    refine (l1In_no d 1 3 (by omega) _).mono ?_
    rintro e w1 ⟨rfl, rfl⟩
    go_wp2
    go_ret
    exact boolNo rfl (fun h => h1 ⟨h.1, h.2.1⟩) (Below.refl _ _)

def WholeP (R : Nat) (n : Nat → Nat) (N : Int) : Prop := (∀ i, i < R → n i = 4) ∧ (R : Int) = N
def SameP (n m : Nat) (f g : Nat → Nat) : Prop := n = m ∧ ∀ i, i < n → f i = g i
set_option maxHeartbeats 1000000 in
theorem l2Gen_any (n p base : Nat) (hn : n ≤ 16) (hp : base + p < n + 16) (w : World) :
    Calls Try.prog 70 #[.int .i64 n, .int .i64 p, .int .i64 base] w fun e w' => ∃ v', e = .returned v' ∧ Own w' w.heap.size w'.heap.size v' n (genN n p base) ∧ Below w.heap.size w w' := by
  go_enter Try.func70, Try.ntmps70
  go_wp2_with (at_make; refine wp_makeB _ rfl _ _ rfl _ _ n rfl rfl rfl rfl (by omega) ?_; intro w1 hown1 hb1 hz1)
  go_loopw [8] (fun i wr => ∃ k : Nat, k ≤ n ∧ i = .int .i64 k ∧ Own wr w.heap.size w1.heap.size (.slice (some ⟨w.heap.size, 0, none⟩) n n) n (fun i => if i < k then genN n p base i else 0) ∧ Out w.heap.size w1.heap.size w1 wr) (fun i _ => n - (intOf i).toNat)
  case atStart => exact ⟨0, Nat.zero_le _, rfl, hown1, Out.refl _ _ _⟩
  case round =>
    clear hown1
    obtain ⟨k, hk, rfl, hown, hout⟩ := hrel
    by_cases hlt : k < n
    · have hco : wr.cell? ⟨w.heap.size, k, none⟩ = some (.int .u8 (0 : Nat)) := by
        have := hown.1.cellAt k (by omega)
        rw [this, cellsOf_get _ _ _ hlt, if_neg (Nat.lt_irrefl k)]
      have hfo : wr.frozen? ⟨w.heap.size, k, none⟩ = false := hown.1.frozenAt k
      have RW : Own (wr.setCell ⟨w.heap.size, k, none⟩ (.int .u8 (genN n p base k))) w.heap.size w1.heap.size (.slice (some ⟨w.heap.size, 0, none⟩) n n) n (fun i => if i < k + 1 then genN n p base i else 0) :=
        hown.store k _ hlt (fun i _ => by
          by_cases c1 : i = k
          · subst c1; simp
          · by_cases c2 : i < k
            · have c3 : i < k + 1 := by omega
              simp [c1, c2, c3]
            · have c3 : ¬ i < k + 1 := by omega
              simp [c1, c2, c3])
      have RO : Out w.heap.size w1.heap.size w1 (wr.setCell ⟨w.heap.size, k, none⟩ (.int .u8 (genN n p base k))) := hout.trans (out_store wr _ _ _ k _ (Nat.le_refl _) hz1)
      by_cases hpn : n ≤ p
      · have hg : genN n p base k = powN ((128 + (base + p - n)) ^^^ k) 254 := by simp [genN, hpn]
        rw [hg] at RW RO
        obtain ⟨q, hq⟩ : ∃ q, q = base + p - n := ⟨_, rfl⟩
        rw [← hq] at RW RO
        have hsum : (base : Int) + (p : Int) - (n : Int) = (q : Int) := by omega
        have C := l1Cauchy_any q k (by omega) (by omega)
        have hw1 : IntKind.i64.wrap ((base : Int) + (p : Int)) = (base : Int) + (p : Int) := by rw [IntKind.wrap_i64]; omega
        have hw2 : IntKind.i64.wrap ((base : Int) + (p : Int) - (n : Int)) = (q : Int) := by rw [IntKind.wrap_i64]; omega
        have HRW : Hid (Own (wr.setCell ⟨w.heap.size, k, none⟩ (.int .u8 (powN ((128 + q) ^^^ k) 254))) w.heap.size w1.heap.size (.slice (some ⟨w.heap.size, 0, none⟩) n n) n (fun i => if i < k + 1 then genN n p base i else 0)) := RW
        clear hown hout hg hq RW
        go_wp2_with fail
        refine (C _).mono ?_
        rintro e w2 ⟨rfl, rfl⟩
        go_wp2
        go_roundw
        case rel => exact ⟨k + 1, by omega, by go_num, HRW.out, RO⟩
        case measure => simp [intOf]; omega
      · have HRW : Hid (Own (wr.setCell ⟨w.heap.size, k, none⟩ (.int .u8 (genN n p base k))) w.heap.size w1.heap.size (.slice (some ⟨w.heap.size, 0, none⟩) n n) n (fun i => if i < k + 1 then genN n p base i else 0)) := RW
        have HRO : Hid (Out w.heap.size w1.heap.size w1 (wr.setCell ⟨w.heap.size, k, none⟩ (.int .u8 (genN n p base k)))) := RO
        have hd1 : decide ((n : Int) ≤ (p : Int)) = false := by simp; omega
        have HOW : Hid (Own wr w.heap.size w1.heap.size (.slice (some ⟨w.heap.size, 0, none⟩) n n) n (fun i => if i < k then genN n p base i else 0)) := hown
        have HOU : Hid (Out w.heap.size w1.heap.size w1 wr) := hout
        clear hown hout RW RO
        by_cases hkp : k = p
        · subst hkp
          have hg : genN n k base k = 1 := by simp [genN, hpn]
          have tk : ((k : Int) == (k : Int)) = true := by simp
          go_wp2
          go_roundw
          case rel => exact ⟨k + 1, by omega, by go_num, by have := HRW.out; rw [hg] at this; exact this, by have := HRO.out; rw [hg] at this; exact this⟩
          case measure => simp [intOf]; omega
        · have hg : genN n p base k = 0 := by simp [genN, hpn, hkp]
          have tk : ((k : Int) == (p : Int)) = false := by simp; omega
          go_wp2
          go_roundw
          case rel => exact ⟨k + 1, by omega, by go_num, HOW.out.congr (fun i hi => by
                        by_cases c1 : i = k
                        · subst c1; simp [hg]
                        · by_cases c2 : i < k
                          · have c3 : i < k + 1 := by omega
                            simp [c2, c3]
                          · have c3 : ¬ i < k + 1 := by omega
                            simp [c2, c3]), HOU.out⟩
          case measure => simp [intOf]; omega
    · have hkn : k = n := by omega
      subst hkn
      have h6 := hown.congr (g := genN k p base) (fun i hi => by simp [hi])
      have hsz := hout.size
      have hb6 : Below w.heap.size w wr := hb1.trans hout.below
      clear hown hout
      go_wp2
      go_ret
      exact ⟨_, rfl, h6.weaken (Nat.le_refl _) (by omega), hb6⟩
end Go.Proofs.Ytdnankopblkblaj
