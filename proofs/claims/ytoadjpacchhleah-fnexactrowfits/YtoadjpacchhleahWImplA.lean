/- Walks of the program's small functions of chapter 2: bounds, blocks that are there, numbers that rise, factors of a place. -/
import Derived.Test.YtoadjpacchhleahWRowA
import Derived.Test.YtoadjpacchhleahWRowF
namespace Go.Proofs.Ytoadjpacchhleah
open Go.RowKit F256
set_option linter.unusedVariables false
set_option linter.unusedSimpArgs false

theorem rowInBounds_any (d s : Int) (w : World) :
    Calls Try.prog 50 #[.int .i64 d, .int .i64 s] w (BoolP (Shp d s) w) := by
  by_cases h1 : 1 ≤ d
  · by_cases h2 : d ≤ 3
    · by_cases h3 : 0 ≤ s
      · by_cases h4 : s ≤ 2
        · go_enter Try.func50, Try.ntmps50
          go_wp2
          go_ret
          exact boolYes rfl ⟨by omega, by omega, by omega, by omega⟩ (Below.refl _ _)
        · have e4 : decide (s ≤ 2) = false := by simp; omega
          have H : Hid (¬ Shp d s) := fun h => h4 h.2.2.2
          clear h4
          go_enter Try.func50, Try.ntmps50
          go_wp2
          go_ret
          exact boolNo rfl H.out (Below.refl _ _)
      · have e3 : decide (0 ≤ s) = false := by simp; omega
        have H : Hid (¬ Shp d s) := fun h => h3 h.2.2.1
        clear h3
        go_enter Try.func50, Try.ntmps50
        go_wp2
        go_ret
        exact boolNo rfl H.out (Below.refl _ _)
    · have e2 : decide (d ≤ 3) = false := by simp; omega
      have H : Hid (¬ Shp d s) := fun h => h2 h.2.1
      clear h2
      go_enter Try.func50, Try.ntmps50
      go_wp2
      go_ret
      exact boolNo rfl H.out (Below.refl _ _)
  · have e1 : decide (1 ≤ d) = false := by simp; omega
    have H : Hid (¬ Shp d s) := fun h => h1 h.1
    clear h1
    go_enter Try.func50, Try.ntmps50
    go_wp2
    go_ret
    exact boolNo rfl H.out (Below.refl _ _)

theorem allThere_any (v : Value) (R : Nat) (n : Nat → Nat) (f : Nat → Nat → Nat) (hi : Nat) (N : Int) (w : World) (r : RdM w hi v R n f) :
    Calls Try.prog 56 #[.int .i64 N, v] w (BoolP (WholeP R n N) w) := by
  obtain ⟨ao, cap, e, rfl, hm, hc, he⟩ := r
  unfold maxLen at hm
  by_cases hN : (R : Int) = N
  · subst hN
    go_enter Try.func56, Try.ntmps56
    go_wp2
    go_loop [5, 12] (fun _ i => ∃ k : Nat, k ≤ R ∧ i = .int .i64 k ∧ ∀ i, i < k → n i = 4) (fun _ i => R - (intOf i).toNat)
    case atStart => exact ⟨0, Nat.zero_le _, rfl, fun i hi => by omega⟩
    case round =>
      obtain ⟨k, hk, rfl, hall⟩ := hrel
      have HALL : Hid (∀ i, i < k → n i = 4) := hall
      clear hall
      by_cases hlt : k < R
      · obtain ⟨b, off, rfl, hblt, hcell⟩ := hc (by omega)
        have hck : w.cell? ⟨b, off + k, none⟩ = some (e k) := hcell k hlt
        obtain ⟨aok, capk, hsk, hmk, hqk⟩ := he k hlt
        unfold maxLen at hmk
        rw [hsk] at hck
        obtain ⟨nk, hnk⟩ : ∃ x, x = n k := ⟨_, rfl⟩
        have HK : Hid (nk = n k) := hnk
        rw [← hnk] at hck hmk
        clear hc hcell he hsk hqk hnk
        by_cases heq : nk = 4
        · subst heq
          go_wp2
          go_round
          case rel => exact ⟨k + 1, by omega, by go_num, fun i hi => by
                        by_cases c : i = k
                        · rw [c, ← HK.out]
                        · exact HALL.out i (by omega)⟩
          case measure => simp [intOf]; omega
        · have tn : ((nk : Int) != 4) = true := by simp; omega
          go_wp2
          go_ret
          exact boolNo rfl (fun h => absurd (h.1 k hlt) (by rw [← HK.out]; exact heq)) (Below.refl _ _)
      · have hkn : k = R := by omega
        subst hkn
        go_wp2
        go_ret
        exact boolYes rfl ⟨HALL.out, rfl⟩ (Below.refl _ _)
  · have tN : ((R : Int) != N) = true := by simp [hN]
    have H : Hid (¬ WholeP R n N) := fun h => hN h.2
    clear hc he hN
    go_enter Try.func56, Try.ntmps56
    go_wp2
    go_ret
    exact boolNo rfl H.out (Below.refl _ _)

/-- so many blocks, each there or empty -/
def ThereP (R : Nat) (n : Nat → Nat) (N : Int) : Prop := (R : Int) = N ∧ ∀ i, i < R → n i = 0 ∨ n i = 4
set_option maxHeartbeats 1000000 in
theorem factorsFrom_any (base n p F : Nat) (hF : F = 128 + base) (hb : base ≤ 64) (hn : n ≤ 16) (hp : p < n + 16) (w : World) :
    Calls Try.prog 75 #[.int .i64 F, .int .i64 n, .int .i64 p] w fun e w' => ∃ v', e = .returned v' ∧ Own w' w.heap.size w'.heap.size v' n (genN n p base) ∧ Below w.heap.size w w' := by
  by_cases hpn : p < n
  · have hd1 : decide ((p : Int) < (n : Int)) = true := by simp; omega
    go_enter Try.func75, Try.ntmps75
    have HG : Hid (∀ i, i < n → genN n p base i = if i = p then 1 else 0) := fun i hi => by simp [genN, show ¬ n ≤ p by omega]
    go_wp2_with (at_make; refine wp_makeB _ rfl _ _ rfl _ _ n rfl rfl rfl rfl (by omega) ?_; intro w1 hown1 hb1 hz1; have hco : w1.cell? ⟨w.heap.size, p, none⟩ = some (.int .u8 (0 : Nat)) := (by have := hown1.1.cellAt p (by omega); rw [this, cellsOf_get _ _ _ hpn]); have hfo : w1.frozen? ⟨w.heap.size, p, none⟩ = false := hown1.1.frozenAt p)
    have R := hown1.store p 1 hpn (g' := genN n p base) (fun i hi => HG.out i hi)
    have RB : Below w.heap.size w (w1.setCell ⟨w.heap.size, p, none⟩ (.int .u8 (1 : Nat))) := hb1.setCell (Nat.le_refl _) _
    go_ret
    exact ⟨_, rfl, R.mono (by simp), RB⟩
  · have hd1 : decide ((p : Int) < (n : Int)) = false := by simp; omega
    have hd2 : decide (p < n) = false := by simp; omega
    obtain ⟨s, hs⟩ : ∃ s, p = n + s := ⟨p - n, by omega⟩
    have hs16 : s < 16 := by omega
    obtain ⟨Q, hQ⟩ : ∃ Q, Q = F + s := ⟨_, rfl⟩
    have hQ2 : Q ≤ 128 + 80 := by omega
    have HG : Hid (∀ i, genN n p base i = powN (Q ^^^ i) 254) := fun i => by
      simp only [genN, if_pos (show n ≤ p by omega)]
      rw [show 128 + (base + p - n) = Q by omega]
    have hadd : IntKind.i64.wrap ((F : Int) + (p : Int)) = (F : Int) + (p : Int) := by rw [IntKind.wrap_i64]; omega
    have hsub : (F : Int) + (p : Int) - (n : Int) = (Q : Int) := by omega
    have HPS : Hid (p = n + s) := hs
    clear hpn hs hF hQ
    go_enter Try.func75, Try.ntmps75
    go_wp2_with (at_make; refine wp_makeB _ rfl _ _ rfl _ _ n rfl rfl rfl rfl (by omega) ?_; intro w1 hown1 hb1 hz1)
    go_loopw [8, 19] (fun _ i wr => ∃ k : Nat, k ≤ n ∧ i = .int .i64 k ∧ Own wr w.heap.size w1.heap.size (.slice (some ⟨w.heap.size, 0, none⟩) n n) n (fun i => if i < k then genN n p base i else 0) ∧ Below w.heap.size w wr ∧ w1.heap.size ≤ wr.heap.size) (fun _ i _ => n - (intOf i).toNat)
    case atStart => exact ⟨0, Nat.zero_le _, rfl, hown1, hb1, Nat.le_refl _⟩
    case round =>
      clear hown1 hb1
      obtain ⟨k, hk, rfl, hown, hbel, hz2⟩ := hrel
      by_cases hlt : k < n
      · obtain ⟨y, hy⟩ : ∃ y, y = Q ^^^ k := ⟨_, rfl⟩
        have hx : bits .xor .i64 (Q : Int) (k : Int) = (y : Int) := by rw [hy]; exact i64_xor_nat Q k (by omega) (by omega)
        have hl : y < 256 := by rw [hy]; exact xor_lt (by omega) (by omega)
        have HV : Hid (powN y 254 = genN n p base k) := by show powN y 254 = genN n p base k; rw [HG.out, hy]
        have HO : Hid (Own wr w.heap.size w1.heap.size (.slice (some ⟨w.heap.size, 0, none⟩) n n) n (fun i => if i < k then genN n p base i else 0)) := hown
        have szr := hbel.size
        have HBL : Hid (Below w.heap.size w wr) := hbel
        clear hy hown hbel
        go_wp2_with fail
        refine (implInv_any y hl _).mono ?_
        rintro e w2 ⟨rfl, hb2⟩
        have hz3 := hb2.size
        have hown2 := HO.out.below hb2 (by omega)
        have hco : w2.cell? ⟨w.heap.size, k, none⟩ = some (.int .u8 (0 : Nat)) := by
          have := hown2.1.cellAt k (by omega)
          rw [this, cellsOf_get _ _ _ hlt, if_neg (Nat.lt_irrefl k)]
        have hfo : w2.frozen? ⟨w.heap.size, k, none⟩ = false := hown2.1.frozenAt k
        have RW : Own (w2.setCell ⟨w.heap.size, k, none⟩ (.int .u8 (powN y 254))) w.heap.size w1.heap.size (.slice (some ⟨w.heap.size, 0, none⟩) n n) n (fun i => if i < k + 1 then genN n p base i else 0) :=
          hown2.store k _ hlt (fun i _ => by
            by_cases c1 : i = k
            · subst c1; simp [HV.out]
            · by_cases c2 : i < k
              · have c3 : i < k + 1 := by omega
                simp [c1, c2, c3]
              · have c3 : ¬ i < k + 1 := by omega
                simp [c1, c2, c3])
        have RB : Below w.heap.size w (w2.setCell ⟨w.heap.size, k, none⟩ (.int .u8 (powN y 254))) := (HBL.out.trans (hb2.mono szr)).setCell (Nat.le_refl _) _
        have RS : w1.heap.size ≤ (w2.setCell ⟨w.heap.size, k, none⟩ (.int .u8 (powN y 254))).heap.size := by simp; omega
        clear hown2 hb2 HO HBL
        go_wp2
        go_roundw
        case rel => exact ⟨k + 1, by omega, by go_num, RW, RB, RS⟩
        case measure => simp [intOf]; omega
      · have hkn : k = n := by omega
        subst hkn
        have h6 := hown.congr (g := genN k p base) (fun i hi => by simp [hi])
        clear hown
        go_wp2
        go_ret
        exact ⟨_, rfl, h6.weaken (Nat.le_refl _) hz2, hbel⟩
theorem factorsAt_any (n p : Nat) (hn : n ≤ 16) (hp : p < n + 16) (w : World) :
    Calls Try.prog 70 #[.int .i64 n, .int .i64 p] w fun e w' => ∃ v', e = .returned v' ∧ Own w' w.heap.size w'.heap.size v' n (genN n p 0) ∧ Below w.heap.size w w' := by
  go_enter Try.func70, Try.ntmps70
  go_wp2_with fail
  refine (factorsFrom_any 0 n p 128 rfl (by omega) hn hp _).mono ?_
  rintro e w1 ⟨v1, rfl, ho, hb⟩
  obtain ⟨ao, cap, rfl⟩ := ho.slice
  go_wp2
  go_ret
  exact ⟨_, rfl, ho, hb⟩
end Go.Proofs.Ytoadjpacchhleah
