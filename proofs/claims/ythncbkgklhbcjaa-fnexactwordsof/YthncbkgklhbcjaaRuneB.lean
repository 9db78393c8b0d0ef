/- strings.IndexRune at a rune beyond ASCII, over the digits of base 16 (a rune that is valid). -/
import Derived.Test.YthncbkgklhbcjaaRuneA
import Derived.Deep.DeepCutAuto
import Derived.WalkMore
namespace Go.Proofs.Ythncbkgklhbcjaa
open Go.RowKit F256
set_option linter.unusedVariables false
set_option linter.unusedSimpArgs false

theorem hexT_index (n : Nat) (h : n < 16) (w : World) : (Instr.index 9 (.string hexT) (.int .i64 (n : Int))).run Try.prog w = .ok (.int .u8 ((hexD n).toNat : Int)) w := by
  rw [index_str hexT n (by rw [hexT_size]; exact h) w, ← strB_at hexT n (by rw [hexT_size]; exact h), hexT_at n h]
set_option maxHeartbeats 8000000 in
set_option maxRecDepth 100000 in
theorem rune_valid (r : Int) (h : 128 ≤ r) (hne : ¬ r = 65533) (hv : Lib.validRune r = true) (w : World) :
    Calls Try.prog 21 #[.string hexT, .int .i32 r] w fun e w' => e = .returned (.int .i64 (-1)) ∧ Below w.heap.size w w' := by
  have C := shutf8_ValidRune r
  obtain ⟨n, hn1, hn3, hsz, hlast⟩ : ∃ n, 1 ≤ n ∧ n ≤ 3 ∧ (Utf8.encode r).size = n + 1 ∧ 128 ≤ strB (Utf8.encode r) n := by
    have := enc_high r.toNat (by omega) (by rw [show ((r.toNat : Nat) : Int) = r by omega]; exact hv)
    rw [show ((r.toNat : Nat) : Int) = r by omega] at this
    exact this
  have h0 : 0 ≤ r := by omega
  have h1 : ¬ r < 128 := by omega
  rw [hv] at C
  clear hv h
  go_enter Try.func21, Try.ntmps21
  have HT : Hid (∀ k : Nat, ∀ x ∈ (hexT.extract (k + 1) hexT.size).data.toList, x.toNat < 128) := fun k x hx => by
    have hm : x ∈ hexT.data.toList := by
      simp at hx
      exact List.mem_of_mem_drop (List.mem_of_mem_take hx)
    rcases List.mem_iff_getElem.1 hm with ⟨i, hi, e⟩
    have := hexT_ascii i hi
    rw [← e]
    exact this
  go_wp2_with fail
  refine (C _).mono ?_
  rintro e w1 ⟨rfl, hw1⟩
  obtain rfl := hw1.symm
  have hS := hexT_size
  obtain ⟨R, hR⟩ : ∃ R, R = Utf8.encode r := ⟨_, rfl⟩
  rw [← hR] at hsz hlast
  have HR : Hid (R = Utf8.encode r) := hR
  have hcv : ∀ w', (convert 21 9 (.int .i32 r)).run Try.prog w' = .ok (.string R) w' := fun w' => by
    rw [hR]
    simp [go_sem]
  clear hR
  have I1 := hexT_index n (by omega)
  have I2 := index_str R n (by omega)
  have hx := hexD_ascii n (by omega)
  have hsl : ∀ w', (Instr.slice 9 (.string hexT) (some (.int .i64 ((n : Int) + 1))) none none).run Try.prog w' = .ok (.string (hexT.extract (n + 1) hexT.size)) w' := fun w' => by
    rw [run_slice_string_l w' 9 hexT Try.underlying9 .i64 ((n : Int) + 1) (by omega) (by rw [hexT_size]; omega)]
    rw [show ((n : Int) + 1).toNat = n + 1 by omega]
  obtain ⟨c, hc⟩ : ∃ c, c = strB R n := ⟨_, rfl⟩
  rw [← hc] at I2 hlast
  obtain ⟨d, hd⟩ : ∃ d, d = (hexD n).toNat := ⟨_, rfl⟩
  rw [← hd] at I1 hx
  have CI : ∀ w', Calls Try.prog 35 #[.string (hexT.extract (n + 1) hexT.size), .int .u8 (c : Int)] w' fun e w'' => e = .returned (.int .i64 (-1)) ∧ w'' = w' := fun w' => by
    have := shstrings_IndexByte (hexT.extract (n + 1) hexT.size) (c : Int) w'
    have hcl : c < 256 := by rw [hc]; exact strB_lt _ _
    rw [indexByte_not _ _ (HT.out n) (by simp; omega)] at this
    exact this
  obtain ⟨T, hT⟩ : ∃ T, T = hexT.extract (n + 1) hexT.size := ⟨_, rfl⟩
  rw [← hT] at CI hsl
  clear hc hd hT HT
  go_wp2_with fail
  go_step3
  go_wp2_with fail
  go_loopw [9] (fun i wr => i = .int .i64 (n : Int) ∧ wr = w) (fun i wr => 0)
  case atStart => exact ⟨rfl, rfl⟩
  case round =>
    obtain ⟨rfl, hwr⟩ := hrel
    obtain rfl := hwr.symm
    have hlt : (n : Int) < 16 := by omega
    have hdc : ¬ (d : Int) = (c : Int) := by omega
    go_wp2
    go_step3
    go_wp2
    go_quiet (fail)
    go_wp2
    go_quiet (exact (CI _).mono fun e w3 h3 => ⟨h3.1, _, h3.2⟩)
    go_wp2
    rw [Exit.noGoto_ret]
    repeat (show Exit.noGoto _ Exit.ret _ _; rw [Exit.noGoto_ret])
    show bodyPost Try.prog Try.f21 _ Exit.ret _ _
    go_ret
    exact ⟨rfl, below_drewN (Below.refl _ _) _⟩
/-- a rune beyond ASCII is no digit -/
theorem rune_none (r : Int) (h : 128 ≤ r) (w : World) :
    Calls Try.prog 21 #[.string hexT, .int .i32 r] w fun e w' => e = .returned (.int .i64 (-1)) ∧ Below w.heap.size w w' := by
  by_cases hne : r = 65533
  · subst hne
    exact rune_error w
  · cases hv : Lib.validRune r
    · exact rune_bad r h hne hv w
    · exact rune_valid r h hne hv w
theorem indexByte_hex : ∀ y : Nat, y < 128 → Lib.indexByte hexT.data.toList y.toUInt8 = digI y := by decide +kernel
/-- a byte that is ASCII: its digit, or none -/
theorem rune_ascii (y : Nat) (h : y < 128) (w : World) :
    Calls Try.prog 21 #[.string hexT, .int .i32 (y : Int)] w fun e w' => e = .returned (.int .i64 (digI y)) ∧ w' = w := by
  have := shstrings_IndexRune_ascii hexT (y : Int) w (by omega) (by omega)
  rw [show ((y : Int)).toNat.toUInt8 = y.toUInt8 from rfl, indexByte_hex y h] at this
  exact this
end Go.Proofs.Ythncbkgklhbcjaa
