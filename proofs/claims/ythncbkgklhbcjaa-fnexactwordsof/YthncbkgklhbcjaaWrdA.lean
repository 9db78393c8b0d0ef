/- Lists of texts that grow beside a text's iterator; runes of more than one byte. -/
import Derived.Test.YthncbkgklhbcjaaWrdP
import Derived.Test.YthncbkgklhbcjaaDigI
namespace Go.Proofs.Ythncbkgklhbcjaa
open Go.RowKit F256
set_option linter.unusedVariables false
set_option linter.unusedSimpArgs false

theorem OwnS.iterAt {w : World} {lo hi it p p' : Nat} {b : ByteArray} {v : Value} {n : Nat} {f : Nat → ByteArray} (h : OwnS w lo hi v n f) (hit : w.heap[it]? = some (.stringIter b p)) : OwnS (w.iterAt it b p') lo hi v n f := by
  refine ⟨⟨h.1.1, ?_⟩, h.2⟩
  rcases h.1.2 with hn | ⟨g, cap, cur, rfl, hbg, hgg, rest⟩
  · exact .inl hn
  · have hne : g ≠ it := fun e => by rw [e] at hgg; rw [hgg] at hit; cases hit
    exact .inr ⟨g, cap, cur, rfl, hbg, (Lib.iterAt_other _ _ _ _ _ hne).trans hgg, rest⟩
theorem OwnS.not_it {w : World} {lo hi it p : Nat} {b : ByteArray} {v : Value} {n : Nat} {f : Nat → ByteArray} (h : OwnS w lo hi v n f) (hit : w.heap[it]? = some (.stringIter b p)) : v.ownBlock ≠ some it := by
  intro e
  rcases h.1.2 with ⟨rfl, rfl⟩ | ⟨g, cap, cur, rfl, hbg, hgg, rest⟩
  · cases e
  · obtain rfl : g = it := by cases e; rfl
    rw [hgg] at hit
    cases hit
/-- append(v, x), and what else is as it was -/
theorem run_appendS_at (w : World) (ty : TypeId) (lo hi : Nat) (v : Value) (n : Nat) (f : Nat → ByteArray) (hown : OwnS w lo hi v n f) (b c : Nat) (hcell : w.cell? ⟨b, 0, none⟩ = some (.string (f n))) (hn : n + 1 ≤ 1000000000) (hlo : lo ≤ w.heap.size) :
    ∃ v' w', (Builtin.append_ #[29, 29] ty #[v, .slice (some ⟨b, 0, none⟩) 1 c]).run Try.prog w = .ok v' w' ∧ OwnS w' lo w'.heap.size v' (n + 1) f ∧ Below lo w w' ∧ ∀ k, k < w.heap.size → v.ownBlock ≠ some k → w'.heap[k]? = w.heap[k]? := by
  obtain ⟨i0, hi0, hz0, hz1, hz2⟩ := info_parts info_str
  obtain ⟨v', w', hr, h2, h3, _⟩ := run_append_own (P := Try.prog) w lo 29 ty 9 i0 (.string ByteArray.empty) 1 16 Try.underlying29 hi0 hz0 hz1 hz2 rfl (by decide) v n (strsOf n f) hown.1 ⟨b, 0, none⟩ 1 c [.string (f n)] rfl
    (fun j u hj => by
      match j, hj with
      | 0, hj => simp at hj; subst hj; simpa [Addr.add] using hcell)
    (fun u hu => by simp at hu; subst hu; rfl) (by unfold maxLen; omega) (by omega) hlo
  rw [strsOf_snoc] at h2
  exact ⟨v', w', hr, ⟨h2, fun k hk => (h2.lt k hk).2⟩, (Below.refl _ _).grown h3 hlo (fun k hk => (hown.1.lt k hk).1), fun k hk hne => h3.block k hk (fun e => hne e.symm)⟩
theorem wp_appendS_at {ops : Array Oper} {rest : List Oper} {o : Oper} {a : Act} {w : World} {Q : Exit → Act → World → Prop}
    (hg : o.guard = none) (s x : Operand) (hop : o.op = Op.call { callee := Callee.builtin Builtin.append, args := #[s, x], argTypes := #[29, 29] })
    (lo hi : Nat) (v : Value) (n : Nat) (f : Nat → ByteArray) (hs : a.eval s = v) (hown : OwnS w lo hi v n f) (b c : Nat) (hx : a.eval x = .slice (some ⟨b, 0, none⟩) 1 c) (hcell : w.cell? ⟨b, 0, none⟩ = some (.string (f n)))
    (hn : n + 1 ≤ 1000000000) (hlo : lo ≤ w.heap.size)
    (hK : ∀ v' w', OwnS w' lo w'.heap.size v' (n + 1) f → Below lo w w' → (∀ k, k < w.heap.size → v.ownBlock ≠ some k → w'.heap[k]? = w.heap[k]?) → wpList Try.prog ops Q rest (a.put o.dst v') w') : wpList Try.prog ops Q (o :: rest) a w := by
  refine wpList_plain hg fun K hK' => ?_
  obtain ⟨v', w', hrun, r1, r2, r3⟩ := run_appendS_at w o.type lo hi v n f hown b c hcell hn hlo
  unfold Oper.wp
  simp [execOp, hop, resolve, invoke, builtin, hs, hx, hrun, Result.andThen]
  exact hK' _ _ (hK v' w' r1 r2 r3)

theorem get_strB (s : ByteArray) (i : Nat) (h : i < s.size) : (s.get! i).toNat = strB s i := by
  rw [← strB_at s i h]
  show (s.data[i]!).toNat = _
  rw [getElem!_pos s.data i h]
  rfl
/-- a rune that is not ASCII: its bytes are none of them blank -/
theorem decode_wide (s : ByteArray) (i : Nat) (h : i < s.size) (hb : 128 ≤ strB s i) : 128 ≤ (Utf8.decode s i).1 ∧ 1 ≤ (Utf8.decode s i).2 ∧ i + (Utf8.decode s i).2 ≤ s.size ∧ ∀ k, k < (Utf8.decode s i).2 → strB s (i + k) ≠ 32 := by
  have hc : ∀ k, (decide (i + k < s.size) && (s.get! (i + k)).toNat / 64 == 2) = true → i + k < s.size ∧ strB s (i + k) ≠ 32 := fun k hk => by
    simp only [Bool.and_eq_true, decide_eq_true_eq, beq_iff_eq] at hk
    rw [get_strB s _ hk.1] at hk
    exact ⟨hk.1, by omega⟩
  have h0 : (s.get! (i + 0)).toNat = strB s i := get_strB s i h
  have hone : ∀ k, k < 1 → strB s (i + k) ≠ 32 := fun k hk => by rw [show k = 0 by omega]; show strB s i ≠ 32; omega
  unfold Utf8.decode
  simp only [h0]
  rw [if_neg (by omega)]
  split
  · rename_i hw
    rw [Bool.and_eq_true] at hw
    have h1 := hc 1 hw.2
    split
    · rename_i hcc
      refine ⟨hcc, by show 1 ≤ 2; omega, by show i + 2 ≤ s.size; omega, fun k hk => ?_⟩
      have hk2 : k < 2 := hk
      rcases (show k = 0 ∨ k = 1 by omega) with rfl | rfl
      · exact hone 0 (by omega)
      · exact h1.2
    · exact ⟨by show 128 ≤ Utf8.runeError; decide, Nat.le_refl _, h, hone⟩
  · split
    · rename_i hw
      simp only [Bool.and_eq_true] at hw
      have h1 := hc 1 (by simpa using hw.1.2)
      have h2 := hc 2 (by simpa using hw.2)
      split
      · rename_i hcc
        refine ⟨by simp only [Bool.and_eq_true, decide_eq_true_eq] at hcc; have := hcc.1; show 128 ≤ _; omega, by show 1 ≤ 3; omega, by show i + 3 ≤ s.size; omega, fun k hk => ?_⟩
        have hk2 : k < 3 := hk
        rcases (show k = 0 ∨ k = 1 ∨ k = 2 by omega) with rfl | rfl | rfl
        · exact hone 0 (by omega)
        · exact h1.2
        · exact h2.2
      · exact ⟨by show 128 ≤ Utf8.runeError; decide, Nat.le_refl _, h, hone⟩
    · split
      · rename_i hw
        simp only [Bool.and_eq_true] at hw
        have h1 := hc 1 (by simpa using hw.1.1.2)
        have h2 := hc 2 (by simpa using hw.1.2)
        have h3 := hc 3 (by simpa using hw.2)
        split
        · rename_i hcc
          refine ⟨by simp only [Bool.and_eq_true, decide_eq_true_eq] at hcc; have := hcc.1; show 128 ≤ _; omega, by show 1 ≤ 4; omega, by show i + 4 ≤ s.size; omega, fun k hk => ?_⟩
          have hk2 : k < 4 := hk
          rcases (show k = 0 ∨ k = 1 ∨ k = 2 ∨ k = 3 by omega) with rfl | rfl | rfl | rfl
          · exact hone 0 (by omega)
          · exact h1.2
          · exact h2.2
          · exact h3.2
        · exact ⟨by show 128 ≤ Utf8.runeError; decide, Nat.le_refl _, h, hone⟩
      · exact ⟨by show 128 ≤ Utf8.runeError; decide, Nat.le_refl _, h, hone⟩
end Go.Proofs.Ythncbkgklhbcjaa
