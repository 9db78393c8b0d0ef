/- The walk of the program's BytesOfHex. -/
import Derived.Test.YthncbkgklhbcjaaRuneB
import Derived.Test.YthncbkgklhbcjaaDigS
namespace Go.Proofs.Ythncbkgklhbcjaa
open Go.RowKit F256
set_option linter.unusedVariables false
set_option linter.unusedSimpArgs false

/-- the bytes when so many signs have been read -/
def prt (b : ByteArray) (p i : Nat) : Nat := if 2 * i + 2 ≤ p then hexV b i else if 2 * i + 1 = p then dgt (strB b (2 * i)) else 0
theorem prt_step (b : ByteArray) (p : Nat) (i : Nat) : prt b (p + 1) i = if i = p / 2 then 16 * prt b p (p / 2) + dgt (strB b p) else prt b p i := by
  unfold prt hexV
  by_cases e : i = p / 2
  · subst e
    rw [if_pos rfl]
    rcases Nat.mod_two_eq_zero_or_one p with h | h
    · rw [if_neg (by omega), if_pos (by omega), if_neg (by omega), if_neg (by omega), show 2 * (p / 2) = p by omega]
      omega
    · rw [if_pos (by omega), if_neg (by omega), if_pos (by omega), show 2 * (p / 2) + 1 = p by omega]
  · rw [if_neg e]
    by_cases h1 : 2 * i + 2 ≤ p
    · rw [if_pos (by omega), if_pos h1]
    · rw [if_neg (by omega), if_neg h1, if_neg (by omega), if_neg (by omega)]
theorem prt_lt (b : ByteArray) (p : Nat) (hA : AllD b p) (h : 2 * (p / 2) ≤ p) : prt b p (p / 2) < 16 := by
  unfold prt
  rw [if_neg (by omega)]
  split
  · exact hA _ (by omega)
  · omega
theorem prt_end (b : ByteArray) (i : Nat) (h : i < b.size / 2) : prt b b.size i = hexV b i := by unfold prt; rw [if_pos (by omega)]
theorem or_dig : ∀ x : Nat, x < 16 → ∀ d : Nat, d < 16 → bits BinOp.or IntKind.u8 ((x : Int) * 16) (d : Int) = ((16 * x + d : Nat) : Int) := by decide +kernel
theorem iterPos_of {w : World} {k p : Nat} {s : ByteArray} (h : w.heap[k]? = some (.stringIter s p)) : w.iterPos k = p := by unfold World.iterPos; rw [h]
theorem dgt_high {y : Nat} (h : 128 ≤ y) : ¬ dgt y < 16 := by unfold dgt; rw [if_neg (by omega), if_neg (by omega)]; omega

set_option maxHeartbeats 4000000 in
theorem implBoh_many (b : ByteArray) (h : 80 < b.size) (hb : b.size ≤ 1048576) (f : Nat → Nat) (w : World) :
    Calls Try.prog 7 #[.string b] w fun e w' => ∃ v', e = .returned (bytesR 2 v') ∧ Own w' w.heap.size w'.heap.size v' 0 f ∧ Below w.heap.size w w' := by
  go_enter Try.func7, Try.ntmps7
  go_wp2
  exact bodyPost_ret (v := bytesR 2 (.slice none 0 0)) (by simp [results, Try.results7, go_sem, bytesR]) rfl ⟨_, rfl, own_nil _ _ _ _, (Below.refl _ _).alloc (Nat.le_refl _) _⟩

set_option maxHeartbeats 4000000 in
theorem implBoh_odd (b : ByteArray) (h : b.size ≤ 80) (ho : b.size % 2 = 1) (f : Nat → Nat) (w : World) :
    Calls Try.prog 7 #[.string b] w fun e w' => ∃ v', e = .returned (bytesR 5 v') ∧ Own w' w.heap.size w'.heap.size v' 0 f ∧ Below w.heap.size w w' := by
  have t1 : decide ((80 : Int) < (b.size : Int)) = false := by simp; omega
  have t2 : ((b.size : Int) % 2) = 1 := by omega
  go_enter Try.func7, Try.ntmps7
  go_wp2
  exact bodyPost_ret (v := bytesR 5 (.slice none 0 0)) (by simp [results, Try.results7, go_sem, bytesR]) rfl ⟨_, rfl, own_nil _ _ _ _, (Below.refl _ _).alloc (Nat.le_refl _) _⟩

set_option maxHeartbeats 8000000 in
theorem implBoh_even (b : ByteArray) (h : b.size ≤ 80) (ho : b.size % 2 = 0) (w : World) :
    Calls Try.prog 7 #[.string b] w (BohP b w) := by
  have t1 : decide ((80 : Int) < (b.size : Int)) = false := by simp; omega
  have t2 : ((b.size : Int) % 2) = 0 := by omega
  have HO : Hid (b.size % 2 = 0) := ho
  obtain ⟨n, hn⟩ : ∃ n, n = b.size / 2 := ⟨_, rfl⟩
  have t3 : ((b.size : Int) / 2) = (n : Int) := by omega
  have HN : Hid (b.size = 2 * n) := by show b.size = 2 * n; omega
  clear ho hn
  go_enter Try.func7, Try.ntmps7
  go_wp2_with (at_make; refine wp_makeB _ rfl _ _ rfl _ _ n rfl rfl ?m1 ?m2 (by have := HN.out; omega) ?_)
  case m1 => first | rfl | omega
  case m2 => first | rfl | omega
  intro w1 hown1 hb1 hz1
  have hown2 : Own w1 (w.heap.size + 1) w1.heap.size (.slice (some ⟨w.heap.size + 1, 0, none⟩) n n) n (fun _ => 0) := by simpa using hown1
  have hz2 : w.heap.size + 1 < w1.heap.size := by simpa using hz1
  have hbr1 : Box w1 w.heap.size #[.int .i64 0, .slice none 0 0] 24 := (box_new w _ _).below hb1 (by simp)
  have hB1 : Below w.heap.size w w1 := ((Below.refl w.heap.size w).alloc (Nat.le_refl _) _).trans (hb1.mono (Nat.le_succ _))
  clear hown1 hz1 hb1 t2 t3
  go_wp2
  go_loopw [4] (fun _ wr => ∃ p : Nat, p ≤ b.size ∧ wr.heap[w1.heap.size]? = some (.stringIter b p) ∧ Hid (AllD b p) ∧ Own wr (w.heap.size + 1) w1.heap.size (.slice (some ⟨w.heap.size + 1, 0, none⟩) n n) n (prt b p) ∧ Box wr w.heap.size #[.int .i64 0, .slice none 0 0] 24 ∧ Below w.heap.size w wr) (fun _ wr => b.size - wr.iterPos w1.heap.size)
  case atStart =>
    refine ⟨0, Nat.zero_le _, World.iter_heap w1 b 0, (show AllD b 0 from fun i hi => by omega), ?_, (Below.heap_alloc w1 _ _ (by omega)).trans hbr1, hB1.alloc hB1.size _⟩
    exact (hown2.alloc _).congr fun i _ => by unfold prt; rw [if_neg (by omega), if_neg (by omega)]
  case round =>
    obtain ⟨p, hp, hit, hA, hown, hbr, hB⟩ := hrel
    obtain ⟨d0, d1, y0, y1⟩ := res_cells hbr
    clear hown2 hbr1 hB1
    by_cases hlt : p < b.size
    · have move : ∀ p', ∃ w2, w2 = wr.iterAt w1.heap.size b p' ∧ w2.heap[w1.heap.size]? = some (.stringIter b p') ∧ Own w2 (w.heap.size + 1) w1.heap.size (.slice (some ⟨w.heap.size + 1, 0, none⟩) n n) n (prt b p) ∧ Box w2 w.heap.size #[.int .i64 0, .slice none 0 0] 24 ∧ Below w.heap.size w w2 := fun p' => by
        have o : Out w1.heap.size (w1.heap.size + 1) wr (wr.iterAt w1.heap.size b p') := ⟨rfl, rfl, rfl, Lib.iterAt_size _ _ _ _, fun k hk => Lib.iterAt_other _ _ _ _ _ (by omega)⟩
        exact ⟨_, rfl, Lib.iterAt_heap _ _ _ _ _ hit, hown.out o (.inl (Nat.le_refl _)), (o.block _ (.inl (by omega))).trans hbr, hB.trans (o.below.mono (by omega))⟩
      by_cases hy : strB b p < 128
      · obtain ⟨w2, hw2, it2, own2, br2, B2⟩ := move (p + 1)
        have hnx := fun ty => Lib.run_next_ascii_at (P := Try.prog) wr w1.heap.size b p ty hit hlt (by rw [strB_at]; exact hy)
        rw [strB_at, ← hw2] at hnx
        have hit' := hit
        have C := rune_ascii (strB b p) hy
        clear move hw2 hit hown hbr hB d0 d1 y0 y1
        obtain ⟨d0, d1, y0, y1⟩ := res_cells br2
        by_cases g : dgt (strB b p) < 16
        · rw [digI_pos g] at C
          have hx16 := prt_lt b p hA.out (by omega)
          have hpn : p / 2 < n := by have := HN.out; omega
          have hci : w2.cell? ⟨w.heap.size + 1, p / 2, none⟩ = some (.int .u8 (prt b p (p / 2))) := by
            have := own2.1.cellAt (p / 2) (by omega)
            rw [this, cellsOf_get _ _ _ hpn]
          have hfo : w2.frozen? ⟨w.heap.size + 1, p / 2, none⟩ = false := own2.1.frozenAt (p / 2)
          have ps : ∀ i, i < n → prt b (p + 1) i = if i = p / 2 then 16 * prt b p (p / 2) + dgt (strB b p) else prt b p i := fun i _ => prt_step b p i
          have R := own2.store (p / 2) (16 * prt b p (p / 2) + dgt (strB b p)) hpn ps
          have R2 := out_store w2 (w.heap.size + 1) (w.heap.size + 2) (w.heap.size + 1) (p / 2) (.int .u8 ((16 * prt b p (p / 2) + dgt (strB b p) : Nat) : Int)) (Nat.le_refl _) (by omega)
          have HA : Hid (AllD b (p + 1)) := fun i hi => by
            rcases Nat.lt_or_ge i p with h | h
            · exact hA.out i h
            · rw [show i = p by omega]; exact g
          obtain ⟨x, hx⟩ : ∃ x, x = prt b p (p / 2) := ⟨_, rfl⟩
          obtain ⟨d, hd⟩ : ∃ d, d = dgt (strB b p) := ⟨_, rfl⟩
          rw [← hd] at C g R R2
          rw [← hx] at hci hx16 R R2
          have hor := or_dig x hx16 d g
          have it3 : (w2.setCell ⟨w.heap.size + 1, p / 2, none⟩ (.int .u8 ((16 * x + d : Nat) : Int))).heap[w1.heap.size]? = some (.stringIter b (p + 1)) := (R2.block _ (.inr (by omega))).trans it2
          have br3 : Box (w2.setCell ⟨w.heap.size + 1, p / 2, none⟩ (.int .u8 ((16 * x + d : Nat) : Int))) w.heap.size #[.int .i64 0, .slice none 0 0] 24 := (R2.block _ (.inl (by omega))).trans br2
          have B3 : Below w.heap.size w (w2.setCell ⟨w.heap.size + 1, p / 2, none⟩ (.int .u8 ((16 * x + d : Nat) : Int))) := B2.trans (R2.below.mono (by omega))
          have HI : Hid (wr.iterPos w1.heap.size = p) := iterPos_of hit'
          clear hx hd ps hit'
          go_wp2_with fail
          refine (C _).mono ?_
          rintro e w3 ⟨rfl, hw3⟩
          obtain rfl := hw3.symm
          go_wp2
          try rw [show (16 * (x : Int) + (d : Int)) = ((16 * x + d : Nat) : Int) by omega]
          refine ⟨⟨p + 1, by omega, it3, HA, R, br3, B3⟩, ?_⟩
          rw [iterPos_of it3, HI.out]
          omega
        · rw [digI_neg g] at C
          have HNA : Hid (¬ AllD b b.size) := fun hall => g (hall _ hlt)
          clear hA g hit'
          go_wp2_with fail
          refine (C _).mono ?_
          rintro e w3 ⟨rfl, hw3⟩
          obtain rfl := hw3.symm
          go_wp2
          refine bodyPost_ret (v := bytesR 5 (.slice none 0 0)) (by simp [results, Try.results7, go_sem, bytesR, d0, d1]) rfl (.inr ⟨HNA.out, _, rfl, own_nil _ _ _ _, (B2.setCell (Nat.le_refl _) _).setCell (Nat.le_refl _) _⟩)
      · have hd8 := decode_high b p hlt (by rw [strB_at]; omega)
        obtain ⟨w2, hw2, it2, own2, br2, B2⟩ := move (p + (Utf8.decode b p).2)
        have hnx := fun ty => Lib.run_next_any_at (P := Try.prog) wr w1.heap.size b p ty hit hlt
        rw [← hw2] at hnx
        have HNA : Hid (¬ AllD b b.size) := fun hall => dgt_high (by omega) (hall _ hlt)
        obtain ⟨r, hr⟩ : ∃ r, r = (Utf8.decode b p).1 := ⟨_, rfl⟩
        rw [← hr] at hnx hd8
        have hr8 : (128 : Int) ≤ (r : Int) := by omega
        clear move hw2 hit hown hbr hB d0 d1 y0 y1 hr hd8 hA
        go_wp2_with fail
        refine (rune_none (r : Int) hr8 _).mono ?_
        rintro e w3 ⟨rfl, b3⟩
        obtain ⟨d0, d1, y0, y1⟩ := res_cells (br2.below b3 (by have := br2.lt; exact this))
        have B3 : Below w.heap.size w w3 := B2.trans (b3.mono B2.size)
        go_wp2
        refine bodyPost_ret (v := bytesR 5 (.slice none 0 0)) (by simp [results, Try.results7, go_sem, bytesR, d0, d1]) rfl (.inr ⟨HNA.out, _, rfl, own_nil _ _ _ _, (B3.setCell (Nat.le_refl _) _).setCell (Nat.le_refl _) _⟩)
    · have hpe : p = b.size := by omega
      have hnx := fun ty => Lib.run_next_end_at (P := Try.prog) wr w1.heap.size b p ty hit hlt
      have HAA : Hid (AllD b b.size) := by show AllD b b.size; rw [← hpe]; exact hA.out
      have ownE : Own wr (w.heap.size + 1) w1.heap.size (.slice (some ⟨w.heap.size + 1, 0, none⟩) n n) n (hexV b) := hown.congr fun i hi => by rw [hpe]; exact prt_end b i (by have := HN.out; omega)
      have HK : Hid (b.size / 2 = n) := by show b.size / 2 = n; have := HN.out; omega
      have hzz : w1.heap.size ≤ wr.heap.size := by have := (Array.getElem?_eq_some_iff.1 hit).1; omega
      clear hpe hown hA
      go_wp2
      refine bodyPost_ret (v := bytesR 0 (.slice (some ⟨w.heap.size + 1, 0, none⟩) n n)) (by simp [results, Try.results7, go_sem, bytesR, d0, d1]) rfl (.inl ⟨HAA.out, _, rfl, ?_, (hB.setCell (Nat.le_refl _) _).setCell (Nat.le_refl _) _⟩)
      have o1 := out_store wr w.heap.size (w.heap.size + 1) w.heap.size 0 (.int .i64 0) (Nat.le_refl _) (by omega)
      have o2 := out_store (wr.setCell ⟨w.heap.size, 0, none⟩ (.int .i64 0)) w.heap.size (w.heap.size + 1) w.heap.size 1 (.slice (some ⟨w.heap.size + 1, 0, none⟩) n n) (Nat.le_refl _) (by omega)
      rw [HK.out]
      exact (ownE.out (o1.trans o2) (.inr (by omega))).weaken (by omega) (by rw [(o1.trans o2).size]; exact hzz)
end Go.Proofs.Ythncbkgklhbcjaa
