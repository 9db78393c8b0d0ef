/- Walks of the laws' helpers over slices of slices of bytes: a copy, a comparison, a marking, a measure. -/
import Derived.Test.YtdnankopblkblakOwnM
import Derived.Deep.RegionLaw
namespace Go.Proofs.Ytdnankopblkblak
open Go.RowKit F256
set_option linter.unusedVariables false
set_option linter.unusedSimpArgs false

/-- make([][]byte, n) -/
theorem wp_makeM (w : World) {ops : Array Oper} {rest : List Oper} {o : Oper} {a : Act} {Q : Exit → Act → World → Prop}
    (hg : o.guard = none) (l c : Operand) (hop : o.op = Op.makeSlice 34 l c) (L C : Int) (n : Nat) (hl : a.eval l = .int .i64 L) (hc : a.eval c = .int .i64 C) (hL : L = (n : Int)) (hC : C = (n : Int)) (hn : n ≤ 1000000000)
    (hK : ∀ w', w'.ownsRow w.heap.size 33 1 (.slice (some ⟨w.heap.size, 0, none⟩) n n) n (valsOf n fun _ => nilS) → Below w.heap.size w w' → w.heap.size < w'.heap.size → wpList Try.prog ops Q rest (a.put o.dst (.slice (some ⟨w.heap.size, 0, none⟩) n n)) w') :
    wpList Try.prog ops Q (o :: rest) a w := by
  obtain ⟨i0, hi0, hz0, hz1, hz2⟩ := info_parts info_sl
  refine wpList_make_full w hg l c 34 hop w.heap.size 33 i0 nilS 1 Try.underlying34 hi0 hz0 hz1 .i64 .i64 L C n hl hc hL hC (by rw [hz2]; omega) (by unfold maxLen; omega) (Nat.le_refl _) ?_
  intro w' hown hgrow
  have hown' : w'.ownsRow w.heap.size 33 1 (.slice (some ⟨w.heap.size, 0, none⟩) n n) n (valsOf n fun _ => nilS) := by
    rw [← valsOf_made n]
    have e : (madeCells nilS.cells (n * 1)).toList = (madeCells #[nilS] n).toList := by rw [Nat.mul_one]; rfl
    rw [← e]
    exact hown
  exact hK w' hown' (below_of_grown hgrow) (hown'.lt _ rfl).2

/-- a copy of rows on the way: the first k are made -/
structure Cpy (w wr : World) (R k : Nat) (n : Nat → Nat) (f : Nat → Nat → Nat) (e : Nat → Value) : Prop where
  row : wr.ownsRow w.heap.size 33 1 (.slice (some ⟨w.heap.size, 0, none⟩) R R) R (valsOf R fun i => if i < k then e i else nilS)
  each : ∀ i, i < k → Own wr (w.heap.size + 1) wr.heap.size (e i) (n i) (f i)
  apart : Apart w.heap.size k e
  bel : Below w.heap.size w wr
  lt : w.heap.size < wr.heap.size
theorem Cpy.next {w wr w2 : World} {R k : Nat} {n : Nat → Nat} {f : Nat → Nat → Nat} {e : Nat → Value} {ao : Option Addr} {cap : Nat} (h : Cpy w wr R k n f e) (hk : k < R) (hb : Below wr.heap.size wr w2) (ho : Own w2 wr.heap.size w2.heap.size (.slice ao (n k) cap) (n k) (f k)) :
    Cpy w (w2.setCell ⟨w.heap.size, k, none⟩ (.slice ao (n k) cap)) R (k + 1) n f (fun i => if i = k then .slice ao (n k) cap else e i) := by
  have l := h.lt
  have hr2 : w2.ownsRow w.heap.size 33 1 (.slice (some ⟨w.heap.size, 0, none⟩) R R) R (valsOf R fun i => if i < k then e i else nilS) :=
    row_kept h.row fun g hg => hb.block g (by simp [Value.ownBlock] at hg; omega)
  have hst := (hr2.stored k (.slice ao (n k) cap)).1
  rw [valsOf_set R _ (fun i => if i < k + 1 then (if i = k then .slice ao (n k) cap else e i) else nilS) k _ hk (fun i hi => by
    by_cases c : i = k
    · subst c; simp
    · by_cases c' : i < k
      · have c2 : i < k + 1 := by omega
        simp [c, c', c2]
      · have c2 : ¬ i < k + 1 := by omega
        simp [c, c', c2])] at hst
  have oth : ∀ g, w.heap.size + 1 ≤ g → (w2.setCell ⟨w.heap.size, k, none⟩ (.slice ao (n k) cap)).heap[g]? = w2.heap[g]? := fun g hg => heap_setCell_other w2 ⟨w.heap.size, k, none⟩ g _ (by show g ≠ w.heap.size; omega)
  have hsz : (w2.setCell ⟨w.heap.size, k, none⟩ (.slice ao (n k) cap)).heap.size = w2.heap.size := by simp
  have hs2 := hb.size
  refine ⟨hst, fun i hi => ?_, ⟨fun i hi => ?_, fun i j hi hj hij b hbi => ?_⟩, (h.bel.trans (hb.mono (by omega))).setCell (Nat.le_refl _) _, by rw [hsz]; omega⟩
  · by_cases c : i = k
    · subst c
      simp only [if_pos]
      exact (ho.kept fun g hg => oth g (by have := (ho.1.lt g hg).1; omega)).weaken (by omega) (Nat.le_of_eq hsz.symm)
    · simp only [if_neg c]
      have h1 := (h.each i (by omega)).below hb (Nat.le_refl _)
      exact (h1.kept fun g hg => oth g (h1.1.lt g hg).1).weaken (Nat.le_refl _) (by rw [hsz]; exact hs2)
  · by_cases c : i = k
    · subst c
      simp only [if_pos]
      intro hh
      have := (ho.1.lt _ hh).1
      omega
    · simp only [if_neg c]
      exact h.apart.1 i (by omega)
  · by_cases c : i = k
    · subst c
      simp only [if_pos] at hbi
      have c2 : ¬ j = i := fun x => hij x.symm
      simp only [if_neg c2]
      intro hh
      have h1 := (ho.1.lt _ hbi).1
      have h2 := (h.each j (by omega)).2 _ hh
      omega
    · simp only [if_neg c] at hbi
      by_cases c2 : j = k
      · subst c2
        simp only [if_pos]
        intro hh
        have h1 := (ho.1.lt _ hh).1
        have h2 := (h.each i (by omega)).2 _ hbi
        omega
      · simp only [if_neg c2]
        exact h.apart.2 i j (by omega) (by omega) hij b hbi
theorem Cpy.done {w wr : World} {R : Nat} {n : Nat → Nat} {f : Nat → Nat → Nat} {e : Nat → Value} (h : Cpy w wr R R n f e) : OwnM wr w.heap.size wr.heap.size (.slice (some ⟨w.heap.size, 0, none⟩) R R) R n f := by
  have hr := h.row
  rw [valsOf_eq (g := e) (fun i hi => by simp [hi])] at hr
  exact ⟨w.heap.size, R, e, rfl, Nat.le_refl _, h.lt, hr, fun i hi => (h.each i hi).weaken (by omega) (Nat.le_refl _), h.apart⟩

set_option maxHeartbeats 1000000 in
theorem toByteSS_any (v : Value) (R : Nat) (n : Nat → Nat) (f : Nat → Nat → Nat) (hi : Nat) (w : World) (h : RdM w hi v R n f) (hhi : hi ≤ w.heap.size) (hR : R ≤ 1000000000) (hn : ∀ i, i < R → n i ≤ 1000000000) :
    Calls Try.prog 24 #[v] w fun e w' => ∃ v', e = .returned v' ∧ OwnM w' w.heap.size w'.heap.size v' R n f ∧ Below w.heap.size w w' := by
  obtain ⟨ao, cap, e, rfl, hm, hc, he⟩ := h
  go_enter Try.func24, Try.ntmps24
  go_wp2_with (at_make; refine wp_makeM _ rfl _ _ rfl _ _ R rfl rfl rfl rfl hR ?_; intro w1 hown1 hb1 hz1)
  go_loopw [4] (fun i wr => ∃ k : Nat, k ≤ R ∧ i = .int .i64 k ∧ ∃ e', Cpy w wr R k n f e') (fun i _ => R - (intOf i).toNat)
  case atStart => exact ⟨0, Nat.zero_le _, rfl, fun _ => nilS, by rw [valsOf_eq (g := fun _ => nilS) (fun i hi => by simp)]; exact hown1, fun i hi => by omega, ⟨fun i hi => by omega, fun i j hi => by omega⟩, hb1, hz1⟩
  case round =>
    clear hown1 hb1 hz1
    obtain ⟨k, hk, rfl, e', hcp⟩ := hrel
    by_cases hlt : k < R
    · obtain ⟨b, off, rfl, hblt, hcell⟩ := hc (by omega)
      have hrk := (he k hlt).below hcp.bel hhi
      have hck : wr.cell? ⟨b, off + k, none⟩ = some (e k) := (hcp.bel.cell (p := ⟨b, off + k, none⟩) (by show b < w.heap.size; omega)).trans (hcell k hlt)
      have C := toByteS_any (e k) (n k) (f k) hi wr hrk (Nat.le_trans hhi hcp.bel.size) (by have := hn k hlt; omega)
      obtain ⟨ek, hek⟩ : ∃ x, x = e k := ⟨_, rfl⟩
      rw [← hek] at hck C
      obtain ⟨ao2, cap2, hsl, hmm, hcc⟩ := hrk
      rw [← hek] at hsl
      subst hsl
      have hl := hcp.lt
      clear hc hcell hcc hn he hek
      go_wp2_with fail
      refine C.mono ?_
      rintro ee w2 ⟨v2, rfl, ho2, hb2⟩
      obtain ⟨ao3, cap3, rfl⟩ := ho2.slice
      have q1 : w2.cell? ⟨w.heap.size, k, none⟩ = some nilS := by
        rw [hb2.cell (p := ⟨w.heap.size, k, none⟩) hl, hcp.row.cellAt k (by omega), valsOf_get _ _ _ hlt, if_neg (Nat.lt_irrefl k)]
      have q2 : w2.frozen? ⟨w.heap.size, k, none⟩ = false := (hb2.frozen (p := ⟨w.heap.size, k, none⟩) hl).trans (hcp.row.frozenAt k)
      go_wp2
      have N := hcp.next hlt hb2 ho2
      clear hcp hb2 ho2 q1 q2
      go_roundw
      case rel => exact ⟨k + 1, by omega, by go_num, _, N⟩
      case measure => simp [intOf]; omega
    · have hkn : k = R := by omega
      subst hkn
      go_wp2
      go_ret
      exact ⟨_, rfl, hcp.done, hcp.bel⟩

set_option maxHeartbeats 1000000 in
theorem eqByteSS_same (v1 v2 : Value) (R : Nat) (n : Nat → Nat) (f : Nat → Nat → Nat) (h1 h2 : Nat) (w : World) (r1 : RdM w h1 v1 R n f) (r2 : RdM w h2 v2 R n f) (hh1 : h1 ≤ w.heap.size) (hh2 : h2 ≤ w.heap.size) :
    Calls Try.prog 27 #[v1, v2] w fun e w' => e = .returned (.bool true) ∧ Below w.heap.size w w' := by
  obtain ⟨ao, cap, e, rfl, hm, hc, he⟩ := r1
  obtain ⟨ao2, cap2, e2, rfl, hm2, hc2, he2⟩ := r2
  unfold maxLen at hm
  go_enter Try.func27, Try.ntmps27
  go_wp2
  go_loopw [5] (fun i wr => ∃ k : Nat, k ≤ R ∧ i = .int .i64 k ∧ Below w.heap.size w wr) (fun i _ => R - (intOf i).toNat)
  case atStart => exact ⟨0, Nat.zero_le _, rfl, Below.refl _ _⟩
  case round =>
    obtain ⟨k, hk, rfl, hb⟩ := hrel
    by_cases hlt : k < R
    · obtain ⟨b, off, rfl, hblt, hcell⟩ := hc (by omega)
      obtain ⟨b2, off2, rfl, hblt2, hcell2⟩ := hc2 (by omega)
      have hck : wr.cell? ⟨b, off + k, none⟩ = some (e k) := (hb.cell (p := ⟨b, off + k, none⟩) (by show b < w.heap.size; omega)).trans (hcell k hlt)
      have hck2 : wr.cell? ⟨b2, off2 + k, none⟩ = some (e2 k) := (hb.cell (p := ⟨b2, off2 + k, none⟩) (by show b2 < w.heap.size; omega)).trans (hcell2 k hlt)
      have C : ∀ m, Calls Try.prog 18 #[e k, e2 k] (wr.drewN m) fun e w' => e = .returned (.bool true) ∧ Below (wr.drewN m).heap.size (wr.drewN m) w' := fun m => eqByteS_same (e k) (e2 k) (n k) (f k) h1 h2 (wr.drewN m) ((he k hlt).below (below_drewN hb m) hh1) ((he2 k hlt).below (below_drewN hb m) hh2)
      have C1 := C 1
      obtain ⟨x, hx⟩ : ∃ x, x = e k := ⟨_, rfl⟩
      obtain ⟨x2, hx2⟩ : ∃ x, x = e2 k := ⟨_, rfl⟩
      rw [← hx] at hck C1
      rw [← hx2] at hck2 C1
      clear hc hc2 hcell hcell2 he he2 hx hx2 C
      go_wp2
      go_region_with (go_at_call 18; refine C1.mono ?_; rintro ee w2 ⟨rfl, hb2⟩)
      all_goals
        have R' : Below w.heap.size w w2 := hb.trans ((below_drewN (Below.refl wr.heap.size wr) 1).trans hb2 |>.mono hb.size)
        clear hb2
        go_wp2
        go_roundw
        case rel => exact ⟨k + 1, by omega, by go_num, R'⟩
        case measure => simp [intOf]; omega
    · have hkn : k = R := by omega
      subst hkn
      go_wp2
      go_ret
      exact ⟨rfl, hb⟩

set_option maxHeartbeats 1000000 in
theorem markByteSS_any (v : Value) (R : Nat) (n : Nat → Nat) (f : Nat → Nat → Nat) (lo hi : Nat) (j : Nat) (hj : j ≤ 100000000) (hR : R ≤ 100000000) (hs : sumN n R ≤ 100000000) (w : World) (h : OwnM w lo hi v R n f) (hhi : hi ≤ w.heap.size) :
    Calls Try.prog 28 #[v, .int .i64 j] w fun e w' => e = .returned (.int .i64 ((j + sumN n R : Nat) : Int)) ∧ Chg lo hi w w' := by
  obtain ⟨g, cap, e, h⟩ := h
  have hlh : lo ≤ hi := Nat.le_trans h.low (Nat.le_of_lt h.high)
  obtain rfl := h.val
  go_enter Try.func28, Try.ntmps28
  go_wp2
  go_loopw [1, 5] (fun x i wr => ∃ k : Nat, k ≤ R ∧ i = .int .i64 k ∧ x = .int .i64 ((j + sumN n k : Nat) : Int) ∧ wr.heap[g]? = w.heap[g]? ∧ (∀ i, i < R → k ≤ i → Own wr lo hi (e i) (n i) (f i)) ∧ Chg lo hi w wr) (fun _ i _ => R - (intOf i).toNat)
  case atStart => exact ⟨0, Nat.zero_le _, rfl, rfl, rfl, fun i hi _ => h.each i hi, Chg.refl' _ _ _⟩
  case round =>
    obtain ⟨k, hk, rfl, rfl, hgr, hea, hch⟩ := hrel
    have hsk := sumN_mono n hk
    by_cases hlt : k < R
    · have hck : wr.cell? ⟨g, k, none⟩ = some (e k) := (World.cell?_of_block (w := w) hgr).trans (h.cell k hlt)
      have hok := hea k hlt (Nat.le_refl _)
      have hts := tight_sub hok hlh
      have hnk : n k ≤ 100000000 := by have := sumN_mono n (show k + 1 ≤ R from hlt); simp only [sumN] at this; omega
      have C := markByteS_any (e k) (n k) (f k) (tlo (e k) lo) (thi (e k) lo) (j + sumN n k) (by omega) (by omega) wr hok.tight
      obtain ⟨ao2, cap2, hsl⟩ := hok.slice
      have A1 : ∀ q, (e k).ownBlock = some q → g ≠ q := fun q hq hgq => h.apart.1 k hlt (by rw [hq, hgq])
      have A2 : ∀ i, i < R → k + 1 ≤ i → ∀ q, (e k).ownBlock = some q → (e i).ownBlock ≠ some q := fun i hi hki q hq => h.apart.2 k i hlt hi (by omega) q hq
      have HEA : Hid (∀ i, i < R → k ≤ i → Own wr lo hi (e i) (n i) (f i)) := hea
      have HA1 : Hid (∀ q, (e k).ownBlock = some q → g ≠ q) := A1
      have HA2 : Hid (∀ i, i < R → k + 1 ≤ i → ∀ q, (e k).ownBlock = some q → (e i).ownBlock ≠ some q) := A2
      have HGR : Hid (wr.heap[g]? = w.heap[g]?) := hgr
      clear hea A1 A2 hgr hok
      rw [hsl] at hck
      go_wp2_with fail
      rw [← hsl]
      refine C.mono ?_
      rintro ee w2 ⟨rfl, ho2, hout⟩
      have N1 : w2.heap[g]? = w.heap[g]? := (hout.block g (not_in_tight HA1.out)).trans HGR.out
      have N2 : ∀ i, i < R → k + 1 ≤ i → Own w2 lo hi (e i) (n i) (f i) := fun i hi hki =>
        (HEA.out i hi (by omega)).kept fun q hq => hout.block q (not_in_tight fun q' hq' hh => HA2.out i hi hki q' hq' (by rw [← hh]; exact hq))
      have N3 : Chg lo hi w w2 := hch.trans (hout.chg.widen hts.1 hts.2)
      clear ho2 hout hch HEA HA1 HA2 HGR C
      rw [hsl]
      clear hsl
      go_wp2
      go_roundw
      case rel => exact ⟨k + 1, by omega, by go_num, val_eq (by simp only [sumN]; omega), N1, N2, N3⟩
      case measure => simp [intOf]; omega
    · have hkn : k = R := by omega
      subst hkn
      go_wp2
      go_ret
      exact ⟨rfl, hch⟩
end Go.Proofs.Ytdnankopblkblak
