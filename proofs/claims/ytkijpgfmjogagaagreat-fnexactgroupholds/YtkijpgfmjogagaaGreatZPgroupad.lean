/- Walks of the two CauchyG. -/
import Derived.Test.YtkijpgfmjogagaaGreatZPgroupac
import Derived.Test.YtkijpgfmjogagaaGreatZPgroupaa
import Derived.Deep.RegionLaw
import Derived.Test.YtkijpgfmjogagaaGreatZPgroupab
import Derived.Laws.CopyOwn
import Derived.Deep.DeepCutAuto
import Derived.BigQuiet
import Derived.Deep.QuietTactic
set_option linter.unusedVariables false
set_option linter.unusedSimpArgs false
namespace Go.Proofs.YtkijpgfmjogagaaGreat
open Go.RowKit F256
def cau (C t : Nat) : Nat := powN ((128 + t / C) ^^^ (t % C)) 254
theorem l1Cauchy_any (j i : Nat) (hj : j < 16) (hi : i < 16) (w : World) :
    Calls Tryz.prog 117 #[.int .i64 j, .int .i64 i] w fun e w' => e = .returned (.int .u8 (powN ((128 + j) ^^^ i) 254)) ∧ w' = w := by
  have hx : bits .xor .u8 (128 + (j : Int)) (i : Int) = (((128 + j) ^^^ i : Nat) : Int) := u8_xor_nat (128 + j) i (by omega) (by omega)
  have hl : (128 + j) ^^^ i < 256 := xor_lt (by omega) (by omega)
  obtain ⟨y, hy⟩ : ∃ y, y = (128 + j) ^^^ i := ⟨_, rfl⟩
  rw [← hy] at hx hl ⊢
  clear hy
  go_enter Tryz.func117, Tryz.ntmps117
  go_wp2_with (go_at_call 139; refine (specInv_any y hl _).mono ?_; rintro e w1 ⟨rfl, rfl⟩)
  go_ret
  exact ⟨rfl, rfl⟩
theorem l1In_yes (v a b : Int) (h1 : a ≤ v) (h2 : v ≤ b) (w : World) :
    Calls Tryz.prog 55 #[.int .i64 v, .int .i64 a, .int .i64 b] w fun e w' => e = .returned (.bool true) ∧ w' = w := by
  go_enter Tryz.func55, Tryz.ntmps55
  go_wp2
  go_ret
  exact ⟨rfl, rfl⟩
theorem l1In_no (v a b : Int) (h : v < a ∨ b < v) (w : World) :
    Calls Tryz.prog 55 #[.int .i64 v, .int .i64 a, .int .i64 b] w fun e w' => e = .returned (.bool false) ∧ w' = w := by
  by_cases h1 : v < a
  · have hd : decide (a ≤ v) = false := by simp; omega
    go_enter Tryz.func55, Tryz.ntmps55
    go_wp2
    go_ret
    exact ⟨rfl, rfl⟩
  · have h2 : b < v := by omega
    have h3 : a ≤ v := by omega
    have hd : decide (v ≤ b) = false := by simp; omega
    go_enter Tryz.func55, Tryz.ntmps55
    go_wp2
    go_ret
    exact ⟨rfl, rfl⟩
def CS (w wr : World) (C k : Nat) (ao : Option Addr) (cap : Nat) : Prop :=
  Own wr (w.heap.size + 2) wr.heap.size (.slice ao k cap) k (cau C) ∧ Box wr (w.heap.size + 1) #[.int .i64 0, .slice ao k cap] 130 ∧ Box wr w.heap.size #[.int .i64 0, .slice none 0 0] 130 ∧ Below w.heap.size w wr
theorem CS.next {w wr w1 wd : World} {C k : Nat} {ao ao' : Option Addr} {cap cap' : Nat} {o : Obj} (h : CS w wr C k ao cap) (hd : wd.heap = (wr.alloc o).heap) (ho : wd.os = wr.os) (ht : wd.tape = wr.tape) (hp : wd.output = wr.output)
    (hown : Own w1 (w.heap.size + 2) w1.heap.size (.slice ao' (k + 1) cap') (k + 1) (cau C)) (hb : Below (w.heap.size + 2) wd w1) :
    CS w (w1.setCell ⟨w.heap.size + 1, 1, none⟩ (.slice ao' (k + 1) cap')) C (k + 1) ao' cap' := by
  obtain ⟨h1, h2, h3, h4⟩ := h
  have l2 := h2.lt
  have bx : ∀ b, b < w.heap.size + 2 → w1.heap[b]? = wr.heap[b]? := fun b hbb => by rw [hb.block b hbb, hd]; exact Below.heap_alloc wr o b (by omega)
  have b2 : w1.heap[w.heap.size + 1]? = some (.cells #[.int .i64 0, .slice ao k cap] 130 (0, 0)) := (bx _ (by omega)).trans h2
  have hsz : wr.heap.size ≤ w1.heap.size := by have := hb.size; rw [hd] at this; simp at this; omega
  refine ⟨?_, ?_, ?_, ?_⟩
  · have o1 := out_store w1 (w.heap.size + 1) (w.heap.size + 2) (w.heap.size + 1) 1 (.slice ao' (k + 1) cap') (Nat.le_refl _) (by omega)
    exact (hown.out o1 (.inr (Nat.le_refl _))).weaken (Nat.le_refl _) (Nat.le_of_eq o1.size.symm)
  · exact heap_setCell_same w1 (w.heap.size + 1) 1 _ _ _ b2
  · exact (heap_setCell_other w1 ⟨w.heap.size + 1, 1, none⟩ w.heap.size _ (by show w.heap.size ≠ w.heap.size + 1; omega)).trans ((bx _ (by omega)).trans h3)
  · refine ⟨(hb.os.trans ho).trans h4.os, (hb.tape.trans ht).trans h4.tape, (hb.output.trans hp).trans h4.output, by simp; have := h4.size; omega, fun b hbb => ?_⟩
    exact (heap_setCell_other w1 ⟨w.heap.size + 1, 1, none⟩ b _ (by show b ≠ w.heap.size + 1; omega)).trans ((bx _ (by omega)).trans (h4.block b hbb))
end Go.Proofs.YtkijpgfmjogagaaGreat
namespace Go.Proofs.YtkijpgfmjogagaaGreat
open Go.RowKit F256
theorem OwnE.upd {w w' : World} {lo hi : Nat} {v : Value} {R C : Nat} {M M' : Mat} {g cap : Nat} {e : Nat → Value} (h : OwnE w lo hi v R (fun _ => C) M g cap e) (i : Nat) (hi' : i < R) (hc : Chg (tlo (e i) lo) (thi (e i) lo) w w')
    (ho : Own w' lo hi (e i) C (M' i)) (hM : ∀ j, j < R → j ≠ i → M' j = M j) : OwnE w' lo hi v R (fun _ => C) M' g cap e := by
  have hsz : ∀ b, w.heap[b]? ≠ none → b < w.heap.size := fun b hb => by
    cases hq : w.heap[b]? with
    | none => exact absurd hq hb
    | some o => exact (Array.getElem?_eq_some_iff.1 hq).1
  refine ⟨h.val, h.low, h.high, row_kept h.row fun k hk => ?_, fun j hj => ?_, h.apart⟩
  · have hlt := (h.row.lt k hk).2
    rw [h.val] at hk
    simp [Value.ownBlock] at hk
    subst hk
    exact hc.block g hlt (not_in_tight fun q hq hh => h.apart.1 i hi' (by rw [hq, hh]))
  · by_cases e1 : j = i
    · subst e1; exact ho
    · rw [hM j hj e1]
      refine (h.each j hj).kept fun k hk => ?_
      exact hc.block k ((h.each j hj).1.lt k hk).2 (not_in_tight fun q hq hh => h.apart.2 i j hi' hj (fun x => e1 x.symm) q hq (by rw [← hh]; exact hk))
theorem OwnE.put {w w2 : World} {lo hi : Nat} {v : Value} {R C : Nat} {M M' : Mat} {g cap : Nat} {e : Nat → Value} {x : Value} (h : OwnE w lo hi v R (fun _ => C) M g cap e) (i : Nat) (hi' : i < R) (hb : Below w.heap.size w w2) (hhi : hi ≤ w.heap.size)
    (ho : Own w2 w.heap.size w2.heap.size x C (M' i)) (hM : ∀ j, j < R → j ≠ i → M' j = M j) : OwnE (w2.setCell ⟨g, i, none⟩ x) lo w2.heap.size v R (fun _ => C) M' g cap (fun j => if j = i then x else e j) := by
  have hg := h.high
  have h2 := h.below hb hhi
  have hr := h2.row
  rw [h.val] at hr
  have hst := (hr.stored i x).1
  rw [valsOf_set R e (fun j => if j = i then x else e j) i x hi' (fun j _ => rfl)] at hst
  have oth : ∀ b, b ≠ g → (w2.setCell ⟨g, i, none⟩ x).heap[b]? = w2.heap[b]? := fun b hbg => heap_setCell_other w2 ⟨g, i, none⟩ b _ hbg
  have hs := hb.size
  have new : ∀ k, x.ownBlock = some k → w.heap.size ≤ k := fun k hk => (ho.1.lt k hk).1
  refine ⟨h.val, h.low, by omega, by rw [h.val]; exact hst, fun j hj => ?_, ⟨fun j hj => ?_, fun j l hj hl hne k hk => ?_⟩⟩
  · by_cases c : j = i
    · subst c
      simp only [if_pos]
      exact (ho.kept fun k hk => oth k (by have := new k hk; omega)).weaken (by have := h.low; omega) (Nat.le_refl _)
    · simp only [if_neg c]
      rw [hM j hj c]
      have hj2 := h2.each j hj
      exact (hj2.kept fun k hk => oth k fun hkg => h.apart.1 j hj (by rw [hk, hkg])).weaken (Nat.le_refl _) (by omega)
  · by_cases c : j = i
    · simp only [if_pos c]
      intro hh
      have := new g hh
      omega
    · simp only [if_neg c]
      exact h.apart.1 j hj
  · have low : ∀ q, q < R → ∀ k, (e q).ownBlock = some k → k < w.heap.size := fun q hq k hk => by have := (h.each q hq).2 k hk; omega
    by_cases c : j = i
    · have c2 : ¬ l = i := fun z => hne (by rw [c, z])
      simp only [if_pos c] at hk
      simp only [if_neg c2]
      intro hh
      have h1 := new k hk
      have h3 := low l hl k hh
      omega
    · simp only [if_neg c] at hk
      by_cases c2 : l = i
      · simp only [if_pos c2]
        intro hh
        have h1 := new k hh
        have h3 := low j hj k hk
        omega
      · simp only [if_neg c2]
        exact h.apart.2 j l hj hl hne k hk
theorem OwnE.move {w w2 : World} {lo hi : Nat} {v : Value} {R C : Nat} {M : Mat} {g cap : Nat} {e : Nat → Value} (h : OwnE w lo hi v R (fun _ => C) M g cap e) (r a : Nat) (hr' : r < R) (ha' : a < R) (hi2 : hi ≤ w.heap.size)
    (hw : w2.ownsRow lo 91 1 (.slice (some ⟨g, 0, none⟩) R cap) R (valsOf R fun j => if j = r then e a else if j = a then e r else e j)) (hk : ∀ b, b ≠ g → w2.heap[b]? = w.heap[b]?) :
    OwnE w2 lo hi v R (fun _ => C) (swapM M r a) g cap (fun j => if j = r then e a else if j = a then e r else e j) := by
  have each : ∀ j, j < R → Own w2 lo hi (e j) C (M j) := fun j hj => (h.each j hj).kept fun k hk' => hk k fun hkg => h.apart.1 j hj (by rw [hk', hkg])
  have sig : ∀ j, j < R → ∃ q, q < R ∧ (if j = r then e a else if j = a then e r else e j) = e q ∧ q = (if j = r then a else if j = a then r else j) := fun j hj => by
    by_cases c : j = r
    · exact ⟨a, ha', by simp [c], by simp [c]⟩
    · by_cases c2 : j = a
      · exact ⟨r, hr', by simp only [if_neg c, if_pos c2], by simp only [if_neg c, if_pos c2]⟩
      · exact ⟨j, hj, by simp only [if_neg c, if_neg c2], by simp only [if_neg c, if_neg c2]⟩
  refine ⟨h.val, h.low, h.high, by rw [h.val]; exact hw, fun j hj => ?_, ⟨fun j hj => ?_, fun j l hj hl hne k hk' => ?_⟩⟩
  · unfold swapM
    by_cases c : j = r
    · simp only [if_pos c]; exact each a ha'
    · by_cases c2 : j = a
      · simp only [if_neg c, if_pos c2]; exact each r hr'
      · simp only [if_neg c, if_neg c2]; exact each j hj
  · obtain ⟨q, hq, he, _⟩ := sig j hj
    show (if j = r then e a else if j = a then e r else e j).ownBlock ≠ some g
    rw [he]
    exact h.apart.1 q hq
  · obtain ⟨q, hq, he, hqe⟩ := sig j hj
    obtain ⟨p, hp, hpe, hpq⟩ := sig l hl
    have hk2 : (if j = r then e a else if j = a then e r else e j).ownBlock = some k := hk'
    rw [he] at hk2
    show (if l = r then e a else if l = a then e r else e l).ownBlock ≠ some k
    rw [hpe]
    refine h.apart.2 q p hq hp ?_ k hk2
    intro hqp
    rw [hqe, hpq] at hqp
    apply hne
    split at hqp
    · split at hqp
      · omega
      · split at hqp <;> omega
    · split at hqp
      · split at hqp
        · omega
        · split at hqp <;> omega
      · split at hqp
        · omega
        · split at hqp <;> omega
theorem OwnE.drewN {w : World} {lo hi : Nat} {v : Value} {R : Nat} {n : Nat → Nat} {M : Mat} {g cap : Nat} {e : Nat → Value} (h : OwnE w lo hi v R n M g cap e) (m : Nat) : OwnE (w.drewN m) lo hi v R n M g cap e := ⟨h.val, h.low, h.high, h.row, h.each, h.apart⟩
theorem OwnE.weaken {w : World} {lo hi hi' : Nat} {v : Value} {R : Nat} {n : Nat → Nat} {M : Mat} {g cap : Nat} {e : Nat → Value} (h : OwnE w lo hi v R n M g cap e) (h2 : hi ≤ hi') : OwnE w lo hi' v R n M g cap e :=
  ⟨h.val, h.low, Nat.lt_of_lt_of_le h.high h2, h.row, fun i hi => (h.each i hi).mono h2, h.apart⟩
theorem OwnE.frozen {w : World} {lo hi : Nat} {v : Value} {R : Nat} {n : Nat → Nat} {M : Mat} {g cap : Nat} {e : Nat → Value} (h : OwnE w lo hi v R n M g cap e) (i : Nat) : w.frozen? ⟨g, i, none⟩ = false := by
  have hr := h.row
  rw [h.val] at hr
  exact hr.frozenAt i
theorem OwnE.swap {w : World} {lo hi : Nat} {v : Value} {R C : Nat} {M : Mat} {g cap : Nat} {e : Nat → Value} (h : OwnE w lo hi v R (fun _ => C) M g cap e) (r a : Nat) (hr : r < R) (ha : a < R) (hi2 : hi ≤ w.heap.size) :
    OwnE ((w.setCell ⟨g, r, none⟩ (e a)).setCell ⟨g, a, none⟩ (e r)) lo hi v R (fun _ => C) (swapM M r a) g cap (fun j => if j = r then e a else if j = a then e r else e j) := by
  have h0 := h.row
  rw [h.val] at h0
  have h1 := (h0.stored r (e a)).1
  have h2 := (h1.stored a (e r)).1
  have hset : ((valsOf R e).set r (e a)).set a (e r) = valsOf R fun j => if j = r then e a else if j = a then e r else e j := by
    rw [valsOf_set R e (fun j => if j = r then e a else e j) r (e a) hr (fun _ _ => rfl)]
    refine valsOf_set R _ _ a (e r) ha (fun j _ => ?_)
    by_cases c : j = r
    · by_cases c2 : j = a
      · have hra : r = a := by omega
        simp [c, hra]
      · have c3 : ¬ r = a := by omega
        simp [c, c3]
    · by_cases c2 : j = a
      · simp [c2]; intro hra; rw [hra]
      · simp [c, c2]
  rw [hset] at h2
  refine h.move r a hr ha hi2 h2 fun b hb => ?_
  exact (heap_setCell_other (w.setCell ⟨g, r, none⟩ (e a)) ⟨g, a, none⟩ b (e r) hb).trans (heap_setCell_other w ⟨g, r, none⟩ b (e a) hb)
theorem OwnE.put2 {w w3 : World} {lo : Nat} {v : Value} {R C : Nat} {M M' : Mat} {g cap : Nat} {e : Nat → Value} {x : Value} (h : OwnE w lo w.heap.size v R (fun _ => C) M g cap e) (r a : Nat) (hr : r < R) (ha : a < R)
    (hb : Below w.heap.size (w.setCell ⟨g, a, none⟩ (e r)) w3) (ho : Own w3 w.heap.size w3.heap.size x C (M' r)) (hM : ∀ j, j < R → j ≠ r → M' j = swapM M r a j) :
    OwnE (w3.setCell ⟨g, r, none⟩ x) lo w3.heap.size v R (fun _ => C) M' g cap (fun j => if j = r then x else if j = a then e r else e j) := by
  have hg := h.high
  have hsz : w.heap.size ≤ w3.heap.size := by have := hb.size; simpa using this
  have h0 := h.row
  rw [h.val] at h0
  have h1 := (h0.stored a (e r)).1
  have h2 : w3.ownsRow lo 91 1 (.slice (some ⟨g, 0, none⟩) R cap) R ((valsOf R e).set a (e r)) := row_kept h1 fun k hk => hb.block k (by simp [Value.ownBlock] at hk; omega)
  have h3 := (h2.stored r x).1
  have hset : ((valsOf R e).set a (e r)).set r x = valsOf R fun j => if j = r then x else if j = a then e r else e j := by
    rw [valsOf_set R e (fun j => if j = a then e r else e j) a (e r) ha (fun _ _ => rfl)]
    exact valsOf_set R _ _ r x hr (fun j _ => rfl)
  rw [hset] at h3
  have oth : ∀ b, b < w.heap.size → b ≠ g → (w3.setCell ⟨g, r, none⟩ x).heap[b]? = w.heap[b]? := fun b hlt hbg => by
    rw [heap_setCell_other w3 ⟨g, r, none⟩ b _ hbg, hb.block b hlt]
    exact heap_setCell_other w ⟨g, a, none⟩ b _ hbg
  have new : ∀ k, x.ownBlock = some k → w.heap.size ≤ k := fun k hk => (ho.1.lt k hk).1
  have old : ∀ j, j < R → ∀ k, (e j).ownBlock = some k → k < w.heap.size := fun j hj k hk => (h.each j hj).2 k hk
  have each : ∀ j, j < R → Own (w3.setCell ⟨g, r, none⟩ x) lo w3.heap.size (e j) C (M j) := fun j hj =>
    ((h.each j hj).kept fun k hk => oth k (old j hj k hk) fun hkg => h.apart.1 j hj (by rw [hk, hkg])).weaken (Nat.le_refl _) hsz
  have sig : ∀ j, j < R → j ≠ r → ∃ q, q < R ∧ (if j = r then x else if j = a then e r else e j) = e q ∧ q = (if j = a then r else j) := fun j hj hne => by
    by_cases c2 : j = a
    · exact ⟨r, hr, by simp only [if_neg hne, if_pos c2], by simp only [if_pos c2]⟩
    · exact ⟨j, hj, by simp only [if_neg hne, if_neg c2], by simp only [if_neg c2]⟩
  refine ⟨h.val, h.low, by omega, by rw [h.val]; exact h3, fun j hj => ?_, ⟨fun j hj => ?_, fun j l hj hl hne k hk => ?_⟩⟩
  · by_cases c : j = r
    · subst c
      simp only [if_pos]
      exact (ho.kept fun k hk => heap_setCell_other w3 ⟨g, j, none⟩ k _ (by have := new k hk; show k ≠ g; omega)).weaken (by have := h.low; omega) (Nat.le_refl _)
    · rw [hM j hj c]
      unfold swapM
      by_cases c2 : j = a
      · simp only [if_neg c, if_pos c2]; exact each r hr
      · simp only [if_neg c, if_neg c2]; exact each j hj
  · by_cases c : j = r
    · simp only [if_pos c]
      intro hh
      have := new g hh
      omega
    · obtain ⟨q, hq, he, _⟩ := sig j hj c
      show (if j = r then x else if j = a then e r else e j).ownBlock ≠ some g
      rw [he]
      exact h.apart.1 q hq
  · have hk2 : (if j = r then x else if j = a then e r else e j).ownBlock = some k := hk
    show (if l = r then x else if l = a then e r else e l).ownBlock ≠ some k
    by_cases c : j = r
    · have c2 : ¬ l = r := fun z => hne (by rw [c, z])
      rw [if_pos c] at hk2
      obtain ⟨p, hp, hpe, _⟩ := sig l hl c2
      rw [hpe]
      intro hh
      have h5 := new k hk2
      have h6 := old p hp k hh
      omega
    · obtain ⟨q, hq, he, hqe⟩ := sig j hj c
      rw [he] at hk2
      by_cases c2 : l = r
      · rw [if_pos c2]
        intro hh
        have h5 := new k hh
        have h6 := old q hq k hk2
        omega
      · obtain ⟨p, hp, hpe, hpq⟩ := sig l hl c2
        rw [hpe]
        refine h.apart.2 q p hq hp ?_ k hk2
        intro hqp
        rw [hqe, hpq] at hqp
        apply hne
        split at hqp
        · split at hqp <;> omega
        · split at hqp <;> omega
end Go.Proofs.YtkijpgfmjogagaaGreat
namespace Go.Proofs.YtkijpgfmjogagaaGreat
open Go.RowKit F256
theorem Own.full {w : World} {lo hi g n : Nat} {f : Nat → Nat} (h : Own w lo hi (.slice (some ⟨g, 0, none⟩) n n) n f) : w.heap[g]? = some (.cells (cellsOf n f).toArray 5 (0, 0)) := by
  rcases h.1.2 with ⟨h', _⟩ | ⟨g', cap', cur, h', _, hg, _, _, hcs, htake⟩
  · simp at h'
  · simp only [Value.slice.injEq, Option.some.injEq, Addr.mk.injEq, and_true, true_and] at h'
    obtain ⟨rfl, rfl⟩ := h'
    have : cur = (cellsOf n f).toArray := by
      rw [← htake, List.take_of_length_le (by simp; omega)]
    rw [← this]
    exact hg
theorem own_of_full {w : World} {lo g n : Nat} {f : Nat → Nat} (hg : w.heap[g]? = some (.cells (cellsOf n f).toArray 5 (0, 0))) (hlo : lo ≤ g) (hm : n ≤ maxLen) : Own w lo w.heap.size (.slice (some ⟨g, 0, none⟩) n n) n f :=
  ⟨⟨by rw [cellsOf_length]; omega, .inr ⟨g, n, _, rfl, hlo, hg, Nat.le_refl _, hm, by simp [cellsOf_length], by simp [List.take_of_length_le, cellsOf_length]⟩⟩, fun k hk => by
    simp [Value.ownBlock] at hk
    subst hk
    exact (Array.getElem?_eq_some_iff.1 hg).1⟩
theorem splice_cells (N off m : Nat) (f t h : Nat → Nat) (hm : off + m ≤ N) (hh : ∀ i, i < N → h i = if off ≤ i ∧ i < off + m then t (i - off) else f i) : splice (cellsOf N f) off (cellsOf m t) = cellsOf N h := by
  unfold splice
  apply List.ext_getElem?
  intro i
  by_cases hi : i < N
  · rw [cellsOf_get N h i hi, hh i hi]
    by_cases h1 : i < off
    · have e1 : ¬ (off ≤ i ∧ i < off + m) := by omega
      rw [if_neg e1, List.getElem?_append_left (by rw [List.length_take, cellsOf_length]; omega), List.getElem?_take, if_pos h1, cellsOf_get N f i hi]
    · rw [List.getElem?_append_right (by rw [List.length_take, cellsOf_length]; omega)]
      have e0 : (List.take off (cellsOf N f)).length = off := by rw [List.length_take, cellsOf_length]; omega
      rw [e0]
      by_cases h2 : i < off + m
      · rw [if_pos ⟨by omega, h2⟩, List.getElem?_append_left (by rw [cellsOf_length]; omega), cellsOf_get m t _ (by omega)]
      · have e1 : ¬ (off ≤ i ∧ i < off + m) := by omega
        rw [if_neg e1, List.getElem?_append_right (by rw [cellsOf_length]; omega), cellsOf_length, List.getElem?_drop, show off + m + (i - off - m) = i by omega, cellsOf_get N f i hi]
  · rw [List.getElem?_eq_none (by simp [cellsOf_length]; omega), List.getElem?_eq_none (by rw [cellsOf_length]; omega)]
theorem add_none' (b off j : Nat) : (⟨b, off, none⟩ : Addr).add j = ⟨b, off + j, none⟩ := by unfold Addr.add; split <;> simp_all
theorem copy_src {w : World} {hi n cap : Nat} {ao : Option Addr} {f : Nat → Nat} (r : Rd w hi (.slice ao n cap) n f) (h : 0 < (cellsOf n f).length) : ∃ ad, ao = some ad ∧ ∀ j v, (cellsOf n f)[j]? = some v → w.cell? (ad.add j) = some v := by
  rw [cellsOf_length] at h
  obtain ⟨ao', cap', he, _, hc⟩ := r
  simp only [Value.slice.injEq, true_and] at he
  obtain ⟨rfl, rfl⟩ := he
  obtain ⟨b, off, rfl, _, hcell⟩ := hc (by omega)
  refine ⟨_, rfl, fun j v hj => ?_⟩
  by_cases hjn : j < n
  · rw [cellsOf_get n f j hjn] at hj
    rw [add_none', hcell j hjn]
    exact hj
  · rw [List.getElem?_eq_none (by rw [cellsOf_length]; omega)] at hj
    cases hj
theorem cellsOf_one (n : Nat) (f : Nat → Nat) : ∀ v ∈ cellsOf n f, v.oneCell' = true := fun v hv => by
  simp only [cellsOf, List.mem_map] at hv
  obtain ⟨i, _, rfl⟩ := hv
  rfl
theorem size_u8 : (Tryz.prog.info? 5).map (·.size) = some 1 := by kernel_rfl
set_option maxHeartbeats 1000000 in
theorem joined_nil (v1 v2 : Value) (n : Nat) (f t : Nat → Nat) (h1 h2 : Nat) (w : World) (r1 : Rd w h1 v1 n f) (r2 : Rd w h2 v2 0 t) (b1 : h1 ≤ w.heap.size) (hn : n ≤ 1000000) :
    Calls Tryz.prog 95 #[v1, v2] w fun e w' => ∃ v', e = .returned v' ∧ Own w' w.heap.size w'.heap.size v' n f ∧ Below w.heap.size w w' := by
  have R1 := fun (w1 : World) (hb : Below w.heap.size w w1) => r1.below hb b1
  obtain ⟨ao, cap, rfl, hm1, hc1⟩ := r1
  obtain ⟨ao2, cap2, rfl, hm2, hc2⟩ := r2
  clear hc1 hc2
  have HS : Hid (splice (cellsOf n fun _ => 0) 0 (cellsOf n f) = cellsOf n f) := splice_cells n 0 n _ f f (by omega) (fun i hi => by simp [hi])
  have L1 : (cellsOf n f).length = Nat.min n n := by rw [cellsOf_length]; exact (Nat.min_self n).symm
  have L2 : 0 + (cellsOf n f).length ≤ (cellsOf n fun _ => 0).length := by simp [cellsOf_length]
  have HL1 : Hid ((cellsOf n f).length = Nat.min n n) := L1
  have HL2 : Hid (0 + (cellsOf n f).length ≤ (cellsOf n fun _ => 0).length) := L2
  clear L1 L2
  go_enter Tryz.func95, Tryz.ntmps95
  go_wp2_with (first | (at_make; refine wp_makeB _ rfl _ _ rfl _ _ n rfl rfl (by simp) (by simp) (by omega) ?_; intro w1 hown1 hb1 hz1) | (refine wpList_copy_splice rfl (.tmp 12) (.tmp 13) 91 91 rfl 5 Tryz.underlying91 size_u8 (some ⟨w.heap.size, 0, none⟩) ao n n n cap rfl rfl w.heap.size 0 (cellsOf n fun _ => 0) 5 hown1.full (cellsOf n f) HL1.out (fun hp => ⟨rfl, copy_src (R1 w1 hb1) hp⟩) HL2.out (cellsOf_one n f) w.heap.size w hb1 (Nat.le_refl _) ?_; intro w2 hF2 hb2) | (refine wpList_copy_nothing rfl (.tmp 18) (.tmp 19) 91 91 rfl 5 Tryz.underlying91 size_u8 _ _ _ _ _ _ rfl rfl (by simp) ?_))
  go_ret
  have F2 := hF2.out
  rw [HS.out] at F2
  exact ⟨_, rfl, own_of_full F2 (Nat.le_refl _) (by unfold maxLen; omega), hb2⟩
set_option maxHeartbeats 1000000 in
theorem joined_some (v1 v2 : Value) (n m : Nat) (f t h : Nat → Nat) (h1 h2 : Nat) (w : World) (r1 : Rd w h1 v1 n f) (r2 : Rd w h2 v2 m t) (b1 : h1 ≤ w.heap.size) (b2 : h2 ≤ w.heap.size) (hn : n ≤ 1000000) (hm : m ≤ 1000000) (hm0 : 0 < m)
    (hh : ∀ i, i < n + m → h i = if i < n then f i else t (i - n)) :
    Calls Tryz.prog 95 #[v1, v2] w fun e w' => ∃ v', e = .returned v' ∧ Own w' w.heap.size w'.heap.size v' (n + m) h ∧ Below w.heap.size w w' := by
  have R1 := fun (w1 : World) (hb : Below w.heap.size w w1) => r1.below hb b1
  have R2 := fun (w1 : World) (hb : Below w.heap.size w w1) => r2.below hb b2
  obtain ⟨ao, cap, rfl, hm1, hc1⟩ := r1
  obtain ⟨ao2, cap2, rfl, hm2, hc2⟩ := r2
  clear hc1 hc2
  obtain ⟨N, hN⟩ : ∃ N, N = n + m := ⟨_, rfl⟩
  have hNi : (n : Int) + (m : Int) = (N : Int) := by omega
  have hNs : N - n = m := by omega
  have hnN : n < N := by omega
  have S1 : splice (cellsOf N fun _ => 0) 0 (cellsOf n f) = cellsOf N (fun i => if i < n then f i else 0) := splice_cells N 0 n _ f _ (by omega) (fun i hi => by simp)
  have S2 : splice (cellsOf N (fun i => if i < n then f i else 0)) n (cellsOf m t) = cellsOf N h := splice_cells N n m _ t h (by omega) (fun i hi => by
    rw [hh i (by omega)]
    by_cases c : i < n
    · have c2 : ¬ (n ≤ i ∧ i < n + m) := by omega
      rw [if_pos c, if_neg c2, if_pos c]
    · rw [if_neg c, if_pos ⟨by omega, by omega⟩])
  have L1 : (cellsOf n f).length = Nat.min n N := by rw [cellsOf_length]; exact (Nat.min_eq_left (by omega)).symm
  have L2 : 0 + (cellsOf n f).length ≤ (cellsOf N fun _ => 0).length := by simp [cellsOf_length]; omega
  have L3 : (cellsOf m t).length = Nat.min m m := by rw [cellsOf_length]; exact (Nat.min_self m).symm
  have L4 : n + (cellsOf m t).length ≤ (cellsOf N (fun i => if i < n then f i else 0)).length := by simp [cellsOf_length]; omega
  have H1 : Hid ((cellsOf n f).length = Nat.min n N) := L1
  have H2 : Hid (0 + (cellsOf n f).length ≤ (cellsOf N fun _ => 0).length) := L2
  have H3 : Hid ((cellsOf m t).length = Nat.min m m) := L3
  have H4 : Hid (n + (cellsOf m t).length ≤ (cellsOf N (fun i => if i < n then f i else 0)).length) := L4
  have HS1 : Hid (splice (cellsOf N fun _ => 0) 0 (cellsOf n f) = cellsOf N (fun i => if i < n then f i else 0)) := S1
  have HS2 : Hid (splice (cellsOf N (fun i => if i < n then f i else 0)) n (cellsOf m t) = cellsOf N h) := S2
  rw [← hN]
  have HN : Hid (N = n + m) := hN
  clear L1 L2 L3 L4 S1 S2 hh hN
  go_enter Tryz.func95, Tryz.ntmps95
  go_wp2_with (first | (at_make; refine wp_makeB _ rfl _ _ rfl _ _ N rfl rfl (by first | rfl | simp [hNi]) (by first | rfl | simp [hNi]) (by omega) ?_; intro w1 hown1 hb1 hz1) | (refine wpList_copy_splice rfl (.tmp 12) (.tmp 13) 91 91 rfl 5 Tryz.underlying91 size_u8 (some ⟨w.heap.size, 0, none⟩) ao N N n cap rfl rfl w.heap.size 0 (cellsOf N fun _ => 0) 5 hown1.full (cellsOf n f) H1.out (fun hp => ⟨rfl, copy_src (R1 w1 hb1) hp⟩) H2.out (cellsOf_one n f) w.heap.size w hb1 (Nat.le_refl _) ?_; intro w2 hF2 hb2; rw [HS1.out] at hF2) | (refine wpList_copy_splice rfl (.tmp 18) (.tmp 19) 91 91 rfl 5 Tryz.underlying91 size_u8 (some ⟨w.heap.size, n, none⟩) ao2 m m m cap2 ?_ rfl w.heap.size n (cellsOf N (fun i => if i < n then f i else 0)) 5 hF2.out (cellsOf m t) H3.out (fun hp => ⟨rfl, copy_src (R2 w2 hb2) hp⟩) H4.out (cellsOf_one m t) w.heap.size w hb2 (Nat.le_refl _) ?_; (simp [Act.eval, hNs]); intro w3 hF3 hb3))
  go_ret
  have F3 := hF3.out
  rw [HS2.out] at F3
  exact ⟨_, rfl, own_of_full F3 (Nat.le_refl _) (by unfold maxLen; omega), hb3⟩
end Go.Proofs.YtkijpgfmjogagaaGreat
namespace Go.Proofs.YtkijpgfmjogagaaGreat
open Go.RowKit F256
structure Bld (w wr : World) (lo : Nat) (v : Value) (k : Nat) (n : Nat → Nat) (f : Mat) (e : Nat → Value) : Prop where
  row : wr.ownsRow lo 91 1 v k (valsOf k e)
  notnil : v ≠ nilS
  each : ∀ i, i < k → Own wr lo wr.heap.size (e i) (n i) (f i)
  apart : ∀ i j, i < k → j < k → i ≠ j → ∀ b, (e i).ownBlock = some b → (e j).ownBlock ≠ some b
  bel : Below lo w wr
  le : lo ≤ wr.heap.size
theorem two_blocks {w : World} {lo lo' hi : Nat} {v x : Value} {k n : Nat} {xs : List Value} {f : Nat → Nat} (h : w.ownsRow lo 91 1 v k xs) (ho : Own w lo' hi x n f) (b : Nat) (hb : v.ownBlock = some b) : x.ownBlock ≠ some b := by
  intro hx
  rcases h.2 with ⟨rfl, _⟩ | ⟨g, cap, cur, rfl, _, hg, _⟩
  · cases hb
  · rcases ho.1.2 with ⟨rfl, _⟩ | ⟨g', cap', cur', rfl, _, hg', _⟩
    · cases hx
    · simp [Value.ownBlock] at hb hx
      subst hb
      subst hx
      rw [hg] at hg'
      simp at hg'
theorem Bld.next {w wr w2 w4 : World} {lo : Nat} {v v' x : Value} {k : Nat} {n : Nat → Nat} {f : Mat} {e : Nat → Value} (h : Bld w wr lo v k n f e) (hb : Below wr.heap.size wr w2) (ho : Own w2 wr.heap.size w2.heap.size x (n k) (f k))
    (hr : w4.ownsRow lo 91 1 v' (k + 1) (valsOf k e ++ [x])) (hg : (w2.alloc (.cells #[x] 91)).grownBy w4 v.ownBlock) (hnn : v' ≠ nilS) : Bld w w4 lo v' (k + 1) n f (fun i => if i = k then x else e i) := by
  have hs2 := hb.size
  have hs4 : w2.heap.size + 1 ≤ w4.heap.size := by have := hg.size; simpa using this
  have hv : valsOf k e ++ [x] = valsOf (k + 1) (fun i => if i = k then x else e i) := by
    rw [← valsOf_snoc]
    simp only [if_pos]
    rw [valsOf_eq (e := e) (g := fun i => if i = k then x else e i) (fun i hi => by simp [show ¬ i = k by omega])]
  rw [hv] at hr
  have row2 : w2.ownsRow lo 91 1 v k (valsOf k e) := row_kept h.row fun b hb' => hb.block b (h.row.lt b hb').2
  have kp : ∀ {y : Value} {m : Nat} {q : Nat → Nat} {l : Nat}, Own w2 l w2.heap.size y m q → Own w4 l w4.heap.size y m q := fun {y m q l} hy =>
    (hy.kept fun b hb' => by
      have hlt := hy.2 b hb'
      rw [hg.block b (by simp; omega) (fun hh => two_blocks row2 hy b hh.symm hb')]
      exact Below.heap_alloc w2 _ b hlt).mono (by omega)
  refine ⟨hr, hnn, fun i hi => ?_, fun i j hi hj hne b hbi => ?_, ?_, by have := h.le; omega⟩
  · by_cases c : i = k
    · subst c
      simp only [if_pos]
      exact (kp ho).weaken h.le (Nat.le_refl _)
    · simp only [if_neg c]
      exact kp (((h.each i (by omega)).below hb (Nat.le_refl _)).mono hs2)
  · have new : ∀ b, x.ownBlock = some b → wr.heap.size ≤ b := fun b hb' => (ho.1.lt b hb').1
    have old : ∀ i, i < k → ∀ b, (e i).ownBlock = some b → b < wr.heap.size := fun i hi b hb' => (h.each i hi).2 b hb'
    have hbi2 : (if i = k then x else e i).ownBlock = some b := hbi
    show (if j = k then x else e j).ownBlock ≠ some b
    by_cases c : i = k
    · have c2 : ¬ j = k := fun z => hne (by rw [c, z])
      rw [if_pos c] at hbi2
      rw [if_neg c2]
      intro hh
      have h5 := new b hbi2
      have h6 := old j (by omega) b hh
      omega
    · rw [if_neg c] at hbi2
      by_cases c2 : j = k
      · rw [if_pos c2]
        intro hh
        have h5 := new b hh
        have h6 := old i (by omega) b hbi2
        omega
      · rw [if_neg c2]
        exact h.apart i j (by omega) (by omega) hne b hbi2
  · have b1 : Below lo w w2 := h.bel.trans (hb.mono h.le)
    exact (b1.alloc (by have := h.le; omega) (.cells #[x] 91)).grown hg (by simp; have := h.le; omega) (fun b hb' => (h.row.lt b hb').1)
theorem Bld.done {w wr : World} {lo : Nat} {v : Value} {k : Nat} {n : Nat → Nat} {f : Mat} {e : Nat → Value} (h : Bld w wr lo v k n f e) : OwnM wr lo wr.heap.size v k n f := by
  rcases h.row.2 with ⟨hv, _⟩ | ⟨g, cap, cur, hv, hbg, hg, _⟩
  · exact absurd hv h.notnil
  · refine ⟨g, cap, e, hv, hbg, (Array.getElem?_eq_some_iff.1 hg).1, h.row, h.each, ⟨fun i hi => ?_, h.apart⟩⟩
    exact two_blocks h.row (h.each i hi) g (by rw [hv]; rfl)
theorem wp_appendM {ops : Array Oper} {rest : List Oper} {o : Oper} {a : Act} {w : World} {Q : Exit → Act → World → Prop}
    (hg : o.guard = none) (s x : Operand) (hop : o.op = Op.call { callee := Callee.builtin Builtin.append, args := #[s, x], argTypes := #[97, 97] })
    (lo : Nat) (v : Value) (k : Nat) (e : Nat → Value) (hs : a.eval s = v) (hown : w.ownsRow lo 91 1 v k (valsOf k e)) (b c : Nat) (y : Value) (hx : a.eval x = .slice (some ⟨b, 0, none⟩) 1 c) (hcell : w.cell? ⟨b, 0, none⟩ = some y) (hy : y.oneCell' = true)
    (hk : k + 1 ≤ 1000000) (hlo : lo ≤ w.heap.size)
    (hK : ∀ v' w', w'.ownsRow lo 91 1 v' (k + 1) (valsOf k e ++ [y]) → w.grownBy w' v.ownBlock → v' ≠ nilS → wpList Tryz.prog ops Q rest (a.put o.dst v') w') : wpList Tryz.prog ops Q (o :: rest) a w := by
  obtain ⟨i0, hi0, hz0, hz1, hz2⟩ := info_parts info_sl
  refine wpList_append_own w hg s x 97 hop lo 91 i0 nilS 1 24 Tryz.underlying97 hi0 hz0 hz1 hz2 rfl (by decide) v k (valsOf k e) hs hown ⟨b, 0, none⟩ 1 c [y] hx rfl ?_ ?_ (by unfold maxLen; omega) (by omega) hlo ?_
  · intro j u hj
    match j, hj with
    | 0, hj => simp at hj; subst hj; simpa [Addr.add] using hcell
  · intro u hu
    simp at hu
    subst hu
    exact hy
  · intro v' w' h1 h2 h3
    exact hK v' w' h1 h2 (fun hh => by have := (h3.mp hh).2; omega)
structure BldR (wr : World) (lo hi : Nat) (v : Value) (k : Nat) (n : Nat → Nat) (f : Mat) (e : Nat → Value) : Prop where
  row : wr.ownsRow lo 91 1 v k (valsOf k e)
  notnil : v ≠ nilS
  low : ∀ b, v.ownBlock = some b → b < hi
  each : ∀ i, i < k → Own wr lo hi (e i) (n i) (f i)
  apart : ∀ i j, i < k → j < k → i ≠ j → ∀ b, (e i).ownBlock = some b → (e j).ownBlock ≠ some b
  le : lo ≤ hi
  le2 : hi ≤ wr.heap.size
theorem BldR.kept {w w2 : World} {lo hi : Nat} {v : Value} {k : Nat} {n : Nat → Nat} {f : Mat} {e : Nat → Value} (h : BldR w lo hi v k n f e) (hk : ∀ b, lo ≤ b → b < hi → w2.heap[b]? = w.heap[b]?) (hs : hi ≤ w2.heap.size) : BldR w2 lo hi v k n f e :=
  ⟨row_kept h.row fun b hb => hk b (h.row.lt b hb).1 (h.low b hb), h.notnil, h.low, fun i hi => (h.each i hi).kept fun b hb => hk b ((h.each i hi).1.lt b hb).1 ((h.each i hi).2 b hb), h.apart, h.le, hs⟩
theorem BldR.next {w2 w4 : World} {lo hi lo2 hi2 : Nat} {v v' x : Value} {k : Nat} {n n' : Nat → Nat} {f f' : Mat} {e : Nat → Value} (h : BldR w2 lo hi v k n f e) (ho : Own w2 lo2 hi2 x (n' k) (f' k)) (hlo : hi ≤ lo2)
    (hn : ∀ i, i < k → n' i = n i) (hf : ∀ i, i < k → f' i = f i)
    (hr : w4.ownsRow lo 91 1 v' (k + 1) (valsOf k e ++ [x])) (hg : (w2.alloc (.cells #[x] 91)).grownBy w4 v.ownBlock) (hnn : v' ≠ nilS) : BldR w4 lo w4.heap.size v' (k + 1) n' f' (fun i => if i = k then x else e i) := by
  have hs4 : w2.heap.size + 1 ≤ w4.heap.size := by have := hg.size; simpa using this
  have hle := h.le
  have hle2 := h.le2
  have hv : valsOf k e ++ [x] = valsOf (k + 1) (fun i => if i = k then x else e i) := by
    rw [← valsOf_snoc]
    simp only [if_pos]
    rw [valsOf_eq (e := e) (g := fun i => if i = k then x else e i) (fun i hi => by simp [show ¬ i = k by omega])]
  rw [hv] at hr
  have kp : ∀ {y : Value} {m : Nat} {q : Nat → Nat} {l u : Nat}, Own w2 l u y m q → Own w4 l w4.heap.size y m q := fun {y m q l u} hy =>
    ⟨(hy.kept fun b hb' => by
      have hlt := (hy.1.lt b hb').2
      rw [hg.block b (by simp; omega) (fun hh => two_blocks h.row hy b hh.symm hb')]
      exact Below.heap_alloc w2 _ b hlt).1, fun b hb' => by have := (hy.1.lt b hb').2; omega⟩
  refine ⟨hr, hnn, fun b hb => (hr.lt b hb).2, fun i hik => ?_, fun i j hik hj hne b hbi => ?_, by omega, Nat.le_refl _⟩
  · by_cases c : i = k
    · subst c
      simp only [if_pos]
      exact (kp ho).weaken (by omega) (Nat.le_refl _)
    · simp only [if_neg c]
      rw [hn i (by omega), hf i (by omega)]
      exact kp (h.each i (by omega))
  · have new : ∀ b, x.ownBlock = some b → hi ≤ b := fun b hb' => by have := (ho.1.lt b hb').1; omega
    have old : ∀ i, i < k → ∀ b, (e i).ownBlock = some b → b < hi := fun i hi b hb' => (h.each i hi).2 b hb'
    have hbi2 : (if i = k then x else e i).ownBlock = some b := hbi
    show (if j = k then x else e j).ownBlock ≠ some b
    by_cases c : i = k
    · have c2 : ¬ j = k := fun z => hne (by rw [c, z])
      rw [if_pos c] at hbi2
      rw [if_neg c2]
      intro hh
      have h5 := new b hbi2
      have h6 := old j (by omega) b hh
      omega
    · rw [if_neg c] at hbi2
      by_cases c2 : j = k
      · rw [if_pos c2]
        intro hh
        have h5 := new b hh
        have h6 := old i (by omega) b hbi2
        omega
      · rw [if_neg c2]
        exact h.apart i j (by omega) (by omega) hne b hbi2
theorem BldR.done {wr : World} {lo hi : Nat} {v : Value} {k : Nat} {n : Nat → Nat} {f : Mat} {e : Nat → Value} (h : BldR wr lo hi v k n f e) : ∃ g cap, OwnE wr lo hi v k n f g cap e := by
  rcases h.row.2 with ⟨hv, _⟩ | ⟨g, cap, cur, hv, hbg, hg, _⟩
  · exact absurd hv h.notnil
  · refine ⟨g, cap, hv, hbg, h.low g (by rw [hv]; rfl), h.row, h.each, ⟨fun i hi => ?_, h.apart⟩⟩
    exact two_blocks h.row (h.each i hi) g (by rw [hv]; rfl)
theorem OwnE.lay {w : World} {lo hi lo2 hi2 : Nat} {v : Value} {R : Nat} {n n' : Nat → Nat} {M M' : Mat} {g cap : Nat} {e : Nat → Value} {x : Value} (h : OwnE w lo hi v R n M g cap e) (i : Nat) (hi' : i < R) (ho : Own w lo2 hi2 x (n' i) (M' i)) (h1 : hi ≤ lo2) (h2 : hi ≤ hi2)
    (hn : ∀ j, j < R → j ≠ i → n' j = n j) (hM : ∀ j, j < R → j ≠ i → M' j = M j) : OwnE (w.setCell ⟨g, i, none⟩ x) lo hi2 v R n' M' g cap (fun j => if j = i then x else e j) := by
  have hg := h.high
  have hl := h.low
  have hr := h.row
  rw [h.val] at hr
  have hst := (hr.stored i x).1
  rw [valsOf_set R e (fun j => if j = i then x else e j) i x hi' (fun j _ => rfl)] at hst
  have oth : ∀ b, b ≠ g → (w.setCell ⟨g, i, none⟩ x).heap[b]? = w.heap[b]? := fun b hbg => heap_setCell_other w ⟨g, i, none⟩ b _ hbg
  have new : ∀ k, x.ownBlock = some k → hi ≤ k := fun k hk => by have := (ho.1.lt k hk).1; omega
  refine ⟨h.val, h.low, by omega, by rw [h.val]; exact hst, fun j hj => ?_, ⟨fun j hj => ?_, fun j l hj hl hne k hk => ?_⟩⟩
  · by_cases c : j = i
    · subst c
      simp only [if_pos]
      exact (ho.kept fun k hk => oth k (by have := new k hk; omega)).weaken (by omega) (Nat.le_refl _)
    · simp only [if_neg c]
      rw [hM j hj c, hn j hj c]
      exact ((h.each j hj).kept fun k hk => oth k fun hkg => h.apart.1 j hj (by rw [hk, hkg])).weaken (Nat.le_refl _) (by omega)
  · by_cases c : j = i
    · simp only [if_pos c]
      intro hh
      have := new g hh
      omega
    · simp only [if_neg c]
      exact h.apart.1 j hj
  · have low : ∀ q, q < R → ∀ k, (e q).ownBlock = some k → k < hi := fun q hq k hk => (h.each q hq).2 k hk
    by_cases c : j = i
    · have c2 : ¬ l = i := fun z => hne (by rw [c, z])
      simp only [if_pos c] at hk
      simp only [if_neg c2]
      intro hh
      have h1 := new k hk
      have h3 := low l hl k hh
      omega
    · simp only [if_neg c] at hk
      by_cases c2 : l = i
      · simp only [if_pos c2]
        intro hh
        have h1 := new k hh
        have h3 := low j hj k hk
        omega
      · simp only [if_neg c2]
        exact h.apart.2 j l hj hl hne k hk
end Go.Proofs.YtkijpgfmjogagaaGreat
namespace Go.Proofs.YtkijpgfmjogagaaGreat
open Go.RowKit F256
def BoolP (P : Prop) (w : World) (e : Ending) (w' : World) : Prop := ∃ b : Bool, e = .returned (.bool b) ∧ (b = true ↔ P) ∧ Below w.heap.size w w'
theorem boolYes {P : Prop} {w : World} {e : Ending} {w' : World} (he : e = .returned (.bool true)) (h : P) (hb : Below w.heap.size w w') : BoolP P w e w' := ⟨true, he, ⟨fun _ => h, fun _ => rfl⟩, hb⟩
theorem boolNo {P : Prop} {w : World} {e : Ending} {w' : World} (he : e = .returned (.bool false)) (h : ¬ P) (hb : Below w.heap.size w w') : BoolP P w e w' := ⟨false, he, ⟨fun h => (by cases h), fun hh => absurd hh h⟩, hb⟩
def Shp (d s : Int) : Prop := 1 ≤ d ∧ d ≤ 3 ∧ 0 ≤ s ∧ s ≤ 2
theorem l2Shape_any (d s : Int) (w : World) :
    Calls Tryz.prog 83 #[.int .i64 d, .int .i64 s] w (BoolP (Shp d s) w) := by
  by_cases h1 : 1 ≤ d ∧ d ≤ 3
  · by_cases h2 : 0 ≤ s ∧ s ≤ 2
    · go_enter Tryz.func83, Tryz.ntmps83
      go_wp2_with fail
      refine (l1In_yes d 1 3 h1.1 h1.2 _).mono ?_
      rintro e w1 ⟨rfl, rfl⟩
      go_wp2_with fail
      refine (l1In_yes s 0 2 h2.1 h2.2 _).mono ?_
      rintro e w1 ⟨rfl, rfl⟩
      go_wp2
      go_ret
      exact boolYes rfl ⟨h1.1, h1.2, h2.1, h2.2⟩ (Below.refl _ _)
    · go_enter Tryz.func83, Tryz.ntmps83
      go_wp2_with fail
      refine (l1In_yes d 1 3 h1.1 h1.2 _).mono ?_
      rintro e w1 ⟨rfl, rfl⟩
      go_wp2_with fail
      refine (l1In_no s 0 2 (by omega) _).mono ?_
      rintro e w1 ⟨rfl, rfl⟩
      go_wp2
      go_ret
      exact boolNo rfl (fun h => h2 ⟨h.2.2.1, h.2.2.2⟩) (Below.refl _ _)
  · go_enter Tryz.func83, Tryz.ntmps83
    go_wp2_with fail
    refine (l1In_no d 1 3 (by omega) _).mono ?_
    rintro e w1 ⟨rfl, rfl⟩
    go_wp2
    go_ret
    exact boolNo rfl (fun h => h1 ⟨h.1, h.2.1⟩) (Below.refl _ _)
def SameP (n m : Nat) (f g : Nat → Nat) : Prop := n = m ∧ ∀ i, i < n → f i = g i
set_option maxHeartbeats 1000000 in
theorem l2Same_any (v1 v2 : Value) (n m : Nat) (f g : Nat → Nat) (h1 h2 : Nat) (w : World) (r1 : Rd w h1 v1 n f) (r2 : Rd w h2 v2 m g) :
    Calls Tryz.prog 60 #[v1, v2] w (BoolP (SameP n m f g) w) := by
  obtain ⟨ao, cap, rfl, hm, hc⟩ := r1
  obtain ⟨ao2, cap2, rfl, hm2, hc2⟩ := r2
  unfold maxLen at hm hm2
  by_cases hnm : n = m
  · subst hnm
    go_enter Tryz.func60, Tryz.ntmps60
    go_wp2
    go_loopw [5] (fun i wr => ∃ k : Nat, k ≤ n ∧ i = .int .i64 k ∧ (∀ i, i < k → f i = g i) ∧ ∃ m, wr = w.drewN m) (fun i _ => n - (intOf i).toNat)
    case atStart => exact ⟨0, Nat.zero_le _, rfl, fun i hi => by omega, 0, rfl⟩
    case round =>
      obtain ⟨k, hk, rfl, hall, q, rfl⟩ := hrel
      have HALL : Hid (∀ i, i < k → f i = g i) := hall
      clear hall
      by_cases hlt : k < n
      · obtain ⟨b, off, rfl, hblt, hcell⟩ := hc (by omega)
        obtain ⟨b2, off2, rfl, hblt2, hcell2⟩ := hc2 (by omega)
        have hck : w.cell? ⟨b, off + k, none⟩ = some (.int .u8 (f k)) := hcell k hlt
        have hck2 : w.cell? ⟨b2, off2 + k, none⟩ = some (.int .u8 (g k)) := hcell2 k hlt
        obtain ⟨x, hx⟩ : ∃ x, x = f k := ⟨_, rfl⟩
        obtain ⟨y, hy⟩ : ∃ y, y = g k := ⟨_, rfl⟩
        have HX : Hid (x = f k) := hx
        have HY : Hid (y = g k) := hy
        rw [← hx] at hck
        rw [← hy] at hck2
        clear hc hc2 hcell hcell2 hx hy
        by_cases heq : x = y
        · subst heq
          go_wp2
          go_quiet (fail)
          go_wp2
          go_roundw
          case rel => exact ⟨k + 1, by omega, by go_num, fun i hi => by
                        by_cases c : i = k
                        · rw [c, ← HX.out, ← HY.out]
                        · exact HALL.out i (by omega), _, rfl⟩
          case measure => simp [intOf]; omega
        · have tn : ((x : Int) != (y : Int)) = true := by simp; omega
          go_wp2
          go_quiet (fail)
          go_wp2
          go_ret
          exact boolNo rfl (fun h => absurd (h.2 k hlt) (by rw [← HX.out, ← HY.out]; exact heq)) (below_drewN (below_drewN (Below.refl _ _) _) _)
      · have hkn : k = n := by omega
        subst hkn
        go_wp2
        go_ret
        exact boolYes rfl ⟨rfl, HALL.out⟩ (below_drewN (Below.refl _ _) _)
  · have tn : ((n : Int) != (m : Int)) = true := by simp; omega
    clear hc hc2
    go_enter Tryz.func60, Tryz.ntmps60
    go_wp2
    go_ret
    exact boolNo rfl (fun h => hnm h.1) (Below.refl _ _)
set_option maxHeartbeats 1000000 in
theorem l2Gen_any (n p base : Nat) (hn : n ≤ 16) (hp : base + p < n + 16) (w : World) :
    Calls Tryz.prog 93 #[.int .i64 n, .int .i64 p, .int .i64 base] w fun e w' => ∃ v', e = .returned v' ∧ Own w' w.heap.size w'.heap.size v' n (genN n p base) ∧ Below w.heap.size w w' := by
  go_enter Tryz.func93, Tryz.ntmps93
  go_wp2_with (at_make; refine wp_makeB _ rfl _ _ rfl _ _ n rfl rfl rfl rfl (by omega) ?_; intro w1 hown1 hb1 hz1)
  go_loopw [8] (fun i wr => ∃ k : Nat, k ≤ n ∧ i = .int .i64 k ∧ Own wr w.heap.size w1.heap.size (.slice (some ⟨w.heap.size, 0, none⟩) n n) n (fun i => if i < k then genN n p base i else 0) ∧ Out w.heap.size w1.heap.size w1 wr) (fun i _ => n - (intOf i).toNat)
  case atStart => exact ⟨0, Nat.zero_le _, rfl, hown1, Out.refl _ _ _⟩
  case round =>
    clear hown1
    obtain ⟨k, hk, rfl, hown, hout⟩ := hrel
    by_cases hlt : k < n
    · have hco : wr.cell? ⟨w.heap.size, k, none⟩ = some (.int .u8 (0 : Nat)) := by
        have := hown.1.cellAt k (by omega)
        rw [this, cellsOf_get _ _ _ hlt, if_neg (Nat.lt_irrefl k)]
      have hfo : wr.frozen? ⟨w.heap.size, k, none⟩ = false := hown.1.frozenAt k
      have RW : Own (wr.setCell ⟨w.heap.size, k, none⟩ (.int .u8 (genN n p base k))) w.heap.size w1.heap.size (.slice (some ⟨w.heap.size, 0, none⟩) n n) n (fun i => if i < k + 1 then genN n p base i else 0) :=
        hown.store k _ hlt (fun i _ => by
          by_cases c1 : i = k
          · subst c1; simp
          · by_cases c2 : i < k
            · have c3 : i < k + 1 := by omega
              simp [c1, c2, c3]
            · have c3 : ¬ i < k + 1 := by omega
              simp [c1, c2, c3])
      have RO : Out w.heap.size w1.heap.size w1 (wr.setCell ⟨w.heap.size, k, none⟩ (.int .u8 (genN n p base k))) := hout.trans (out_store wr _ _ _ k _ (Nat.le_refl _) hz1)
      by_cases hpn : n ≤ p
      · have hg : genN n p base k = powN ((128 + (base + p - n)) ^^^ k) 254 := by simp [genN, hpn]
        rw [hg] at RW RO
        obtain ⟨q, hq⟩ : ∃ q, q = base + p - n := ⟨_, rfl⟩
        rw [← hq] at RW RO
        have hsum : (base : Int) + (p : Int) - (n : Int) = (q : Int) := by omega
        have C := l1Cauchy_any q k (by omega) (by omega)
        have hw1 : IntKind.i64.wrap ((base : Int) + (p : Int)) = (base : Int) + (p : Int) := by rw [IntKind.wrap_i64]; omega
        have hw2 : IntKind.i64.wrap ((base : Int) + (p : Int) - (n : Int)) = (q : Int) := by rw [IntKind.wrap_i64]; omega
        have HRW : Hid (Own (wr.setCell ⟨w.heap.size, k, none⟩ (.int .u8 (powN ((128 + q) ^^^ k) 254))) w.heap.size w1.heap.size (.slice (some ⟨w.heap.size, 0, none⟩) n n) n (fun i => if i < k + 1 then genN n p base i else 0)) := RW
        clear hown hout hg hq RW
        go_wp2_with fail
        refine (C _).mono ?_
        rintro e w2 ⟨rfl, rfl⟩
        go_wp2
        go_roundw
        case rel => exact ⟨k + 1, by omega, by go_num, HRW.out, RO⟩
        case measure => simp [intOf]; omega
      · have HRW : Hid (Own (wr.setCell ⟨w.heap.size, k, none⟩ (.int .u8 (genN n p base k))) w.heap.size w1.heap.size (.slice (some ⟨w.heap.size, 0, none⟩) n n) n (fun i => if i < k + 1 then genN n p base i else 0)) := RW
        have HRO : Hid (Out w.heap.size w1.heap.size w1 (wr.setCell ⟨w.heap.size, k, none⟩ (.int .u8 (genN n p base k)))) := RO
        have hd1 : decide ((n : Int) ≤ (p : Int)) = false := by simp; omega
        have HOW : Hid (Own wr w.heap.size w1.heap.size (.slice (some ⟨w.heap.size, 0, none⟩) n n) n (fun i => if i < k then genN n p base i else 0)) := hown
        have HOU : Hid (Out w.heap.size w1.heap.size w1 wr) := hout
        clear hown hout RW RO
        by_cases hkp : k = p
        · subst hkp
          have hg : genN n k base k = 1 := by simp [genN, hpn]
          have tk : ((k : Int) == (k : Int)) = true := by simp
          go_wp2
          go_roundw
          case rel => exact ⟨k + 1, by omega, by go_num, by have := HRW.out; rw [hg] at this; exact this, by have := HRO.out; rw [hg] at this; exact this⟩
          case measure => simp [intOf]; omega
        · have hg : genN n p base k = 0 := by simp [genN, hpn, hkp]
          have tk : ((k : Int) == (p : Int)) = false := by simp; omega
          go_wp2
          go_roundw
          case rel => exact ⟨k + 1, by omega, by go_num, HOW.out.congr (fun i hi => by
                        by_cases c1 : i = k
                        · subst c1; simp [hg]
                        · by_cases c2 : i < k
                          · have c3 : i < k + 1 := by omega
                            simp [c2, c3]
                          · have c3 : ¬ i < k + 1 := by omega
                            simp [c2, c3]), HOU.out⟩
          case measure => simp [intOf]; omega
    · have hkn : k = n := by omega
      subst hkn
      have h6 := hown.congr (g := genN k p base) (fun i hi => by simp [hi])
      have hsz := hout.size
      have hb6 : Below w.heap.size w wr := hb1.trans hout.below
      clear hown hout
      go_wp2
      go_ret
      exact ⟨_, rfl, h6.weaken (Nat.le_refl _) (by omega), hb6⟩
end Go.Proofs.YtkijpgfmjogagaaGreat
namespace Go.Proofs.YtkijpgfmjogagaaGreat
open Go.RowKit F256
def RiseP (n : Nat) (g : Nat → Int) (most : Int) : Prop := ∀ i, i < n → 0 ≤ g i ∧ g i ≤ most ∧ (0 < i → g (i - 1) < g i)
set_option maxHeartbeats 2000000 in
theorem l2Rise_any (v : Value) (n : Nat) (g : Nat → Int) (hi : Nat) (most : Int) (w : World) (r : RdI w hi v n g) :
    Calls Tryz.prog 88 #[v, .int .i64 most] w (BoolP (RiseP n g most) w) := by
  obtain ⟨ao, cap, rfl, hm, hc⟩ := r
  unfold maxLen at hm
  go_enter Tryz.func88, Tryz.ntmps88
  go_wp2
  go_loopw [5] (fun i wr => ∃ k : Nat, k ≤ n ∧ i = .int .i64 k ∧ (∀ i, i < k → 0 ≤ g i ∧ g i ≤ most ∧ (0 < i → g (i - 1) < g i)) ∧ ∃ q, wr = w.drewN q) (fun i _ => n - (intOf i).toNat)
  case atStart => exact ⟨0, Nat.zero_le _, rfl, fun i hi => by omega, 0, rfl⟩
  case round =>
    obtain ⟨k, hk, rfl, hall, q, rfl⟩ := hrel
    have HALL : Hid (∀ i, i < k → 0 ≤ g i ∧ g i ≤ most ∧ (0 < i → g (i - 1) < g i)) := hall
    clear hall
    by_cases hlt : k < n
    · obtain ⟨b, off, rfl, hblt, hcell⟩ := hc (by omega)
      have hck : w.cell? ⟨b, off + k, none⟩ = some (.int .i64 (g k)) := hcell k hlt
      have HCL : Hid (∀ i, i < n → w.cell? ⟨b, off + i, none⟩ = some (.int .i64 (g i))) := hcell
      obtain ⟨x, hx⟩ : ∃ x, x = g k := ⟨_, rfl⟩
      have HX : Hid (x = g k) := hx
      rw [← hx] at hck
      clear hc hcell hx
      by_cases h1 : x < 0
      · have no : ¬ RiseP n g most := fun h => by have := (h k hlt).1; rw [← HX.out] at this; omega
        have HNO : Hid (¬ RiseP n g most) := no
        clear no
        go_wp2
        go_quiet (fail)
        go_wp2
        go_ret
        exact boolNo rfl HNO.out (below_drewN (below_drewN (Below.refl _ _) _) _)
      · have e1 : decide (x < 0) = false := by simp; omega
        by_cases h2 : most < x
        · have HNO : Hid (¬ RiseP n g most) := fun h => by have := (h k hlt).2.1; rw [← HX.out] at this; omega
          go_wp2
          go_quiet (fail)
          go_wp2
          go_ret
          exact boolNo rfl HNO.out (below_drewN (below_drewN (Below.refl _ _) _) _)
        · have e2 : decide (most < x) = false := by simp; omega
          by_cases h3 : 0 < k
          · obtain ⟨k1, hk1⟩ : ∃ k1, k1 + 1 = k := ⟨k - 1, by omega⟩
            have hcp : w.cell? ⟨b, off + k1, none⟩ = some (.int .i64 (g k1)) := HCL.out k1 (by omega)
            obtain ⟨y, hy⟩ : ∃ y, y = g k1 := ⟨_, rfl⟩
            have HY : Hid (y = g (k - 1)) := by show y = g (k - 1); rw [hy, show k - 1 = k1 by omega]
            rw [← hy] at hcp
            have wsub : IntKind.i64.wrap ((k : Int) - 1) = (k1 : Int) := by rw [IntKind.wrap_i64]; omega
            have hk1n : k1 < n := by omega
            have e3 : ((0 : Int) < (k : Int)) := by omega
            have HK1 : Hid (k1 + 1 = k) := hk1
            clear hy hk1
            by_cases h4 : x ≤ y
            · have HNO : Hid (¬ RiseP n g most) := fun h => by have := (h k hlt).2.2 h3; rw [← HX.out, ← HY.out] at this; omega
              go_wp2
              go_quiet (fail)
              go_wp2
              go_ret
              exact boolNo rfl HNO.out (below_drewN (below_drewN (Below.refl _ _) _) _)
            · have e4 : decide (x ≤ y) = false := by simp; omega
              have HF : Hid (0 ≤ g k ∧ g k ≤ most ∧ (0 < k → g (k - 1) < g k)) := by
                show 0 ≤ g k ∧ g k ≤ most ∧ (0 < k → g (k - 1) < g k)
                rw [← HX.out, ← HY.out]
                exact ⟨by omega, by omega, fun _ => by omega⟩
              go_wp2
              go_quiet (fail)
              go_wp2
              go_roundw
              case rel => exact ⟨k + 1, by omega, by go_num, fun i hi => by
                            by_cases c : i = k
                            · rw [c]; exact HF.out
                            · exact HALL.out i (by omega), _, rfl⟩
              case measure => simp [intOf]; omega
          · have HF : Hid (0 ≤ g k ∧ g k ≤ most) := by
              show 0 ≤ g k ∧ g k ≤ most
              rw [← HX.out]
              exact ⟨by omega, by omega⟩
            have e3 : decide ((0 : Int) < (k : Int)) = false := by simp; omega
            have e3n : decide (0 < k) = false := by simp; omega
            have HK0 : Hid (k = 0) := by show k = 0; omega
            clear h3
            go_wp2
            go_quiet (fail)
            go_wp2
            go_roundw
            case rel => exact ⟨k + 1, by omega, by go_num, fun i hi => by
                          have := HK0.out
                          obtain rfl : i = k := by omega
                          exact ⟨HF.out.1, HF.out.2, fun h => by omega⟩, _, rfl⟩
            case measure => simp [intOf]; omega
    · obtain rfl : k = n := by omega
      go_wp2
      go_ret
      exact boolYes rfl HALL.out (below_drewN (Below.refl _ _) _)
end Go.Proofs.YtkijpgfmjogagaaGreat
namespace Go.Proofs.YtkijpgfmjogagaaGreat
open F256
def Shp3 (d s : Int) : Prop := 1 ≤ d ∧ d ≤ 4 ∧ 0 ≤ s ∧ s ≤ 2
def EvenP (R : Nat) (n : Nat → Nat) : Prop := ∀ i, i < R → n i = n 0
def CeAns (R : Nat) (n : Nat → Nat) (c : Int) (x : Int) : Prop := (x = 3 ∧ ¬ Shp3 R c) ∨ (x = 1 ∧ Shp3 R c ∧ ¬ EvenP R n) ∨ (x = 2 ∧ Shp3 R c ∧ EvenP R n ∧ 4000 < n 0) ∨ (x = 0 ∧ Shp3 R c ∧ EvenP R n ∧ n 0 ≤ 4000)
theorem CeAns.one {R : Nat} {n : Nat → Nat} {c : Int} {x y : Int} (h : CeAns R n c x) (k : CeAns R n c y) : x = y := by
  rcases h with ⟨rfl, h⟩ | ⟨rfl, h, h2⟩ | ⟨rfl, h, h2, h3⟩ | ⟨rfl, h, h2, h3⟩ <;> rcases k with ⟨rfl, k⟩ | ⟨rfl, k, k2⟩ | ⟨rfl, k, k2, k3⟩ | ⟨rfl, k, k2, k3⟩ <;> first | rfl | exact absurd h k | exact absurd k h | exact absurd h2 k2 | exact absurd k2 h2 | omega
def FacP (g c gr p : Int) : Prop := Shp3 g c ∧ (0 ≤ gr ∧ gr ≤ g - 1) ∧ (0 ≤ p ∧ p ≤ c - 1)
def FacAns (g c gr p : Int) (x v : Int) : Prop := (x = 3 ∧ v = 0 ∧ ¬ FacP g c gr p) ∨ (x = 0 ∧ FacP g c gr p ∧ v = ((powN ((128 + (8 + p.toNat)) ^^^ gr.toNat) 254 : Nat) : Int))
theorem FacAns.one {g c gr p : Int} {x v y u : Int} (h : FacAns g c gr p x v) (k : FacAns g c gr p y u) : x = y ∧ v = u := by
  rcases h with ⟨rfl, rfl, h⟩ | ⟨rfl, h, rfl⟩ <;> rcases k with ⟨rfl, rfl, k⟩ | ⟨rfl, k, rfl⟩
  · exact ⟨rfl, rfl⟩
  · exact absurd k h
  · exact absurd h k
  · exact ⟨rfl, rfl⟩
def HasP (n : Nat) (g : Nat → Int) (x : Int) : Prop := ∃ i, i < n ∧ g i = x
def ShAns (g c : Int) (m : Nat) (h : Nat → Int) (want : Int) (x : Int) : Prop :=
  (x = 3 ∧ ¬ Shp3 g c) ∨ (x = 1 ∧ Shp3 g c ∧ ¬ RiseP m h (g + c - 1)) ∨ (x = 3 ∧ Shp3 g c ∧ RiseP m h (g + c - 1) ∧ ¬ (0 ≤ want ∧ want ≤ g + c - 1)) ∨
    (x = 7 ∧ Shp3 g c ∧ RiseP m h (g + c - 1) ∧ (0 ≤ want ∧ want ≤ g + c - 1) ∧ HasP m h want) ∨ (x = 10 ∧ Shp3 g c ∧ RiseP m h (g + c - 1) ∧ (0 ≤ want ∧ want ≤ g + c - 1) ∧ ¬ HasP m h want ∧ (m : Int) < g) ∨
    (x = 0 ∧ Shp3 g c ∧ RiseP m h (g + c - 1) ∧ (0 ≤ want ∧ want ≤ g + c - 1) ∧ ¬ HasP m h want ∧ g ≤ (m : Int))
theorem ShAns.one {g c : Int} {m : Nat} {h : Nat → Int} {want : Int} {x y : Int} (a : ShAns g c m h want x) (b : ShAns g c m h want y) : x = y := by
  rcases a with ⟨rfl, a⟩ | ⟨rfl, a, a2⟩ | ⟨rfl, a, a2, a3⟩ | ⟨rfl, a, a2, a3, a4⟩ | ⟨rfl, a, a2, a3, a4, a5⟩ | ⟨rfl, a, a2, a3, a4, a5⟩ <;> rcases b with ⟨rfl, b⟩ | ⟨rfl, b, b2⟩ | ⟨rfl, b, b2, b3⟩ | ⟨rfl, b, b2, b3, b4⟩ | ⟨rfl, b, b2, b3, b4, b5⟩ | ⟨rfl, b, b2, b3, b4, b5⟩ <;> first | rfl | exact absurd a b | exact absurd b a | exact absurd a2 b2 | exact absurd b2 a2 | exact absurd a3 b3 | exact absurd b3 a3 | exact absurd a4 b4 | exact absurd b4 a4 | omega
def EvenM (R : Nat) (n : Nat → Nat) : Prop := EvenP (cntN n R) fun t => n (nthN n R t)
def DcAns (g c : Int) (R : Nat) (n : Nat → Nat) (x : Int) : Prop :=
  (x = 3 ∧ ¬ Shp3 g c) ∨ (x = 1 ∧ Shp3 g c ∧ (R : Int) ≠ g + c) ∨ (x = 1 ∧ Shp3 g c ∧ (R : Int) = g + c ∧ ¬ EvenM R n) ∨
    (x = 2 ∧ Shp3 g c ∧ (R : Int) = g + c ∧ EvenM R n ∧ (0 < cntN n R ∧ 4000 < n (nthN n R 0))) ∨ (x = 10 ∧ Shp3 g c ∧ (R : Int) = g + c ∧ EvenM R n ∧ ¬ (0 < cntN n R ∧ 4000 < n (nthN n R 0)) ∧ (cntN n R : Int) < g) ∨
    (x = 0 ∧ Shp3 g c ∧ (R : Int) = g + c ∧ EvenM R n ∧ ¬ (0 < cntN n R ∧ 4000 < n (nthN n R 0)) ∧ g ≤ (cntN n R : Int))
theorem DcAns.one {g c : Int} {R : Nat} {n : Nat → Nat} {x y : Int} (a : DcAns g c R n x) (b : DcAns g c R n y) : x = y := by
  rcases a with ⟨rfl, a⟩ | ⟨rfl, a, a2⟩ | ⟨rfl, a, a2, a3⟩ | ⟨rfl, a, a2, a3, a4⟩ | ⟨rfl, a, a2, a3, a4, a5⟩ | ⟨rfl, a, a2, a3, a4, a5⟩ <;> rcases b with ⟨rfl, b⟩ | ⟨rfl, b, b2⟩ | ⟨rfl, b, b2, b3⟩ | ⟨rfl, b, b2, b3, b4⟩ | ⟨rfl, b, b2, b3, b4, b5⟩ | ⟨rfl, b, b2, b3, b4, b5⟩ <;> first | rfl | exact absurd a b | exact absurd b a | exact absurd a2 b2 | exact absurd b2 a2 | exact absurd a3 b3 | exact absurd b3 a3 | exact absurd a4 b4 | exact absurd b4 a4 | omega
def AdsAns (n m : Nat) (x : Int) : Prop := (x = 1 ∧ n ≠ m) ∨ (x = 2 ∧ n = m ∧ 4000 < n) ∨ (x = 0 ∧ n = m ∧ n ≤ 4000)
theorem AdsAns.one {n m : Nat} {x y : Int} (h : AdsAns n m x) (k : AdsAns n m y) : x = y := by
  rcases h with ⟨rfl, h⟩ | ⟨rfl, h, h2⟩ | ⟨rfl, h, h2⟩ <;> rcases k with ⟨rfl, k⟩ | ⟨rfl, k, k2⟩ | ⟨rfl, k, k2⟩ <;> first | rfl | omega
end Go.Proofs.YtkijpgfmjogagaaGreat
namespace Go.Proofs.YtkijpgfmjogagaaGreat
open Go.RowKit F256
theorem cellsOf_join (k m : Nat) (g f : Nat → Nat) (hg : ∀ i, i < m → g (k + i) = f i) : cellsOf k g ++ cellsOf m f = cellsOf (k + m) g := by
  apply List.ext_getElem?
  intro i
  by_cases h : i < k
  · rw [List.getElem?_append_left (by rw [cellsOf_length]; exact h), cellsOf_get _ _ _ h, cellsOf_get _ _ _ (by omega)]
  · rw [List.getElem?_append_right (by rw [cellsOf_length]; omega), cellsOf_length]
    by_cases h2 : i - k < m
    · rw [cellsOf_get _ _ _ h2, cellsOf_get _ _ _ (by omega), ← hg _ h2, show k + (i - k) = i by omega]
    · rw [List.getElem?_eq_none (by rw [cellsOf_length]; omega), List.getElem?_eq_none (by rw [cellsOf_length]; omega)]
theorem valsOf_join (k m : Nat) (e e2 : Nat → Value) (hg : ∀ i, i < m → e (k + i) = e2 i) : valsOf k e ++ valsOf m e2 = valsOf (k + m) e := by
  apply List.ext_getElem?
  intro i
  by_cases h : i < k
  · rw [List.getElem?_append_left (by rw [valsOf_length]; exact h), valsOf_get _ _ _ h, valsOf_get _ _ _ (by omega)]
  · rw [List.getElem?_append_right (by rw [valsOf_length]; omega), valsOf_length]
    by_cases h2 : i - k < m
    · rw [valsOf_get _ _ _ h2, valsOf_get _ _ _ (by omega), ← hg _ h2, show k + (i - k) = i by omega]
    · rw [List.getElem?_eq_none (by rw [valsOf_length]; omega), List.getElem?_eq_none (by rw [valsOf_length]; omega)]
theorem row_weaken {w : World} {lo lo' : Nat} {t : TypeId} {v : Value} {k : Nat} {xs : List Value} (h : w.ownsRow lo t 1 v k xs) (hl : lo' ≤ lo) : w.ownsRow lo' t 1 v k xs := by
  refine ⟨h.1, ?_⟩
  rcases h.2 with hn | ⟨g, cap, cur, hg, hbg, rest⟩
  · exact .inl hn
  · exact .inr ⟨g, cap, cur, hg, by omega, rest⟩
theorem run_appendX (w : World) (ty : TypeId) (lo hi : Nat) (v : Value) (k : Nat) (g : Nat → Nat) (hown : Own w lo hi v k g) (h : Nat) (xv : Value) (m : Nat) (f : Nat → Nat) (hx : Rd w h xv m f) (h0 : 0 < m) (hg : ∀ i, i < m → g (k + i) = f i) (hm : k + m ≤ 1000000) (hlo : lo ≤ w.heap.size) :
    ∃ v' w', (Builtin.append_ #[91, 91] ty #[v, xv]).run Tryz.prog w = .ok v' w' ∧ Own w' lo w'.heap.size v' (k + m) g ∧ w.grownBy w' v.ownBlock := by
  obtain ⟨i0, hi0, hz0, hz1, hz2⟩ := info_parts info_u8
  obtain ⟨ao, cap, rfl, hml, hc⟩ := hx
  obtain ⟨b, off, rfl, hb, hcell⟩ := hc (by omega)
  obtain ⟨v', w', hr, h2, h3, _⟩ := run_append_own (P := Tryz.prog) w lo 91 ty 5 i0 (.int .u8 0) 1 1 Tryz.underlying91 hi0 hz0 hz1 hz2 rfl (by decide) v k (cellsOf k g) hown.1 ⟨b, off, none⟩ m cap (cellsOf m f) (by rw [cellsOf_length]; omega)
    (fun j u hj => by
      by_cases hjm : j < m
      · rw [cellsOf_get _ _ _ hjm] at hj
        cases hj
        rw [add_none']
        exact hcell j hjm
      · rw [List.getElem?_eq_none (by rw [cellsOf_length]; omega)] at hj
        cases hj)
    (cellsOf_one m f) (by unfold maxLen; omega) (by omega) hlo
  rw [cellsOf_join k m g f hg] at h2
  exact ⟨v', w', hr, ⟨h2, fun k hk => (h2.lt k hk).2⟩, h3⟩
theorem wp_appendX {ops : Array Oper} {rest : List Oper} {o : Oper} {a : Act} {w : World} {Q : Exit → Act → World → Prop}
    (hg : o.guard = none) (s x : Operand) (hop : o.op = Op.call { callee := Callee.builtin Builtin.append, args := #[s, x], argTypes := #[91, 91] })
    (lo hi : Nat) (v : Value) (k : Nat) (g : Nat → Nat) (hs : a.eval s = v) (hown : Own w lo hi v k g) (h : Nat) (xv : Value) (m : Nat) (f : Nat → Nat) (hx : a.eval x = xv) (hox : Rd w h xv m f) (h0 : 0 < m) (hgf : ∀ i, i < m → g (k + i) = f i)
    (hm : k + m ≤ 1000000) (hlo : lo ≤ w.heap.size)
    (hK : ∀ v' w', Own w' lo w'.heap.size v' (k + m) g → w.grownBy w' v.ownBlock → wpList Tryz.prog ops Q rest (a.put o.dst v') w') : wpList Tryz.prog ops Q (o :: rest) a w := by
  refine wpList_plain hg fun K hK' => ?_
  obtain ⟨v', w', hrun, r1, r2⟩ := run_appendX w o.type lo hi v k g hown h xv m f hox h0 hgf hm hlo
  unfold Oper.wp
  simp [execOp, hop, resolve, invoke, builtin, hs, hx, hrun, Result.andThen]
  exact hK' _ _ (hK v' w' r1 r2)
theorem wp_appendRows {ops : Array Oper} {rest : List Oper} {o : Oper} {a : Act} {w : World} {Q : Exit → Act → World → Prop}
    (hg : o.guard = none) (s x : Operand) (hop : o.op = Op.call { callee := Callee.builtin Builtin.append, args := #[s, x], argTypes := #[97, 97] })
    (lo : Nat) (v : Value) (k : Nat) (e : Nat → Value) (hs : a.eval s = v) (hown : w.ownsRow lo 91 1 v k (valsOf k e)) (b off m c : Nat) (hx : a.eval x = .slice (some ⟨b, off, none⟩) m c) (hcell : ∀ i, i < m → w.cell? ⟨b, off + i, none⟩ = some (e (k + i))) (hy : ∀ i, i < m → (e (k + i)).oneCell' = true)
    (hk : k + m ≤ 1000000) (hlo : lo ≤ w.heap.size)
    (hK : ∀ v' w', w'.ownsRow lo 91 1 v' (k + m) (valsOf (k + m) e) → w.grownBy w' v.ownBlock → (v' = nilS ↔ v = nilS ∧ m = 0) → wpList Tryz.prog ops Q rest (a.put o.dst v') w') : wpList Tryz.prog ops Q (o :: rest) a w := by
  obtain ⟨i0, hi0, hz0, hz1, hz2⟩ := info_parts info_sl
  refine wpList_append_own w hg s x 97 hop lo 91 i0 nilS 1 24 Tryz.underlying97 hi0 hz0 hz1 hz2 rfl (by decide) v k (valsOf k e) hs hown ⟨b, off, none⟩ m c (valsOf m fun i => e (k + i)) hx (by rw [valsOf_length]; omega) ?_ ?_ (by unfold maxLen; omega) (by omega) hlo ?_
  · intro j u hj
    by_cases hjm : j < m
    · rw [valsOf_get _ _ _ hjm] at hj
      cases hj
      rw [add_none']
      exact hcell j hjm
    · rw [List.getElem?_eq_none (by rw [valsOf_length]; omega)] at hj
      cases hj
  · intro u hu
    obtain ⟨i, hi, rfl⟩ := List.mem_map.1 hu
    exact hy i (List.mem_range.1 hi)
  · intro v' w' h1 h2 h3
    rw [valsOf_join k m e _ (fun _ _ => rfl)] at h1
    exact hK v' w' h1 h2 h3
theorem step_appendC {ops : Array Oper} {o : Oper} {a : Act} {w : World} {K : Act → World → Prop} {Q : Exit → Act → World → Prop} {E : Prop}
    (hg : o.guard = none) (s x : Operand) (hop : o.op = Op.call { callee := Callee.builtin Builtin.append, args := #[s, x], argTypes := #[91, 91] })
    (p : Nat) (z : Nat → Nat) (hs : a.eval s = .slice (some ⟨p, 0, none⟩) 0 0) (hown : Own w p (p + 1) (.slice (some ⟨p, 0, none⟩) 0 0) 0 z) (lo2 hi2 : Nat) (xv : Value) (m : Nat) (f : Nat → Nat) (hx : a.eval x = xv) (hox : Own w lo2 hi2 xv m f)
    (hm : m ≤ 1000000)
    (hK : ∀ v' w', Own w' p w'.heap.size v' m f → Chg p (p + 1) w w' → K (a.put o.dst v') w') :
    if Region.wanted o (yielded ops a.tmps) = true then Oper.wp Tryz.prog o a w K Q else E := by
  have hw : Region.wanted o (yielded ops a.tmps) = true := by simp [Region.wanted, hg]
  rw [if_pos hw]
  obtain ⟨i0, hi0, hz0, hz1, hz2⟩ := info_parts info_u8
  have hlo : p ≤ w.heap.size := Nat.le_of_lt (hown.1.lt p rfl).2
  have key : ∃ v' w', (Builtin.append_ #[91, 91] o.type #[.slice (some ⟨p, 0, none⟩) 0 0, xv]).run Tryz.prog w = .ok v' w' ∧ Own w' p w'.heap.size v' m f ∧ Chg p (p + 1) w w' := by
    rcases hox.1.2 with ⟨rfl, rfl⟩ | ⟨g, cap, cur, rfl, hbg, hgg, hnc, hcm, hcs, htake⟩
    · have hr := run_append_owned_none (P := Tryz.prog) w p 91 o.type 5 i0 1 Tryz.underlying91 hi0 _ 0 _ hown.1
      refine ⟨_, w, hr, ?_, Chg.refl' _ _ _⟩
      have := hown.congr (g := f) (fun i hi => by omega)
      exact ⟨this.1, fun k hk => (this.1.lt k hk).2⟩
    · obtain ⟨v', w', hr, h2, h3, _⟩ := run_append_own (P := Tryz.prog) w p 91 o.type 5 i0 (.int .u8 0) 1 1 Tryz.underlying91 hi0 hz0 hz1 hz2 rfl (by decide) (.slice (some ⟨p, 0, none⟩) 0 0) 0 (cellsOf 0 z) hown.1 ⟨g, 0, none⟩ m cap (cellsOf m f) (by rw [cellsOf_length]; omega)
        (fun j u hj => by
          by_cases hjm : j < m
          · rw [add_none', Nat.zero_add, hox.1.cellAt j (by omega)]
            exact hj
          · rw [List.getElem?_eq_none (by rw [cellsOf_length]; omega)] at hj
            cases hj)
        (cellsOf_one m f) (by unfold maxLen; omega) (by omega) hlo
      have h2' : w'.ownsRow p 5 1 v' m (cellsOf m f) := by
        have e0 : cellsOf 0 z ++ cellsOf m f = cellsOf m f := rfl
        rw [Nat.zero_add, e0] at h2
        exact h2
      refine ⟨v', w', hr, ⟨h2', fun k hk => (h2'.lt k hk).2⟩, ⟨h3.os, h3.tape, h3.output, h3.size, fun k hk hne => h3.block k hk ?_⟩⟩
      simp [Value.ownBlock]
      omega
  obtain ⟨v', w', hrun, r1, r2⟩ := key
  unfold Oper.wp
  simp [execOp, hop, resolve, invoke, builtin, hs, hx, hrun, Result.andThen]
  exact hK v' w' r1 r2
theorem step_appendM {ops : Array Oper} {o : Oper} {a : Act} {w : World} {K : Act → World → Prop} {Q : Exit → Act → World → Prop} {E : Prop}
    (hg : o.guard = none) (s x : Operand) (hop : o.op = Op.call { callee := Callee.builtin Builtin.append, args := #[s, x], argTypes := #[97, 97] })
    (lo : Nat) (v : Value) (k : Nat) (e : Nat → Value) (hs : a.eval s = v) (hown : w.ownsRow lo 91 1 v k (valsOf k e)) (b c : Nat) (y : Value) (hx : a.eval x = .slice (some ⟨b, 0, none⟩) 1 c) (hcell : w.cell? ⟨b, 0, none⟩ = some y) (hy : y.oneCell' = true)
    (hk : k + 1 ≤ 1000000) (hlo : lo ≤ w.heap.size)
    (hK : ∀ v' w', w'.ownsRow lo 91 1 v' (k + 1) (valsOf k e ++ [y]) → w.grownBy w' v.ownBlock → v' ≠ nilS → K (a.put o.dst v') w') :
    if Region.wanted o (yielded ops a.tmps) = true then Oper.wp Tryz.prog o a w K Q else E := by
  have hw : Region.wanted o (yielded ops a.tmps) = true := by simp [Region.wanted, hg]
  rw [if_pos hw]
  obtain ⟨i0, hi0, hz0, hz1, hz2⟩ := info_parts info_sl
  obtain ⟨v', w', hr, h1, h2, h3⟩ := run_append_own (P := Tryz.prog) w lo 97 o.type 91 i0 nilS 1 24 Tryz.underlying97 hi0 hz0 hz1 hz2 rfl (by decide) v k (valsOf k e) hown ⟨b, 0, none⟩ 1 c [y] rfl
    (fun j u hj => by
      match j, hj with
      | 0, hj => simp at hj; subst hj; simpa [Addr.add] using hcell)
    (fun u hu => by simp at hu; subst hu; exact hy) (by unfold maxLen; omega) (by omega) hlo
  unfold Oper.wp
  simp [execOp, hop, resolve, invoke, builtin, hs, hx, hr, Result.andThen]
  exact hK v' w' h1 h2 (fun hh => by have := (h3.mp hh).2; omega)
structure BldO (wr : World) (lo hi : Nat) (v : Value) (k : Nat) (n : Nat → Nat) (f : Mat) (e : Nat → Value) : Prop where
  row : wr.ownsRow lo 91 1 v k (valsOf k e)
  low : ∀ b, v.ownBlock = some b → b < hi
  each : ∀ i, i < k → Own wr lo hi (e i) (n i) (f i)
  apart : ∀ i j, i < k → j < k → i ≠ j → ∀ b, (e i).ownBlock = some b → (e j).ownBlock ≠ some b
  le : lo ≤ hi
  le2 : hi ≤ wr.heap.size
theorem BldO.kept {w w2 : World} {lo hi : Nat} {v : Value} {k : Nat} {n : Nat → Nat} {f : Mat} {e : Nat → Value} (h : BldO w lo hi v k n f e) (hk : ∀ b, lo ≤ b → b < hi → w2.heap[b]? = w.heap[b]?) (hs : hi ≤ w2.heap.size) : BldO w2 lo hi v k n f e :=
  ⟨row_kept h.row fun b hb => hk b (h.row.lt b hb).1 (h.low b hb), h.low, fun i hi => (h.each i hi).kept fun b hb => hk b ((h.each i hi).1.lt b hb).1 ((h.each i hi).2 b hb), h.apart, h.le, hs⟩
theorem BldO.next {w2 w4 : World} {lo hi lo2 hi2 : Nat} {v v' x : Value} {k : Nat} {n n' : Nat → Nat} {f f' : Mat} {e : Nat → Value} (h : BldO w2 lo hi v k n f e) (ho : Own w2 lo2 hi2 x (n' k) (f' k)) (hlo : hi ≤ lo2)
    (hn : ∀ i, i < k → n' i = n i) (hf : ∀ i, i < k → f' i = f i)
    (hr : w4.ownsRow lo 91 1 v' (k + 1) (valsOf k e ++ [x])) (hg : (w2.alloc (.cells #[x] 91)).grownBy w4 v.ownBlock) : BldO w4 lo w4.heap.size v' (k + 1) n' f' (fun i => if i = k then x else e i) := by
  have hs4 : w2.heap.size + 1 ≤ w4.heap.size := by have := hg.size; simpa using this
  have hle := h.le
  have hle2 := h.le2
  have hv : valsOf k e ++ [x] = valsOf (k + 1) (fun i => if i = k then x else e i) := by
    rw [← valsOf_snoc]
    simp only [if_pos]
    rw [valsOf_eq (e := e) (g := fun i => if i = k then x else e i) (fun i hi => by simp [show ¬ i = k by omega])]
  rw [hv] at hr
  have kp : ∀ {y : Value} {m : Nat} {q : Nat → Nat} {l u : Nat}, Own w2 l u y m q → Own w4 l w4.heap.size y m q := fun {y m q l u} hy =>
    ⟨(hy.kept fun b hb' => by
      have hlt := (hy.1.lt b hb').2
      rw [hg.block b (by simp; omega) (fun hh => two_blocks h.row hy b hh.symm hb')]
      exact Below.heap_alloc w2 _ b hlt).1, fun b hb' => by have := (hy.1.lt b hb').2; omega⟩
  refine ⟨hr, fun b hb => (hr.lt b hb).2, fun i hik => ?_, fun i j hik hj hne b hbi => ?_, by omega, Nat.le_refl _⟩
  · by_cases c : i = k
    · subst c
      simp only [if_pos]
      exact (kp ho).weaken (by omega) (Nat.le_refl _)
    · simp only [if_neg c]
      rw [hn i (by omega), hf i (by omega)]
      exact kp (h.each i (by omega))
  · have new : ∀ b, x.ownBlock = some b → hi ≤ b := fun b hb' => by have := (ho.1.lt b hb').1; omega
    have old : ∀ i, i < k → ∀ b, (e i).ownBlock = some b → b < hi := fun i hi b hb' => (h.each i hi).2 b hb'
    have hbi2 : (if i = k then x else e i).ownBlock = some b := hbi
    show (if j = k then x else e j).ownBlock ≠ some b
    by_cases c : i = k
    · have c2 : ¬ j = k := fun z => hne (by rw [c, z])
      rw [if_pos c] at hbi2
      rw [if_neg c2]
      intro hh
      have h5 := new b hbi2
      have h6 := old j (by omega) b hh
      omega
    · rw [if_neg c] at hbi2
      by_cases c2 : j = k
      · rw [if_pos c2]
        intro hh
        have h5 := new b hh
        have h6 := old i (by omega) b hbi2
        omega
      · rw [if_neg c2]
        exact h.apart i j (by omega) (by omega) hne b hbi2
theorem BldO.done {wr : World} {lo hi : Nat} {v : Value} {k : Nat} {n : Nat → Nat} {f : Mat} {e : Nat → Value} (h : BldO wr lo hi v k n f e) (hn : v ≠ nilS) : ∃ g cap, OwnE wr lo hi v k n f g cap e :=
  BldR.done ⟨h.row, hn, h.low, h.each, h.apart, h.le, h.le2⟩
theorem BldO.slice {wr : World} {lo hi : Nat} {v : Value} {k : Nat} {n : Nat → Nat} {f : Mat} {e : Nat → Value} (h : BldO wr lo hi v k n f e) : ∃ ao cap, v = .slice ao k cap := by
  rcases h.row.2 with ⟨h1, h2⟩ | ⟨g, cap, cur, h1, _⟩
  · subst h2
    exact ⟨_, _, h1⟩
  · exact ⟨_, _, h1⟩
end Go.Proofs.YtkijpgfmjogagaaGreat
namespace Go.Proofs.YtkijpgfmjogagaaGreat
open Go.RowKit F256
theorem l3Shape_any (d s : Int) (w : World) :
    Calls Tryz.prog 82 #[.int .i64 d, .int .i64 s] w (BoolP (Shp3 d s) w) := by
  by_cases h1 : 1 ≤ d ∧ d ≤ 4
  · by_cases h2 : 0 ≤ s ∧ s ≤ 2
    · go_enter Tryz.func82, Tryz.ntmps82
      go_wp2_with fail
      refine (l1In_yes d 1 4 h1.1 h1.2 _).mono ?_
      rintro e w1 ⟨rfl, rfl⟩
      go_wp2_with fail
      refine (l1In_yes s 0 2 h2.1 h2.2 _).mono ?_
      rintro e w1 ⟨rfl, rfl⟩
      go_wp2
      go_ret
      exact boolYes rfl ⟨h1.1, h1.2, h2.1, h2.2⟩ (Below.refl _ _)
    · go_enter Tryz.func82, Tryz.ntmps82
      go_wp2_with fail
      refine (l1In_yes d 1 4 h1.1 h1.2 _).mono ?_
      rintro e w1 ⟨rfl, rfl⟩
      go_wp2_with fail
      refine (l1In_no s 0 2 (by omega) _).mono ?_
      rintro e w1 ⟨rfl, rfl⟩
      go_wp2
      go_ret
      exact boolNo rfl (fun h => h2 ⟨h.2.2.1, h.2.2.2⟩) (Below.refl _ _)
  · go_enter Tryz.func82, Tryz.ntmps82
    go_wp2_with fail
    refine (l1In_no d 1 4 (by omega) _).mono ?_
    rintro e w1 ⟨rfl, rfl⟩
    go_wp2
    go_ret
    exact boolNo rfl (fun h => h1 ⟨h.1, h.2.1⟩) (Below.refl _ _)
end Go.Proofs.YtkijpgfmjogagaaGreat