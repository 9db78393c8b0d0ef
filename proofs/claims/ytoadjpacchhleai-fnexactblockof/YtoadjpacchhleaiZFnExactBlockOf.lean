/- For every three numbers and every list of slices of bytes the program's BlockOf answers as the specification's does, writes into no argument and hands back memory of its own: the law FnExactBlockOf returns true at every input, and changes nothing that was there. No condition. -/
import Derived.Test.YtoadjpacchhleaiWImplE
import Derived.Test.YtoadjpacchhleaiWSolveI
import Derived.Test.YtoadjpacchhleaiGaussU
import Derived.Test.YtoadjpacchhleaiRowDefs
import Derived.Test.YtoadjpacchhleaiWJoin
import Derived.Test.YtoadjpacchhleaiRowAns
import Derived.Test.YtoadjpacchhleaiRows
import Derived.Test.YtoadjpacchhleaiFrameM
import Derived.Test.YtoadjpacchhleaiWRowL
namespace Go.Proofs.Ytoadjpacchhleai
open Go.RowKit F256
set_option linter.unusedVariables false
set_option linter.unusedSimpArgs false

theorem OwnE.congr {w : World} {lo hi : Nat} {v : Value} {R : Nat} {n : Nat → Nat} {M M' : Mat} {g cap : Nat} {e : Nat → Value} (h : OwnE w lo hi v R n M g cap e) (hM : ∀ i j, i < R → j < n i → M i j = M' i j) : OwnE w lo hi v R n M' g cap e :=
  ⟨h.val, h.low, h.high, h.row, fun i hi => (h.each i hi).congr (fun j hj => hM i j hi hj), h.apart⟩
/-- the rows of the weights on the way: the first k columns, of the next one the first m rows -/
def wayW (D : Nat) (hv : Nat → Nat) (k m : Nat) : Mat := fun i j => if j < k ∨ (j = k ∧ i < m) then wtM D 0 hv i j else 0
/-- a byte stored into its row -/
theorem OwnE.byte {w : World} {lo hi : Nat} {v : Value} {R C : Nat} {M M' : Mat} {g cap : Nat} {e : Nat → Value} (h : OwnE w lo hi v R (fun _ => C) M g cap e) (i k x gi ci : Nat) (hi' : i < R) (hk : k < C) (he : e i = .slice (some ⟨gi, 0, none⟩) C ci)
    (hM : ∀ a b, a < R → b < C → M' a b = if a = i ∧ b = k then x else M a b) (hlh : lo ≤ hi) : OwnE (w.setCell ⟨gi, k, none⟩ (.int .u8 x)) lo hi v R (fun _ => C) M' g cap e := by
  have ho := h.each i hi'
  have ho2 := ho
  rw [he] at ho
  have hM2 : ∀ a b, a < R → b < C → (fun a b => if a = i then M' a b else M a b) a b = M' a b := fun a b ha hb => by
    show (if a = i then M' a b else M a b) = M' a b
    by_cases c : a = i
    · rw [if_pos c]
    · rw [if_neg c, hM a b ha hb, if_neg (fun hh => c hh.1)]
  refine OwnE.congr (M := fun a b => if a = i then M' a b else M a b) (OwnE.upd h i hi' ?_ ?_ (fun j _ hj => by funext b; show (if j = i then M' j b else M j b) = M j b; rw [if_neg hj])) (fun a b ha hb => hM2 a b ha hb)
  · have t1 : tlo (e i) lo = gi := by rw [he]; rfl
    have t2 : thi (e i) lo = gi + 1 := by rw [he]; rfl
    rw [t1, t2]
    exact (out_store w gi (gi + 1) gi k _ (Nat.le_refl _) (Nat.lt_succ_self _)).chg
  · rw [he]
    exact ho.store k x hk (fun b hb => by
      show (if i = i then M' i b else M i b) = _
      rw [if_pos rfl, hM i b hi' hb]
      by_cases c : b = k
      · rw [if_pos ⟨rfl, c⟩, if_pos c]
      · rw [if_neg (fun hh => c hh.2), if_neg c])

theorem fieldB1 (x : Int) (v : Value) (w : World) : (Instr.field 25 (.agg #[.int .i64 x, v]) 1).run Try.prog w = .ok v w := by kernel_rfl

set_option maxHeartbeats 4000000 in
theorem weightsOf_any (D want : Nat) (vh : Value) (hv : Nat → Nat) (h1 : Nat) (w : World) (rh : RdI w h1 vh D (fun i => (hv i : Int))) (hh : h1 ≤ w.heap.size) (hD1 : 1 ≤ D) (hD : D ≤ 3) (hb : ∀ k, k < D → hv k < D + 2) (hr : ∀ k, k + 1 < D → hv k < hv (k + 1)) (hw : want < D + 2) :
    Calls Try.prog 46 #[.int .i64 D, vh, .int .i64 want] w fun e w' => ∃ v', e = .returned v' ∧ Own w' w.heap.size w'.heap.size v' D (weightsN D 0 hv want) ∧ Below w.heap.size w w' := by
  obtain ⟨aoh, caph, rfl, hmm, hch⟩ := rh
  obtain ⟨bh, oh, rfl, hbh, hcell⟩ := hch (by omega)
  have HC : Hid (∀ i, i < D → w.cell? ⟨bh, oh + i, none⟩ = some (.int .i64 (hv i : Int))) := hcell
  have HBD : Hid (∀ k, k < D → hv k < D + 2) := hb
  have HFULL : Hid ((gaussM D (aug D (wtM D 0 hv) (genN D want 0)) D).2 = D) := row_full D hD1 hD hv (genN D want 0) hb hr
  have hbw : bh < w.heap.size := by omega
  clear hch hcell hb hr hmm
  go_enter Try.func46, Try.ntmps46
  go_wp2_with (at_make; refine wp_makeM _ rfl _ _ rfl _ _ D rfl rfl rfl rfl (by omega) ?_; intro w1 hown1 hb1 hz1)
  go_loopw [15] (fun i wr => ∃ k : Nat, k ≤ D ∧ i = .int .i64 k ∧ ∃ e', Cpy w wr D k (fun _ => D) (wayW D hv 0 0) e' ∧ ∀ i, i < k → ∃ gi ci, e' i = .slice (some ⟨gi, 0, none⟩) D ci) (fun i _ => D - (intOf i).toNat)
  case atStart => exact ⟨0, Nat.zero_le _, rfl, fun _ => nilS, ⟨by rw [valsOf_eq (g := fun _ => nilS) (fun i hi => by simp)]; exact hown1, fun i hi => by omega, ⟨fun i hi => by omega, fun i j hi => by omega⟩, hb1, hz1⟩, fun i hi => by omega⟩
  case round =>
    clear hown1 hb1 hz1
    obtain ⟨k, hk, rfl, e', hcp, hsl⟩ := hrel
    by_cases hlt : k < D
    · have HSL : Hid (∀ i, i < k → ∃ gi ci, e' i = .slice (some ⟨gi, 0, none⟩) D ci) := hsl
      have HCP : Hid (Cpy w wr D k (fun _ => D) (wayW D hv 0 0) e') := hcp
      have hl := hcp.lt
      clear hsl hcp
      go_wp2_with (at_make; refine wp_makeB _ rfl _ _ rfl _ _ D rfl rfl rfl rfl (by omega) ?_; intro w2 ho2 hb2 hz2; have q1 : w2.cell? ⟨w.heap.size, k, none⟩ = some nilS := (by rw [hb2.cell (p := ⟨w.heap.size, k, none⟩) hl, HCP.out.row.cellAt k (by omega), valsOf_get _ _ _ hlt, if_neg (Nat.lt_irrefl k)]); have q2 : w2.frozen? ⟨w.heap.size, k, none⟩ = false := (hb2.frozen (p := ⟨w.heap.size, k, none⟩) hl).trans (HCP.out.row.frozenAt k))
      have N := HCP.out.next hlt hb2 (ho2.congr (g := wayW D hv 0 0 k) (fun i hi => by simp [wayW]))
      have NS : ∀ i, i < k + 1 → ∃ gi ci, (fun i => if i = k then Value.slice (some ⟨wr.heap.size, 0, none⟩) D D else e' i) i = .slice (some ⟨gi, 0, none⟩) D ci := fun i hi => by
        show ∃ gi ci, (if i = k then Value.slice (some ⟨wr.heap.size, 0, none⟩) D D else e' i) = .slice (some ⟨gi, 0, none⟩) D ci
        by_cases c : i = k
        · exact ⟨_, _, by rw [if_pos c]⟩
        · rw [if_neg c]
          exact HSL.out i (by omega)
      clear HCP HSL hb2 ho2 q1 q2
      go_roundw
      case rel => exact ⟨k + 1, by omega, by go_num, _, N, NS⟩
      case measure => simp [intOf]; omega
    · obtain rfl : k = D := by omega
      have E0 : OwnE wr w.heap.size wr.heap.size (.slice (some ⟨w.heap.size, 0, none⟩) k k) k (fun _ => k) (wayW k hv 0 0) w.heap.size k e' := by
        have hrr := hcp.row
        rw [valsOf_eq (g := e') (fun i hi => by simp [hi])] at hrr
        exact ⟨rfl, Nat.le_refl _, hcp.lt, hrr, fun i hi => (hcp.each i hi).weaken (by omega) (Nat.le_refl _), hcp.apart⟩
      have HSL : Hid (∀ i, i < k → ∃ gi ci, e' i = .slice (some ⟨gi, 0, none⟩) k ci) := hsl
      have B0 : Below w.heap.size w wr := hcp.bel
      obtain ⟨wA, hwA⟩ : ∃ wA, wA = wr := ⟨_, rfl⟩
      rw [← hwA] at E0 B0 ⊢
      have hzA : w.heap.size < wA.heap.size := E0.high
      clear hcp hsl hwA
      go_wp2
      go_loopw [25] (fun i wr => ∃ c : Nat, c ≤ k ∧ i = .int .i64 c ∧ OwnE wr w.heap.size wA.heap.size (.slice (some ⟨w.heap.size, 0, none⟩) k k) k (fun _ => k) (wayW k hv c 0) w.heap.size k e' ∧ Below w.heap.size w wr ∧ wA.heap.size ≤ wr.heap.size) (fun i _ => k - (intOf i).toNat)
      case atStart => exact ⟨0, Nat.zero_le _, rfl, E0, B0, Nat.le_refl _⟩
      case round =>
        clear E0 B0
        obtain ⟨c, hc, rfl, hE, hbel, hsz⟩ := hrel
        by_cases hck : c < k
        · have ck : wr.cell? ⟨bh, oh + c, none⟩ = some (.int .i64 (hv c : Int)) := (hbel.cell (p := ⟨bh, oh + c, none⟩) hbw).trans (HC.out c hck)
          have C := factorsAt_any k (hv c) (by omega) (by have := HBD.out c hck; omega) wr
          obtain ⟨p, hp⟩ : ∃ p, p = hv c := ⟨_, rfl⟩
          have HP : Hid (p = hv c) := hp
          rw [← hp] at ck C
          have HE : Hid (OwnE wr w.heap.size wA.heap.size (.slice (some ⟨w.heap.size, 0, none⟩) k k) k (fun _ => k) (wayW k hv c 0) w.heap.size k e') := hE
          have HBL : Hid (Below w.heap.size w wr) := hbel
          obtain ⟨wk, hwk⟩ : ∃ wk, wk = wr := ⟨_, rfl⟩
          rw [← hwk] at ck C HE HBL hsz ⊢
          clear hp hE hbel hwk
          go_wp2_with fail
          refine C.mono ?_
          rintro ee w6 ⟨v6, rfl, o6, b6⟩
          obtain ⟨gv, capv, hgv, h61, h62, h63, h64⟩ := o6.form (by omega)
          subst hgv
          have E6 := HE.out.below b6 hsz
          have s6 := b6.size
          have B6 : Below w.heap.size w w6 := HBL.out.trans (b6.mono HBL.out.size)
          clear C ck b6 HE HBL
          go_wp2
          go_loopw [35] (fun i wr => ∃ m : Nat, m ≤ k ∧ i = .int .i64 m ∧ OwnE wr w.heap.size wA.heap.size (.slice (some ⟨w.heap.size, 0, none⟩) k k) k (fun _ => k) (wayW k hv c m) w.heap.size k e' ∧ Own wr wk.heap.size w6.heap.size (.slice (some ⟨gv, 0, none⟩) k capv) k (genN k p 0) ∧ Below w.heap.size w wr ∧ w6.heap.size ≤ wr.heap.size) (fun i _ => k - (intOf i).toNat)
          case atStart => exact ⟨0, Nat.zero_le _, rfl, E6, o6, B6, Nat.le_refl _⟩
          case round =>
            clear E6 o6 B6
            obtain ⟨m, hm, rfl, hE, ho, hbel, hsz6⟩ := hrel
            by_cases hmk : m < k
            · obtain ⟨gi, ci, hei⟩ := HSL.out m hmk
              have om := hE.each m hmk
              have c1 : wr.cell? ⟨w.heap.size, m, none⟩ = some (.slice (some ⟨gi, 0, none⟩) k ci) := by rw [← hei]; exact hE.cell m hmk
              have c2 : wr.cell? ⟨gv, m, none⟩ = some (.int .u8 (genN k p 0 m)) := (ho.1.cellAt m (by omega)).trans (cellsOf_get _ _ _ hmk)
              rw [hei] at om
              have hgi := om.1.lt gi rfl
              have hgi2 := om.2 gi rfl
              have c3 : wr.cell? ⟨gi, c, none⟩ = some (.int .u8 (wayW k hv c m m c)) := (om.1.cellAt c (by omega)).trans (cellsOf_get _ _ _ hck)
              have c4 : wr.frozen? ⟨gi, c, none⟩ = false := om.1.frozenAt c
              obtain ⟨y, hy⟩ : ∃ y, y = genN k p 0 m := ⟨_, rfl⟩
              obtain ⟨y3, hy3⟩ : ∃ y, y = wayW k hv c m m c := ⟨_, rfl⟩
              rw [← hy] at c2
              rw [← hy3] at c3
              have EN : OwnE (wr.setCell ⟨gi, c, none⟩ (.int .u8 y)) w.heap.size wA.heap.size (.slice (some ⟨w.heap.size, 0, none⟩) k k) k (fun _ => k) (wayW k hv c (m + 1)) w.heap.size k e' := hE.byte m c y gi ci hmk hck hei (fun a b ha hb => by
                unfold wayW
                by_cases cc : a = m ∧ b = c
                · obtain ⟨rfl, rfl⟩ := cc
                  rw [if_pos (show b < b ∨ (b = b ∧ a < a + 1) from .inr ⟨rfl, by omega⟩), if_pos (show a = a ∧ b = b from ⟨rfl, rfl⟩), hy, HP.out]
                  rfl
                · rw [if_neg cc]
                  by_cases c5 : b < c ∨ (b = c ∧ a < m)
                  · rw [if_pos c5, if_pos (by omega)]
                  · rw [if_neg c5, if_neg (by omega)]) (Nat.le_of_lt hzA)
              have ON : Own (wr.setCell ⟨gi, c, none⟩ (.int .u8 y)) wk.heap.size w6.heap.size (.slice (some ⟨gv, 0, none⟩) k capv) k (genN k p 0) := ho.out (out_store wr w.heap.size wA.heap.size gi c _ hgi.1 hgi2) (.inr hsz)
              have BN : Below w.heap.size w (wr.setCell ⟨gi, c, none⟩ (.int .u8 y)) := hbel.setCell hgi.1 _
              have SN : w6.heap.size ≤ (wr.setCell ⟨gi, c, none⟩ (.int .u8 y)).heap.size := by simpa using hsz6
              clear hE ho hbel om hei hy hy3
              go_wp2
              go_region
              all_goals
                go_wp2
                go_roundw
                case rel => exact ⟨m + 1, by omega, by go_num, by first | exact EN | exact EN.drewN 1, ON, by first | exact BN | exact below_drewN BN 1, SN⟩
                case measure => simp [intOf]; omega
            · obtain rfl : m = k := by omega
              have E9 := hE.congr (M' := wayW m hv (c + 1) 0) (fun a b ha hb => by
                unfold wayW
                by_cases c5 : b < c ∨ (b = c ∧ a < m)
                · rw [if_pos c5, if_pos (by omega)]
                · rw [if_neg c5, if_neg (by omega)])
              clear hE ho
              go_wp2
              go_roundw
              case rel => exact ⟨c + 1, by omega, by go_num, E9, hbel, by omega⟩
              case measure => simp [intOf]; omega
        · obtain rfl : c = k := by omega
          have C := factorsAt_any c want (by omega) (by omega) wr
          have EF := hE.congr (M' := wtM c 0 hv) (fun a b ha hb => by unfold wayW; rw [if_pos (.inl hb)])
          have HE : Hid (OwnE wr w.heap.size wA.heap.size (.slice (some ⟨w.heap.size, 0, none⟩) c c) c (fun _ => c) (wtM c 0 hv) w.heap.size c e') := EF
          have HBL : Hid (Below w.heap.size w wr) := hbel
          clear hE hbel EF
          go_wp2_with fail
          refine C.mono ?_
          rintro ee w6 ⟨v6, rfl, o6, b6⟩
          have B6 : Below w.heap.size w w6 := HBL.out.trans (b6.mono HBL.out.size)
          have E6 := HE.out.below b6 hsz
          have CS := implSolve_any _ _ c c (fun _ => c) (wtM c 0 hv) (genN c want 0) w.heap.size wA.heap.size wr.heap.size w6.heap.size w6 ⟨_, _, _, E6⟩ o6 (Nat.le_trans hsz b6.size) (Nat.le_refl _) (wtM_byt c 0 hv) (genN_lt c want 0)
          obtain ⟨ao6, cap6, rfl⟩ := o6.slice
          have s6 := B6.size
          clear C o6 b6 E6 HE HBL
          go_wp2_with fail
          refine CS.mono ?_
          rintro ee w7 ⟨x7, v7, rfl, ha7, o7, b7⟩
          have hx7 : x7 = 0 := by
            rcases ha7 with ⟨_, h⟩ | ⟨_, _, h⟩ | ⟨_, _, _, _, ⟨_, h⟩ | ⟨h, _⟩⟩
            · omega
            · rcases h with h | h | ⟨i, _, h⟩
              · omega
              · exact absurd rfl h
              · exact absurd rfl h
            · have := HFULL.out; omega
            · exact h
          subst hx7
          simp only [if_pos] at o7
          obtain ⟨ao7, cap7, rfl⟩ := o7.slice
          have HO7 : Hid (Own w7 w6.heap.size w7.heap.size (.slice ao7 c cap7) c (weightsN c 0 hv want)) := o7
          have B7 : Below w.heap.size w w7 := B6.trans (b7.mono s6)
          unfold bytesR
          have hfd := fieldB1 0 (.slice ao7 c cap7)
          clear ha7 o7 b7 CS B6
          go_wp2
          go_ret
          exact ⟨_, rfl, HO7.out.weaken s6 (Nat.le_refl _), B7⟩
end Go.Proofs.Ytoadjpacchhleai

namespace Go.Proofs.Ytoadjpacchhleai
open Go.RowKit F256
set_option linter.unusedVariables false
set_option linter.unusedSimpArgs false

theorem mixN_unit {f : Mat} {c : Nat → Nat} {t0 j : Nat} (kf : Byt f) : ∀ k, (∀ i, i < k → c i = if i = t0 then 1 else 0) → mixN f c k j = if t0 < k then f t0 j else 0
  | 0, _ => rfl
  | k + 1, h => by
    rw [mixN, mixN_unit kf k (fun i hi => h i (by omega)), h k (by omega)]
    by_cases e : k = t0
    · subst e
      rw [if_pos rfl, if_neg (Nat.lt_irrefl k), if_pos (Nat.lt_succ_self k), one_mulN (kf k j), Nat.zero_xor]
    · rw [if_neg e, zero_mulN (kf k j), Nat.xor_zero]
      by_cases c2 : t0 < k
      · rw [if_pos c2, if_pos (by omega)]
      · rw [if_neg c2, if_neg (by omega)]
/-- what is picked: blocks that are there, one behind the other -/
theorem picked {D R : Nat} {n : Nat → Nat} (hc : D ≤ cntN n R) (h4 : ∀ i, i < R → n i = 0 ∨ n i = 4) : (∀ t, t < D → nthN n R t < R ∧ n (nthN n R t) = 4) ∧ ∀ t, t + 1 < D → nthN n R t < nthN n R (t + 1) := by
  refine ⟨fun t ht => ?_, fun t ht => nthN_rise (by omega)⟩
  have q := nthN_spec (n := n) (R := R) (k := t) (by omega)
  refine ⟨q.1, ?_⟩
  rcases h4 _ q.1 with e0 | e0
  · exact absurd e0 q.2.1
  · exact e0
/-- a block that is picked is told as it is -/
theorem blockN_is {D R : Nat} {n : Nat → Nat} {f : Mat} {t0 : Nat} (hD1 : 1 ≤ D) (hD : D ≤ 3) (hR : R ≤ D + 2) (hc : D ≤ cntN n R) (h4 : ∀ i, i < R → n i = 0 ∨ n i = 4) (kf : Byt f) (ht : t0 < D) (j : Nat) : blockN D n R f (nthN n R t0) j = f (nthN n R t0) j := by
  obtain ⟨p1, p2⟩ := picked hc h4
  unfold blockN
  rw [mixN_unit (t0 := t0) (fun i j => kf _ _) D (fun i hi => weights_unit ht (row_full D hD1 hD (nthN n R) _ (fun t ht => by have := (p1 t ht).1; omega) p2) i hi), if_pos ht]

set_option maxHeartbeats 4000000 in
theorem blockFrom_any (D want : Nat) (v vh : Value) (R : Nat) (n : Nat → Nat) (f : Mat) (h1 h2 : Nat) (w : World) (r : RdM w h1 v R n f) (rh : RdI w h2 vh D (fun t => (nthN n R t : Int))) (hh : h1 ≤ w.heap.size) (hh2 : h2 ≤ w.heap.size) (hD1 : 1 ≤ D) (hD : D ≤ 3) (hR : R ≤ D + 2) (hw : want < D + 2) (hcnt : D ≤ cntN n R) (h4 : ∀ i, i < R → n i = 0 ∨ n i = 4) (kf : Byt f) :
    Calls Try.prog 55 #[.int .i64 D, v, vh, .int .i64 want] w fun e w' => ∃ v', e = .returned v' ∧ Own w' w.heap.size w'.heap.size v' 4 (blockN D n R f want) ∧ Below w.heap.size w w' := by
  have CC := contains_any vh D (fun t => (nthN n R t : Int)) h2 (want : Int) w rh
  have HRH : Hid (RdI w h2 vh D (fun t => (nthN n R t : Int))) := rh
  obtain ⟨aoh, caph, rfl, hmh, hch⟩ := rh
  have HCH : Hid (D ≠ 0 → ∃ b off, aoh = some ⟨b, off, none⟩ ∧ b < h2 ∧ ∀ i, i < D → w.cell? ⟨b, off + i, none⟩ = some (.int .i64 (nthN n R i : Int))) := hch
  obtain ⟨p1, p2⟩ := picked hcnt h4
  have HP1 : Hid (∀ t, t < D → nthN n R t < R ∧ n (nthN n R t) = 4) := p1
  have HP2 : Hid (∀ t, t + 1 < D → nthN n R t < nthN n R (t + 1)) := p2
  have HIS : Hid (∀ t0, t0 < D → ∀ j, blockN D n R f (nthN n R t0) j = f (nthN n R t0) j) := fun t0 ht j => blockN_is hD1 hD hR hcnt h4 kf ht j
  obtain ⟨ao, cap, e, rfl, hm, hc, he⟩ := r
  obtain ⟨b, off, rfl, hblt, hcell⟩ := hc (by have := (p1 0 (by omega)).1; omega)
  have HHE : Hid (∀ i, i < R → Rd w h1 (e i) (n i) (f i)) := he
  have HHC : Hid (∀ i, i < R → w.cell? ⟨b, off + i, none⟩ = some (e i)) := hcell
  have hbw : b < w.heap.size := by omega
  unfold maxLen at hm
  clear hc he hcell p1 p2 hch hmh hcnt h4
  by_cases hin : ∃ t, t < D ∧ (nthN n R t : Int) = (want : Int)
  · have HIN : Hid (∃ t, t < D ∧ (nthN n R t : Int) = (want : Int)) := hin
    obtain ⟨t0, ht0, het⟩ := hin
    have hwt : nthN n R t0 = want := by omega
    have q1 := HP1.out t0 ht0
    rw [hwt] at q1
    have q2 := HIS.out t0 ht0
    rw [hwt] at q2
    have HQ2 : Hid (∀ j, blockN D n R f want j = f want j) := q2
    have hwR : want < R := q1.1
    have c1 : w.cell? ⟨b, off + want, none⟩ = some (e want) := HHC.out want hwR
    have r1 := HHE.out want hwR
    rw [q1.2] at r1
    obtain ⟨x, hx⟩ : ∃ x, x = e want := ⟨_, rfl⟩
    rw [← hx] at c1 r1
    have HRX : Hid (Rd w h1 x 4 (f want)) := r1
    obtain ⟨aox, capx, hxs, _, _⟩ := r1
    subst hxs
    clear hx q1 q2 hwt het
    go_enter Try.func55, Try.ntmps55
    go_wp2_with fail
    refine CC.mono ?_
    rintro e0 w1 ⟨b1, rfl, hb1, B1⟩
    obtain rfl : b1 = true := hb1.mpr HIN.out
    have c2 : w1.cell? ⟨b, off + want, none⟩ = some (.slice aox 4 capx) := (B1.cell (p := ⟨b, off + want, none⟩) hbw).trans c1
    have CJ := joined_nil (.slice aox 4 capx) (.slice none 0 0) 4 (f want) (fun _ => 0) h1 h1 w1 (HRX.out.below B1 hh) ⟨_, _, rfl, Nat.zero_le _, fun h => absurd rfl h⟩ (Nat.le_trans hh B1.size) (by omega)
    have HB1 : Hid (Below w.heap.size w w1) := B1
    clear hb1 CC B1 c1
    go_wp2_with fail
    refine CJ.mono ?_
    rintro e0 w2 ⟨v2, rfl, o2, b2⟩
    have HO2 : Hid (Own w2 w1.heap.size w2.heap.size v2 4 (f want)) := o2
    obtain ⟨ao2, cap2, rfl⟩ := o2.slice
    have B2 : Below w.heap.size w w2 := HB1.out.trans (b2.mono HB1.out.size)
    clear CJ o2 b2
    go_wp2
    go_ret
    exact ⟨_, rfl, (HO2.out.congr (fun j _ => (HQ2.out j).symm)).weaken HB1.out.size (Nat.le_refl _), B2⟩
  · have HIN : Hid (¬ ∃ t, t < D ∧ (nthN n R t : Int) = (want : Int)) := hin
    clear hin HIS
    obtain ⟨bh, oh, hao, hbh, hch⟩ := HCH.out (by omega)
    subst hao
    have HCI : Hid (∀ i, i < D → w.cell? ⟨bh, oh + i, none⟩ = some (.int .i64 (nthN n R i : Int))) := hch
    have hbhw : bh < w.heap.size := by omega
    have CWf := fun (w1 : World) (b1 : Below w.heap.size w w1) => weightsOf_any D want _ (nthN n R) h2 w1 (HRH.out.below b1 hh2) (Nat.le_trans hh2 b1.size) hD1 hD (fun t ht => by have := (HP1.out t ht).1; omega) HP2.out hw
    have HCW : Hid (∀ (w1 : World), Below w.heap.size w w1 → Calls Try.prog 46 #[.int .i64 D, .slice (some ⟨bh, oh, none⟩) D caph, .int .i64 want] w1 fun e w' => ∃ v', e = .returned v' ∧ Own w' w1.heap.size w'.heap.size v' D (weightsN D 0 (nthN n R) want) ∧ Below w1.heap.size w1 w') := CWf
    clear hch HCH CWf
    go_enter Try.func55, Try.ntmps55
    go_wp2_with fail
    refine CC.mono ?_
    rintro e0 w1 ⟨b1, rfl, hb1, B1⟩
    obtain rfl : b1 = false := by
      cases b1 with
      | false => rfl
      | true => exact absurd (hb1.mp rfl) HIN.out
    have CW := HCW.out w1 B1
    have HB1 : Hid (Below w.heap.size w w1) := B1
    clear hb1 CC B1 HCW
    go_wp2_with fail
    refine CW.mono ?_
    rintro e0 w5 ⟨v5, rfl, o5, b5⟩
    obtain ⟨gv, capv, hgv, h51, h52, h53, h54⟩ := o5.form (by omega)
    subst hgv
    have B5 : Below w.heap.size w w5 := HB1.out.trans (b5.mono HB1.out.size)
    have O5 : Own w5 w.heap.size w5.heap.size (.slice (some ⟨gv, 0, none⟩) D capv) D (weightsN D 0 (nthN n R) want) := o5.weaken HB1.out.size (Nat.le_refl _)
    clear CW o5 b5 HB1
    go_wp2_with (at_make; refine wp_makeB _ rfl _ _ rfl _ _ 4 rfl rfl rfl rfl (by omega) ?_; intro w6 o6 b6 hz6)
    have B6 : Below w.heap.size w w6 := B5.trans (b6.mono B5.size)
    have O56 := O5.below b6 (Nat.le_refl _)
    have s5 := B5.size
    clear O5 b6 B5
    go_loopw [26] (fun i wr => ∃ k : Nat, k ≤ D ∧ i = .int .i64 k ∧ Own wr w5.heap.size w6.heap.size (.slice (some ⟨w5.heap.size, 0, none⟩) 4 4) 4 (mixN (fun t => f (nthN n R t)) (weightsN D 0 (nthN n R) want) k) ∧ Own wr w.heap.size w5.heap.size (.slice (some ⟨gv, 0, none⟩) D capv) D (weightsN D 0 (nthN n R) want) ∧ Below w.heap.size w wr ∧ w6.heap.size ≤ wr.heap.size) (fun i _ => D - (intOf i).toNat)
    case atStart => exact ⟨0, Nat.zero_le _, rfl, o6, O56, B6, Nat.le_refl _⟩
    case round =>
      clear o6 O56 B6
      obtain ⟨k, hk, rfl, hO, hW, hbel, hsz⟩ := hrel
      by_cases hlt : k < D
      · have c1 : wr.cell? ⟨bh, oh + k, none⟩ = some (.int .i64 (nthN n R k : Int)) := (hbel.cell (p := ⟨bh, oh + k, none⟩) hbhw).trans (HCI.out k hlt)
        have q := HP1.out k hlt
        have c2 : wr.cell? ⟨b, off + nthN n R k, none⟩ = some (e (nthN n R k)) := (hbel.cell (p := ⟨b, off + nthN n R k, none⟩) hbw).trans (HHC.out _ q.1)
        have c3 : wr.cell? ⟨gv, k, none⟩ = some (.int .u8 (weightsN D 0 (nthN n R) want k)) := (hW.1.cellAt k (by omega)).trans (cellsOf_get _ _ _ hlt)
        have rk := (HHE.out _ q.1).below hbel hh
        rw [q.2] at rk
        obtain ⟨P, hP⟩ : ∃ P, P = nthN n R k := ⟨_, rfl⟩
        have HPP : Hid (P = nthN n R k) := hP
        rw [← hP] at c1 c2 q rk
        have hPR : P < R := q.1
        obtain ⟨x, hx⟩ : ∃ x, x = e P := ⟨_, rfl⟩
        rw [← hx] at c2 rk
        obtain ⟨y, hy⟩ : ∃ y, y = weightsN D 0 (nthN n R) want k := ⟨_, rfl⟩
        rw [← hy] at c3
        have CA : ∀ q, Calls Try.prog 61 #[.slice (some ⟨w5.heap.size, 0, none⟩) 4 4, x, .int .u8 y] (wr.drewN q) fun e w' => e = .returned (.tuple #[]) ∧ Own w' w5.heap.size w6.heap.size (.slice (some ⟨w5.heap.size, 0, none⟩) 4 4) 4 (mixN (fun t => f (nthN n R t)) (weightsN D 0 (nthN n R) want) (k + 1)) ∧ Chg w5.heap.size w6.heap.size (wr.drewN q) w' := fun q =>
          addScaled_any _ _ 4 (mixN (fun t => f (nthN n R t)) (weightsN D 0 (nthN n R) want) k) (f P) (mixN (fun t => f (nthN n R t)) (weightsN D 0 (nthN n R) want) (k + 1)) y w5.heap.size w6.heap.size h1 (wr.drewN q) hO hsz rk (Nat.le_trans hh s5) (Nat.le_trans hh hbel.size) (fun i => mixN_lt _ _ (weightsN_lt D 0 (nthN n R) want) k i) (fun i => kf P i) (by rw [hy]; exact weightsN_lt D 0 (nthN n R) want k) (fun i _ => by rw [mixN, hy, HPP.out]) (by omega)
        have CA1 := CA 1
        obtain ⟨aox, capx, hxs, _, _⟩ := rk
        rw [hxs] at c2 CA1
        have HO : Hid (Own wr w.heap.size w5.heap.size (.slice (some ⟨gv, 0, none⟩) D capv) D (weightsN D 0 (nthN n R) want)) := hW
        have HBL : Hid (Below w.heap.size w wr) := hbel
        have hPRi : (P : Int) < (R : Int) := by omega
        clear hO hW hbel hP hx hxs hy CA q
        go_wp2
        go_region_with (go_at_call 61; refine CA1.mono ?_; rintro e w7 ⟨rfl, o7, ch7⟩)
        all_goals
          have O7 : Own w7 w.heap.size w5.heap.size (.slice (some ⟨gv, 0, none⟩) D capv) D (weightsN D 0 (nthN n R) want) := (show Own (wr.drewN 1) w.heap.size w5.heap.size (.slice (some ⟨gv, 0, none⟩) D capv) D (weightsN D 0 (nthN n R) want) from HO.out).chg ch7 (.inl (Nat.le_refl _))
          have B7 : Below w.heap.size w w7 := (below_drewN HBL.out 1).trans (ch7.below s5 HBL.out.size)
          have S7 : w6.heap.size ≤ w7.heap.size := Nat.le_trans hsz ch7.size
          clear ch7 HO HBL CA1 c1 c2 c3
          go_wp2
          go_roundw
          case rel => exact ⟨k + 1, by omega, by go_num, o7, O7, B7, S7⟩
          case measure => simp [intOf]; omega
      · obtain rfl : k = D := by omega
        have HO9 : Hid (Own wr w5.heap.size w6.heap.size (.slice (some ⟨w5.heap.size, 0, none⟩) 4 4) 4 (blockN k n R f want)) := hO
        clear hO hW
        go_wp2
        go_ret
        exact ⟨_, rfl, HO9.out.weaken s5 hsz, hbel⟩

set_option maxHeartbeats 4000000 in
theorem bytesFrom_any (D : Nat) (v vh : Value) (R : Nat) (n : Nat → Nat) (f : Mat) (h1 h2 : Nat) (w : World) (r : RdM w h1 v R n f) (rh : RdI w h2 vh D (fun t => (nthN n R t : Int))) (hh : h1 ≤ w.heap.size) (hh2 : h2 ≤ w.heap.size) (hD1 : 1 ≤ D) (hD : D ≤ 3) (hR : R ≤ D + 2) (hcnt : D ≤ cntN n R) (h4 : ∀ i, i < R → n i = 0 ∨ n i = 4) (kf : Byt f) :
    Calls Try.prog 53 #[.int .i64 D, v, vh] w fun e w' => ∃ v', e = .returned v' ∧ Own w' w.heap.size w'.heap.size v' (4 * D) (decN D n R f) ∧ Below w.heap.size w w' := by
  have CBf := fun (w1 : World) (k : Nat) (hk : k < D) (b1 : Below w.heap.size w w1) => blockFrom_any D k v vh R n f h1 h2 w1 (r.below b1 hh) (rh.below b1 hh2) (Nat.le_trans hh b1.size) (Nat.le_trans hh2 b1.size) hD1 hD hR (by omega) hcnt h4 kf
  obtain ⟨aoh, caph, rfl, hmh, hch⟩ := rh
  obtain ⟨ao, cap, e, rfl, hm, hc, he⟩ := r
  have HCB : Hid (∀ (w1 : World) (k : Nat), k < D → Below w.heap.size w w1 → Calls Try.prog 55 #[.int .i64 D, .slice ao R cap, .slice aoh D caph, .int .i64 k] w1 fun e w' => ∃ v', e = .returned v' ∧ Own w' w1.heap.size w'.heap.size v' 4 (blockN D n R f k) ∧ Below w1.heap.size w1 w') := CBf
  clear CBf hc he hch hm hmh hcnt h4
  have hs4 : (D : Int) * 4 = ((4 * D : Nat) : Int) := by omega
  obtain ⟨Q, hQ⟩ : ∃ Q, Q = 4 * D := ⟨_, rfl⟩
  rw [← hQ] at hs4
  have hQ12 : Q ≤ 12 := by omega
  clear hQ
  go_enter Try.func53, Try.ntmps53
  go_wp2_with (at_make; refine wp_makeB0 _ rfl _ _ rfl _ Q rfl rfl (by first | omega | simp [hs4]) (by omega) ?_; intro w1 hown1 hb1 hz1)
  have I0 := hown1 (decN D n R f)
  clear hown1
  go_loopw [7, 13] (fun u i wr => ∃ k : Nat, k ≤ D ∧ i = .int .i64 k ∧ Own wr w.heap.size wr.heap.size u (4 * k) (decN D n R f) ∧ Below w.heap.size w wr) (fun _ i _ => D - (intOf i).toNat)
  case atStart => exact ⟨0, Nat.zero_le _, rfl, I0, hb1⟩
  case round =>
    clear I0 hb1 hz1
    obtain ⟨k, hk, rfl, hown, hb⟩ := hrel
    have HO : Hid (Own wr w.heap.size wr.heap.size u7 (4 * k) (decN D n R f)) := hown
    have HB : Hid (Below w.heap.size w wr) := hb
    have szr := hb.size
    by_cases hlt : k < D
    · have C := HCB.out wr k hlt hb
      clear hown hb
      go_wp2_with fail
      refine C.mono ?_
      rintro ee w2 ⟨v2, rfl, o2, b2'⟩
      have B2 : Below w.heap.size w w2 := HB.out.trans (b2'.mono szr)
      have s2 := b2'.size
      have HO2 : Hid (Own w2 w.heap.size wr.heap.size u7 (4 * k) (decN D n R f)) := HO.out.below b2' (Nat.le_refl _)
      obtain ⟨ao2, cap2, rfl⟩ := o2.slice
      have HO3 : Hid (Own w2 wr.heap.size w2.heap.size (.slice ao2 4 cap2) 4 (blockN D n R f k)) := o2
      have hm4 : 4 * k + 4 ≤ 1000000 := by omega
      have sw2 : w.heap.size ≤ w2.heap.size := by omega
      clear C b2' o2
      go_wp2_with (at_builtin; refine wp_appendX rfl (.tmp 16) (.tmp 21) rfl w.heap.size wr.heap.size u7 (4 * k) (decN D n R f) ?_ HO2.out w2.heap.size (.slice ao2 4 cap2) 4 (blockN D n R f k) ?_ HO3.out.rd (by omega) (fun i hi => decN_at D n R f k i hi) hm4 sw2 ?_; (simp [Act.eval]); (simp [Act.eval]); intro v5 w5 o5 g5)
      have R5 : Below w.heap.size w w5 := B2.grown g5 sw2 (fun q hq => (HO2.out.1.lt q hq).1)
      have e4 : 4 * k + 4 = 4 * (k + 1) := by omega
      rw [e4] at o5
      clear g5 HO2 HO3 HO HB
      go_wp2
      go_roundw
      case rel => exact ⟨k + 1, by omega, by go_num, o5, R5⟩
      case measure => simp [intOf]; omega
    · obtain rfl : k = D := by omega
      go_wp2
      go_ret
      exact ⟨_, rfl, hown, hb⟩
end Go.Proofs.Ytoadjpacchhleai

namespace Go.Proofs.Ytoadjpacchhleai
open Go.RowKit F256
set_option linter.unusedVariables false
set_option linter.unusedSimpArgs false

theorem not_there {R : Nat} {n : Nat → Nat} {N : Int} (h : ¬ ThereP R n N) : (R : Int) ≠ N ∨ ∃ i, i < R ∧ n i ≠ 0 ∧ n i ≠ 4 := by
  by_cases c : (R : Int) = N
  · right
    refine Classical.byContradiction fun hh => h ⟨c, fun i hi => ?_⟩
    by_cases c0 : n i = 0
    · exact .inl c0
    · by_cases c4 : n i = 4
      · exact .inr c4
      · exact absurd ⟨i, hi, c0, c4⟩ hh
  · exact .inl c

set_option maxHeartbeats 4000000 in
theorem implDecode_rd (d s : Int) (v : Value) (R : Nat) (n : Nat → Nat) (f : Mat) (h1 : Nat) (w : World) (r : RdM w h1 v R n f) (hh : h1 ≤ w.heap.size) (kf : Byt f) :
    Calls Try.prog 20 #[.int .i64 d, .int .i64 s, v] w fun ee w' => ∃ x v', ee = .returned (bytesR x v') ∧ DecAns d s R n x ∧ Own w' w.heap.size w'.heap.size v' (if x = 0 then 4 * d.toNat else 0) (decN d.toNat n R f) ∧ Below w.heap.size w w' := by
  have HR : Hid (RdM w h1 v R n f) := r
  obtain ⟨ao, cap, e, rfl, hm, hc, he⟩ := r
  clear hm hc he
  go_enter Try.func20, Try.ntmps20
  go_wp2_with fail
  refine (rowInBounds_any d s _).mono ?_
  rintro e0 w1 ⟨b1, rfl, hb1, b1'⟩
  have HS : Hid (b1 = true ↔ Shp d s) := hb1
  have B1 : Below w.heap.size w w1 := bnew b1'
  have X1 : Box w1 w.heap.size #[.int .i64 0, .slice none 0 0] 25 := (box_new w _ _).below b1' (by simp)
  have z1 : w.heap.size < w1.heap.size := X1.lt
  obtain ⟨x0, x1, y0, y1⟩ := res_cells X1
  clear hb1 b1'
  cases b1 with
  | false =>
    have HNO : Hid (¬ Shp d s) := fun h => by have := HS.out.mpr h; cases this
    clear HS
    go_wp2
    exact bodyPost_ret (v := bytesR 3 (.slice none 0 0)) (by simp [results, Try.results20, go_sem, bytesR, x0, x1]) rfl ⟨3, _, rfl, .inl ⟨.inl ⟨rfl, HNO.out⟩, by omega⟩, own_nil _ _ _ _, (B1.setCell (Nat.le_refl _) _).setCell (Nat.le_refl _) _⟩
  | true =>
    have hsh := HS.out.mp rfl
    have HSH : Hid (Shp d s) := hsh
    obtain ⟨q1, q2, q3, q4⟩ := hsh
    obtain ⟨D, rfl⟩ : ∃ D : Nat, d = D := ⟨d.toNat, by omega⟩
    obtain ⟨S, rfl⟩ : ∃ S : Nat, s = S := ⟨s.toNat, by omega⟩
    have CT := thereOrNot_any (.slice ao R cap) R n f h1 ((D : Int) + (S : Int)) w1 (HR.out.below B1 hh)
    clear HS
    go_wp2_with fail
    refine CT.mono ?_
    rintro e0 w2 ⟨b2, rfl, hb2, b2'⟩
    have HT : Hid (b2 = true ↔ ThereP R n ((D : Int) + (S : Int))) := hb2
    have B2 : Below w.heap.size w w2 := B1.trans (b2'.mono B1.size)
    have X2 : Box w2 w.heap.size #[.int .i64 0, .slice none 0 0] 25 := X1.below b2' z1
    have z2 : w.heap.size < w2.heap.size := X2.lt
    clear x0 x1 y0 y1
    obtain ⟨x0, x1, y0, y1⟩ := res_cells X2
    clear hb2 b2' X1 B1 z1 CT
    cases b2 with
    | false =>
      have HNO : Hid ((R : Int) ≠ (D : Int) + (S : Int) ∨ ∃ i, i < R ∧ n i ≠ 0 ∧ n i ≠ 4) := not_there fun h => by have := HT.out.mpr h; cases this
      clear HT
      go_wp2
      exact bodyPost_ret (v := bytesR 1 (.slice none 0 0)) (by simp [results, Try.results20, go_sem, bytesR, x0, x1]) rfl ⟨1, _, rfl, .inl ⟨.inr (.inl ⟨rfl, HSH.out, HNO.out⟩), by omega⟩, own_nil _ _ _ _, (B2.setCell (Nat.le_refl _) _).setCell (Nat.le_refl _) _⟩
    | true =>
      have HTH : Hid (ThereP R n ((D : Int) + (S : Int))) := HT.out.mp rfl
      have HASK : Hid (AskP (D : Int) (S : Int) R n 0) := .inr (.inr ⟨rfl, HSH.out, HTH.out.1, HTH.out.2⟩)
      have CF := firstThere_any D (.slice ao R cap) R n f h1 w2 (HR.out.below B2 hh) (Nat.le_trans hh B2.size) (by omega)
      clear HT x0 x1 y0 y1
      go_wp2_with fail
      refine CF.mono ?_
      rintro e0 w3 ⟨v3, rfl, o3, b3'⟩
      have B3 : Below w.heap.size w w3 := B2.trans (b3'.mono B2.size)
      have X3 : Box w3 w.heap.size #[.int .i64 0, .slice none 0 0] 25 := X2.below b3' z2
      have z3 : w.heap.size < w3.heap.size := X3.lt
      obtain ⟨x0, x1, y0, y1⟩ := res_cells X3
      clear b3' X2 B2 z2 CF
      by_cases hcnt : D ≤ cntN n R
      · have HCN : Hid (D ≤ cntN n R) := hcnt
        rw [pickN_all hcnt] at o3
        obtain ⟨ao3, cap3, rfl⟩ := o3.slice
        have CB := bytesFrom_any D (.slice ao R cap) (.slice ao3 D cap3) R n f h1 w3.heap.size w3 (HR.out.below B3 hh) o3.rd (Nat.le_trans hh B3.size) (Nat.le_refl _) (by omega) (by omega) (by have := HTH.out.1; omega) hcnt HTH.out.2 kf
        clear o3 hcnt x0 x1 y0 y1
        go_wp2_with fail
        refine CB.mono ?_
        rintro e0 w4 ⟨v4, rfl, o4, b4⟩
        obtain ⟨ao4, cap4, rfl⟩ := o4.slice
        have HO : Hid (Own w4 w3.heap.size w4.heap.size (.slice ao4 (4 * D) cap4) (4 * D) (decN D n R f)) := o4
        have B4 : Below w.heap.size w w4 := B3.trans (b4.mono (by omega))
        have X4 : Box w4 w.heap.size #[.int .i64 0, .slice none 0 0] 25 := X3.below b4 z3
        have z4 := X4.lt
        obtain ⟨x0, x1, y0, y1⟩ := res_cells X4
        clear o4 b4 CB X4 X3
        go_wp2
        refine bodyPost_ret (v := bytesR 0 (.slice ao4 (4 * D) cap4)) (by simp [results, Try.results20, go_sem, bytesR, x0, x1]) rfl ⟨0, _, rfl, .inr (.inr ⟨HASK.out, by rw [Int.toNat_natCast]; exact HCN.out, rfl⟩), ?_, (B4.setCell (Nat.le_refl _) _).setCell (Nat.le_refl _) _⟩
        have o1 := out_store w4 w.heap.size (w.heap.size + 1) w.heap.size 0 (.int .i64 0) (Nat.le_refl _) (by omega)
        have o2 := out_store (w4.setCell ⟨w.heap.size, 0, none⟩ (.int .i64 0)) w.heap.size (w.heap.size + 1) w.heap.size 1 (.slice ao4 (4 * D) cap4) (Nat.le_refl _) (by omega)
        simp only [if_pos]
        rw [Int.toNat_natCast]
        exact (HO.out.out (o1.trans o2) (.inr (by omega))).weaken (by omega) (by rw [(o1.trans o2).size]; exact Nat.le_refl _)
      · have HNC : Hid (¬ D ≤ cntN n R) := hcnt
        have hpf := pickN_few hcnt
        obtain ⟨c, hc⟩ : ∃ c, c = pickN D n R := ⟨_, rfl⟩
        rw [← hc] at o3 hpf
        obtain ⟨ao3, cap3, rfl⟩ := o3.slice
        have hci : (c : Int) < (D : Int) := by omega
        clear o3 hcnt hc
        go_wp2
        exact bodyPost_ret (v := bytesR 10 (.slice none 0 0)) (by simp [results, Try.results20, go_sem, bytesR, x0, x1]) rfl ⟨10, _, rfl, .inr (.inl ⟨HASK.out, by rw [Int.toNat_natCast]; exact HNC.out, rfl⟩), own_nil _ _ _ _, (B3.setCell (Nat.le_refl _) _).setCell (Nat.le_refl _) _⟩

set_option maxHeartbeats 4000000 in
theorem implBlockOf_rd (d s want : Int) (v : Value) (R : Nat) (n : Nat → Nat) (f : Mat) (h1 : Nat) (w : World) (r : RdM w h1 v R n f) (hh : h1 ≤ w.heap.size) (kf : Byt f) :
    Calls Try.prog 24 #[.int .i64 d, .int .i64 s, v, .int .i64 want] w fun ee w' => ∃ x v', ee = .returned (bytesR x v') ∧ BofAns d s R n want x ∧ Own w' w.heap.size w'.heap.size v' (if x = 0 then 4 else 0) (blockN d.toNat n R f want.toNat) ∧ Below w.heap.size w w' := by
  have HR : Hid (RdM w h1 v R n f) := r
  obtain ⟨ao, cap, e, rfl, hm, hc, he⟩ := r
  clear hm hc he
  go_enter Try.func24, Try.ntmps24
  go_wp2_with fail
  refine (rowInBounds_any d s _).mono ?_
  rintro e0 w1 ⟨b1, rfl, hb1, b1'⟩
  have HS : Hid (b1 = true ↔ Shp d s) := hb1
  have B1 : Below w.heap.size w w1 := bnew b1'
  have X1 : Box w1 w.heap.size #[.int .i64 0, .slice none 0 0] 25 := (box_new w _ _).below b1' (by simp)
  have z1 : w.heap.size < w1.heap.size := X1.lt
  obtain ⟨x0, x1, y0, y1⟩ := res_cells X1
  clear hb1 b1'
  cases b1 with
  | false =>
    have HNO : Hid (¬ Shp d s) := fun h => by have := HS.out.mpr h; cases this
    clear HS
    go_wp2
    exact bodyPost_ret (v := bytesR 3 (.slice none 0 0)) (by simp [results, Try.results24, go_sem, bytesR, x0, x1]) rfl ⟨3, _, rfl, .inl ⟨.inl ⟨rfl, HNO.out⟩, by omega⟩, own_nil _ _ _ _, (B1.setCell (Nat.le_refl _) _).setCell (Nat.le_refl _) _⟩
  | true =>
    have hsh := HS.out.mp rfl
    have HSH : Hid (Shp d s) := hsh
    obtain ⟨q1, q2, q3, q4⟩ := hsh
    obtain ⟨D, rfl⟩ : ∃ D : Nat, d = D := ⟨d.toNat, by omega⟩
    obtain ⟨S, rfl⟩ : ∃ S : Nat, s = S := ⟨s.toNat, by omega⟩
    have CT := thereOrNot_any (.slice ao R cap) R n f h1 ((D : Int) + (S : Int)) w1 (HR.out.below B1 hh)
    clear HS
    go_wp2_with fail
    refine CT.mono ?_
    rintro e0 w2 ⟨b2, rfl, hb2, b2'⟩
    have HT : Hid (b2 = true ↔ ThereP R n ((D : Int) + (S : Int))) := hb2
    have B2 : Below w.heap.size w w2 := B1.trans (b2'.mono B1.size)
    have X2 : Box w2 w.heap.size #[.int .i64 0, .slice none 0 0] 25 := X1.below b2' z1
    have z2 : w.heap.size < w2.heap.size := X2.lt
    clear x0 x1 y0 y1
    obtain ⟨x0, x1, y0, y1⟩ := res_cells X2
    clear hb2 b2' X1 B1 z1 CT
    cases b2 with
    | false =>
      have HNO : Hid ((R : Int) ≠ (D : Int) + (S : Int) ∨ ∃ i, i < R ∧ n i ≠ 0 ∧ n i ≠ 4) := not_there fun h => by have := HT.out.mpr h; cases this
      clear HT
      go_wp2
      exact bodyPost_ret (v := bytesR 1 (.slice none 0 0)) (by simp [results, Try.results24, go_sem, bytesR, x0, x1]) rfl ⟨1, _, rfl, .inl ⟨.inr (.inl ⟨rfl, HSH.out, HNO.out⟩), by omega⟩, own_nil _ _ _ _, (B2.setCell (Nat.le_refl _) _).setCell (Nat.le_refl _) _⟩
    | true =>
      have HTH : Hid (ThereP R n ((D : Int) + (S : Int))) := HT.out.mp rfl
      have HASK : Hid (AskP (D : Int) (S : Int) R n 0) := .inr (.inr ⟨rfl, HSH.out, HTH.out.1, HTH.out.2⟩)
      clear HT
      by_cases hw0 : want < 0
      · have HNW : Hid (¬ (0 ≤ want ∧ want ≤ (D : Int) + (S : Int) - 1)) := fun h => by omega
        go_wp2
        exact bodyPost_ret (v := bytesR 3 (.slice none 0 0)) (by simp [results, Try.results24, go_sem, bytesR, x0, x1]) rfl ⟨3, _, rfl, .inr (.inl ⟨HASK.out, HNW.out, rfl⟩), own_nil _ _ _ _, (B2.setCell (Nat.le_refl _) _).setCell (Nat.le_refl _) _⟩
      · have tw0 : decide (want < 0) = false := by simp; omega
        by_cases hw1 : (D : Int) + (S : Int) ≤ want
        · have HNW : Hid (¬ (0 ≤ want ∧ want ≤ (D : Int) + (S : Int) - 1)) := fun h => by omega
          clear hw0
          go_wp2
          exact bodyPost_ret (v := bytesR 3 (.slice none 0 0)) (by simp [results, Try.results24, go_sem, bytesR, x0, x1]) rfl ⟨3, _, rfl, .inr (.inl ⟨HASK.out, HNW.out, rfl⟩), own_nil _ _ _ _, (B2.setCell (Nat.le_refl _) _).setCell (Nat.le_refl _) _⟩
        · obtain ⟨W, rfl⟩ : ∃ W : Nat, want = W := ⟨want.toNat, by omega⟩
          have tw1 : decide ((D : Int) + (S : Int) ≤ (W : Int)) = false := by simp; omega
          have hWW : W < D + 2 := by omega
          have HW : Hid (0 ≤ (W : Int) ∧ (W : Int) ≤ (D : Int) + (S : Int) - 1) := ⟨by omega, by omega⟩
          have CF := firstThere_any D (.slice ao R cap) R n f h1 w2 (HR.out.below B2 hh) (Nat.le_trans hh B2.size) (by omega)
          clear x0 x1 y0 y1 hw0 hw1
          go_wp2_with fail
          refine CF.mono ?_
          rintro e0 w3 ⟨v3, rfl, o3, b3'⟩
          have B3 : Below w.heap.size w w3 := B2.trans (b3'.mono B2.size)
          have X3 : Box w3 w.heap.size #[.int .i64 0, .slice none 0 0] 25 := X2.below b3' z2
          have z3 : w.heap.size < w3.heap.size := X3.lt
          obtain ⟨x0, x1, y0, y1⟩ := res_cells X3
          clear b3' X2 B2 z2 CF
          by_cases hcnt : D ≤ cntN n R
          · have HCN : Hid (D ≤ cntN n R) := hcnt
            rw [pickN_all hcnt] at o3
            obtain ⟨ao3, cap3, rfl⟩ := o3.slice
            have CB := blockFrom_any D W (.slice ao R cap) (.slice ao3 D cap3) R n f h1 w3.heap.size w3 (HR.out.below B3 hh) o3.rd (Nat.le_trans hh B3.size) (Nat.le_refl _) (by omega) (by omega) (by have := HTH.out.1; omega) hWW hcnt HTH.out.2 kf
            clear o3 hcnt x0 x1 y0 y1
            go_wp2_with fail
            refine CB.mono ?_
            rintro e0 w4 ⟨v4, rfl, o4, b4⟩
            obtain ⟨ao4, cap4, rfl⟩ := o4.slice
            have HO : Hid (Own w4 w3.heap.size w4.heap.size (.slice ao4 4 cap4) 4 (blockN D n R f W)) := o4
            have B4 : Below w.heap.size w w4 := B3.trans (b4.mono (by omega))
            have X4 : Box w4 w.heap.size #[.int .i64 0, .slice none 0 0] 25 := X3.below b4 z3
            have z4 := X4.lt
            obtain ⟨x0, x1, y0, y1⟩ := res_cells X4
            clear o4 b4 CB X4 X3
            go_wp2
            refine bodyPost_ret (v := bytesR 0 (.slice ao4 4 cap4)) (by simp [results, Try.results24, go_sem, bytesR, x0, x1]) rfl ⟨0, _, rfl, .inr (.inr (.inr ⟨HASK.out, HW.out, by rw [Int.toNat_natCast]; exact HCN.out, rfl⟩)), ?_, (B4.setCell (Nat.le_refl _) _).setCell (Nat.le_refl _) _⟩
            have o1 := out_store w4 w.heap.size (w.heap.size + 1) w.heap.size 0 (.int .i64 0) (Nat.le_refl _) (by omega)
            have o2 := out_store (w4.setCell ⟨w.heap.size, 0, none⟩ (.int .i64 0)) w.heap.size (w.heap.size + 1) w.heap.size 1 (.slice ao4 4 cap4) (Nat.le_refl _) (by omega)
            simp only [if_pos]
            rw [Int.toNat_natCast, Int.toNat_natCast]
            exact (HO.out.out (o1.trans o2) (.inr (by omega))).weaken (by omega) (by rw [(o1.trans o2).size]; exact Nat.le_refl _)
          · have HNC : Hid (¬ D ≤ cntN n R) := hcnt
            have hpf := pickN_few hcnt
            obtain ⟨c, hc⟩ : ∃ c, c = pickN D n R := ⟨_, rfl⟩
            rw [← hc] at o3 hpf
            obtain ⟨ao3, cap3, rfl⟩ := o3.slice
            have hci : (c : Int) < (D : Int) := by omega
            clear o3 hcnt hc
            go_wp2
            exact bodyPost_ret (v := bytesR 10 (.slice none 0 0)) (by simp [results, Try.results24, go_sem, bytesR, x0, x1]) rfl ⟨10, _, rfl, .inr (.inr (.inl ⟨HASK.out, HW.out, by rw [Int.toNat_natCast]; exact HNC.out, rfl⟩)), own_nil _ _ _ _, (B3.setCell (Nat.le_refl _) _).setCell (Nat.le_refl _) _⟩
theorem implDecode_any (d s : Int) (v : Value) (R : Nat) (n : Nat → Nat) (f : Mat) (l1 h1 : Nat) (w : World) (o : OwnM w l1 h1 v R n f) (hh : h1 ≤ w.heap.size) (kf : Byt f) :
    Calls Try.prog 20 #[.int .i64 d, .int .i64 s, v] w fun ee w' => ∃ x v', ee = .returned (bytesR x v') ∧ DecAns d s R n x ∧ Own w' w.heap.size w'.heap.size v' (if x = 0 then 4 * d.toNat else 0) (decN d.toNat n R f) ∧ Below w.heap.size w w' := implDecode_rd d s v R n f h1 w o.rd hh kf
theorem implBlockOf_any (d s want : Int) (v : Value) (R : Nat) (n : Nat → Nat) (f : Mat) (l1 h1 : Nat) (w : World) (o : OwnM w l1 h1 v R n f) (hh : h1 ≤ w.heap.size) (kf : Byt f) :
    Calls Try.prog 24 #[.int .i64 d, .int .i64 s, v, .int .i64 want] w fun ee w' => ∃ x v', ee = .returned (bytesR x v') ∧ BofAns d s R n want x ∧ Own w' w.heap.size w'.heap.size v' (if x = 0 then 4 else 0) (blockN d.toNat n R f want.toNat) ∧ Below w.heap.size w w' := implBlockOf_rd d s want v R n f h1 w o.rd hh kf
end Go.Proofs.Ytoadjpacchhleai

namespace Go.Proofs.Ytoadjpacchhleai
open Go.ChangeShapes Go.WideShapes Go.ChangeAt Go.RowKit F256
set_option linter.unusedVariables false

theorem fnExactBlockOf_both (a0 : Int) (h0 : -9223372036854775808 ≤ a0 ∧ a0 ≤ 9223372036854775807) (a1 : Int) (h1 : -9223372036854775808 ≤ a1 ∧ a1 ≤ 9223372036854775807) (n2 : Nat) (m2 : Nat → Nat) (f2 : Nat → Nat → Nat) (k2 : ∀ i j, f2 i j < 256) (a3 : Int) (h3 : -9223372036854775808 ≤ a3 ∧ a3 ≤ 9223372036854775807) : ∃ (c : Int) (m : Nat) (g : Nat → Nat), m ≤ 4000 ∧
    (∀ (v2 : Value) (l2 e2 : Nat) (w : World), OwnM w l2 e2 v2 n2 m2 f2 → e2 ≤ w.heap.size →
      Calls Try.prog 23 #[.int .i64 a0, .int .i64 a1, v2, .int .i64 a3] w fun e w' => ∃ v', e = .returned (bytesR c v') ∧ Own w' w.heap.size w'.heap.size v' m g ∧ Below w.heap.size w w') ∧
    (∀ (v2 : Value) (l2 e2 : Nat) (w : World), OwnM w l2 e2 v2 n2 m2 f2 → e2 ≤ w.heap.size →
      Calls Try.prog 24 #[.int .i64 a0, .int .i64 a1, v2, .int .i64 a3] w fun e w' => ∃ v', e = .returned (bytesR c v') ∧ Own w' w.heap.size w'.heap.size v' m g ∧ Below w.heap.size w w') := by
  obtain ⟨c, hc⟩ := bof_ans a0 a1 n2 m2 a3
  refine ⟨c, if c = 0 then 4 else 0, blockN a0.toNat m2 n2 f2 a3.toNat, by split <;> omega, fun v2 l2 e2 w o2 b2 => ?_, fun v2 l2 e2 w o2 b2 => ?_⟩
  · refine (specBlockOf_any a0 a1 a3 v2 n2 m2 f2 e2 w o2.rd b2 k2).mono fun e w' ⟨x, v', he, ha, ho, hb⟩ => ?_
    obtain rfl := ha.one hc
    exact ⟨v', he, ho, hb⟩
  · refine (implBlockOf_any a0 a1 a3 v2 n2 m2 f2 l2 e2 w o2 b2 k2).mono fun e w' ⟨x, v', he, ha, ho, hb⟩ => ?_
    obtain rfl := ha.one hc
    exact ⟨v', he, ho, hb⟩

set_option maxHeartbeats 4000000 in
theorem fnExactBlockOf_walk (a0 : Int) (h0 : -9223372036854775808 ≤ a0 ∧ a0 ≤ 9223372036854775807) (a1 : Int) (h1 : -9223372036854775808 ≤ a1 ∧ a1 ≤ 9223372036854775807) (a2 : Option Addr) (n2 c2 : Nat) (m2 : Nat → Nat) (f2 : Nat → Nat → Nat) (k2 : ∀ i j, f2 i j < 256) (a3 : Int) (h3 : -9223372036854775808 ≤ a3 ∧ a3 ≤ 9223372036854775807) (w : World) (r2 : RdM w w.heap.size (.slice a2 n2 c2) n2 m2 f2) :
    Calls Try.prog 5 #[.int .i64 a0, .int .i64 a1, .slice a2 n2 c2, .int .i64 a3] w fun e w' => e = .returned (.bool true) ∧ Below w.heap.size w w' := by
  have l2 : n2 ≤ 9223372036854775807 := by obtain ⟨_, _, _, _, h, _⟩ := r2; unfold maxLen at h; omega
  obtain ⟨c, m, g, hm, hs, hi⟩ := fnExactBlockOf_both a0 h0 a1 h1 n2 m2 f2 k2 a3 h3
  clear k2
  have bel := Below.refl w.heap.size w
  go_enter Try.func5, Try.ntmps5
  go_wp2_with fail
  refine (szByteSS_any _ n2 m2 f2 _ _ r2 1048576 (by omega)).mono ?_
  rintro e wz ⟨x2, rfl, hx2, hwz⟩
  obtain rfl := hwz.symm
  rcases hx2 with rfl | ⟨sz2, rfl⟩
  · go_wp2
    go_ret
    exact ⟨rfl, Below.refl _ _⟩
  have le2 : ∀ i, i < n2 → m2 i ≤ 1000000000 := fun i hi => by have := le_sumN m2 hi; omega
  go_wp2_with fail
  refine (toByteSS_any _ n2 m2 f2 w.heap.size _ r2 (by omega) (by omega) le2).mono ?_
  rintro e w1 ⟨vt2, rfl, ot2, b1⟩
  have sw1 : w.heap.size ≤ w1.heap.size := b1.size
  replace r2 := r2.below b1 (by omega)
  replace bel := bthen bel b1
  go_wp2_with fail
  refine (hs vt2 _ _ _ ot2 (by omega)).mono ?_
  rintro e w2 ⟨vW, rfl, oW, b2⟩
  obtain ⟨aoW, capW, rfl⟩ := oW.slice
  unfold bytesR
  have sw2 : w1.heap.size ≤ w2.heap.size := b2.size
  replace r2 := r2.below b2 (by omega)
  replace ot2 := ot2.below b2 (by omega)
  replace bel := bthen bel b2
  clear ot2
  go_wp2_with fail
  have rx := r2.below (Below.alloc (Below.refl w2.heap.size w2) (Nat.le_refl _) (.cells #[.int .i64 c, .slice aoW m capW] 25)) (by omega)
  refine (toByteSS_any _ n2 m2 f2 w.heap.size _ rx (by simp <;> omega) (by omega) le2).mono ?_
  rintro e w3 ⟨vx2, rfl, ox2, b3⟩
  clear rx
  replace ox2 := ox2.weaken (lo' := w2.heap.size + 1) (by simp) (Nat.le_refl _)
  have sw3 : w2.heap.size ≤ w3.heap.size := (bnew b3).size
  have boxW := (box_new w2 _ _).below b3 (by simp)
  have eboxW : w2.heap.size < w3.heap.size := bsize b3
  replace r2 := r2.below (bnew b3) (by omega)
  replace oW := oW.below (bnew b3) (by omega)
  replace bel := bthen bel (bnew b3)
  go_wp2_with fail
  refine (hi vx2 _ _ _ ox2 (by omega)).mono ?_
  rintro e w4 ⟨vG, rfl, oG, b4⟩
  obtain ⟨aoG, capG, rfl⟩ := oG.slice
  unfold bytesR
  have sw4 : w3.heap.size ≤ w4.heap.size := b4.size
  replace r2 := r2.below b4 (by omega)
  replace oW := oW.below b4 (by omega)
  replace boxW := boxW.below b4 (by omega)
  replace ox2 := ox2.below b4 (by omega)
  replace bel := bthen bel b4
  obtain ⟨d0, d1, -, -⟩ := res_cells boxW
  have dz : w2.heap.size < w4.heap.size := by omega
  go_wp2_with fail
  have rx := oG.alloc (.cells #[.int .i64 c, .slice aoG m capG] 25)
  have ry := oW.alloc (.cells #[.int .i64 c, .slice aoG m capG] 25)
  refine (eqBytesR_same c (.slice aoG m capG) (.slice aoW m capW) m g _ _ _ rx.rd ry.rd (by simp <;> omega) (by simp <;> omega)).mono ?_
  clear rx ry d0 d1 dz
  rintro e w5 ⟨rfl, b5⟩
  have sw5 : w4.heap.size ≤ w5.heap.size := (bnew b5).size
  have boxG := (box_new w4 _ _).below b5 (by simp)
  have eboxG : w4.heap.size < w5.heap.size := bsize b5
  replace r2 := r2.below (bnew b5) (by omega)
  replace oW := oW.below (bnew b5) (by omega)
  replace boxW := boxW.below (bnew b5) (by omega)
  replace ox2 := ox2.below (bnew b5) (by omega)
  replace oG := oG.below (bnew b5) (by omega)
  replace bel := bthen bel (bnew b5)
  go_wp2_with fail
  refine (toByteSS_any _ n2 m2 f2 w.heap.size _ r2 (by omega) (by omega) le2).mono ?_
  rintro e w6 ⟨vy2, rfl, oy2, b6⟩
  have sw6 : w5.heap.size ≤ w6.heap.size := b6.size
  replace r2 := r2.below b6 (by omega)
  replace oW := oW.below b6 (by omega)
  replace boxW := boxW.below b6 (by omega)
  replace ox2 := ox2.below b6 (by omega)
  replace oG := oG.below b6 (by omega)
  replace boxG := boxG.below b6 (by omega)
  replace bel := bthen bel b6
  go_wp2_with fail
  refine (eqByteSS_same vx2 vy2 n2 m2 f2 _ _ _ ox2.rd oy2.rd (by omega) (by omega)).mono ?_
  rintro e w7 ⟨rfl, b7⟩
  clear oy2
  have sw7 : w6.heap.size ≤ w7.heap.size := b7.size
  replace r2 := r2.below b7 (by omega)
  replace oW := oW.below b7 (by omega)
  replace boxW := boxW.below b7 (by omega)
  replace ox2 := ox2.below b7 (by omega)
  replace oG := oG.below b7 (by omega)
  replace boxG := boxG.below b7 (by omega)
  replace bel := bthen bel b7
  go_wp2_with fail
  refine (markByteSS_any vx2 n2 m2 f2 _ _ 1 (by omega) (by omega) (by omega) _ ox2 (by omega)).mono ?_
  rintro e w8 ⟨rfl, ch⟩
  clear ox2
  have sw8 : w7.heap.size ≤ w8.heap.size := ch.size
  replace r2 := r2.chg ch (by omega) (by omega)
  replace oW := oW.chg ch (by omega)
  replace boxW := boxW.chg ch (by omega)
  replace oG := oG.chg ch (by omega)
  replace boxG := boxG.chg ch (by omega)
  replace bel := bel.trans (ch.below (by omega) (by omega))
  clear ch
  skip
  obtain ⟨d0, d1, -, -⟩ := res_cells boxW
  obtain ⟨d2, d3, -, -⟩ := res_cells boxG
  go_wp2_with fail
  refine (eqBytesR_same c (.slice aoG m capG) (.slice aoW m capW) m g _ _ _ oG.rd oW.rd (by omega) (by omega)).mono ?_
  clear d0 d1 d2 d3
  rintro e w9 ⟨rfl, b9⟩
  have sw9 : w8.heap.size ≤ w9.heap.size := b9.size
  replace r2 := r2.below b9 (by omega)
  replace oW := oW.below b9 (by omega)
  replace boxW := boxW.below b9 (by omega)
  replace oG := oG.below b9 (by omega)
  replace boxG := boxG.below b9 (by omega)
  replace bel := bthen bel b9
  obtain ⟨d0, d1, -, -⟩ := res_cells boxG
  go_wp2_with fail
  refine (markBytesR_any c (.slice aoG m capG) m g _ _ 1 (by omega) (by omega) _ oG).mono ?_
  rintro e w10 ⟨rfl, oM, ch⟩
  clear d0 d1 oG
  have sw10 : w9.heap.size ≤ w10.heap.size := ch.size
  replace r2 := r2.chg ch (by omega) (by omega)
  replace oW := oW.chg ch (by omega)
  replace boxW := boxW.chg ch (by omega)
  replace boxG := boxG.chg ch (by omega)
  replace bel := bel.trans (ch.below (by omega) (by omega))
  clear ch
  obtain ⟨d0, d1, -, -⟩ := res_cells boxG
  go_wp2_with fail
  refine (heldBytesR_any c (.slice aoG m capG) m _ 1 (by omega) (by omega) _ oM.rd (by omega)).mono ?_
  rintro e w11 ⟨rfl, b11⟩
  clear d0 d1
  have sw11 : w10.heap.size ≤ w11.heap.size := b11.size
  replace r2 := r2.below b11 (by omega)
  replace oW := oW.below b11 (by omega)
  replace boxW := boxW.below b11 (by omega)
  replace boxG := boxG.below b11 (by omega)
  replace oM := oM.below b11 (by omega)
  replace bel := bthen bel b11
  go_wp2_with fail
  refine (toByteSS_any _ n2 m2 f2 w.heap.size _ r2 (by omega) (by omega) le2).mono ?_
  rintro e w12 ⟨vu2, rfl, ou2, b12⟩
  have sw12 : w11.heap.size ≤ w12.heap.size := b12.size
  replace r2 := r2.below b12 (by omega)
  replace oW := oW.below b12 (by omega)
  replace boxW := boxW.below b12 (by omega)
  replace boxG := boxG.below b12 (by omega)
  replace oM := oM.below b12 (by omega)
  replace bel := bthen bel b12
  go_wp2_with fail
  refine (hi vu2 _ _ _ ou2 (by omega)).mono ?_
  rintro e w13 ⟨vH, rfl, oH, b13⟩
  obtain ⟨aoH, capH, rfl⟩ := oH.slice
  unfold bytesR
  have sw13 : w12.heap.size ≤ w13.heap.size := b13.size
  replace r2 := r2.below b13 (by omega)
  replace oW := oW.below b13 (by omega)
  replace boxW := boxW.below b13 (by omega)
  replace boxG := boxG.below b13 (by omega)
  replace oM := oM.below b13 (by omega)
  replace ou2 := ou2.below b13 (by omega)
  replace bel := bthen bel b13
  clear ou2
  obtain ⟨d0, d1, -, -⟩ := res_cells boxW
  have dz : w2.heap.size < w13.heap.size := by omega
  go_wp2_with fail
  have rx := oH.alloc (.cells #[.int .i64 c, .slice aoH m capH] 25)
  have ry := oW.alloc (.cells #[.int .i64 c, .slice aoH m capH] 25)
  refine (eqBytesR_same c (.slice aoH m capH) (.slice aoW m capW) m g _ _ _ rx.rd ry.rd (by simp <;> omega) (by simp <;> omega)).mono ?_
  clear rx ry d0 d1 dz
  rintro e w14 ⟨rfl, b14⟩
  have sw14 : w13.heap.size ≤ w14.heap.size := (bnew b14).size
  have boxH := (box_new w13 _ _).below b14 (by simp)
  have eboxH : w13.heap.size < w14.heap.size := bsize b14
  replace r2 := r2.below (bnew b14) (by omega)
  replace oW := oW.below (bnew b14) (by omega)
  replace boxW := boxW.below (bnew b14) (by omega)
  replace boxG := boxG.below (bnew b14) (by omega)
  replace oM := oM.below (bnew b14) (by omega)
  replace oH := oH.below (bnew b14) (by omega)
  replace bel := bthen bel (bnew b14)
  obtain ⟨d0, d1, -, -⟩ := res_cells boxG
  go_wp2_with fail
  refine (heldBytesR_any c (.slice aoG m capG) m _ 1 (by omega) (by omega) _ oM.rd (by omega)).mono ?_
  rintro e w15 ⟨rfl, b15⟩
  clear d0 d1
  have sw15 : w14.heap.size ≤ w15.heap.size := b15.size
  replace r2 := r2.below b15 (by omega)
  replace oW := oW.below b15 (by omega)
  replace boxW := boxW.below b15 (by omega)
  replace boxG := boxG.below b15 (by omega)
  replace oM := oM.below b15 (by omega)
  replace oH := oH.below b15 (by omega)
  replace boxH := boxH.below b15 (by omega)
  replace bel := bthen bel b15
  go_wp2
  go_ret
  exact ⟨rfl, bel⟩

set_option maxRecDepth 100000 in
theorem fnExactBlockOf_lifted (os : Os) (started : os.Started) (H : Type) (enc : TypeId × Value → H) :
    ReturnsInHanded {} Try.checked os 5 .any (Rows.fnExactBlockOfSpec.pre6 enc Try.prog Try.f5 Rows.fnExactBlockOfRow.domain false) (Rows.fnExactBlockOfSpec.post enc Try.prog Try.f5 false true false false) := by
  refine returnsInHanded_of_change (C := Try.checked) frame_own started (by kernel_rfl) Try.func5
    (ChangeSpec.witness6 (enc := enc) (C := Try.checked) false ⟨#[], #[.int .i64 0, .int .i64 0, .slice none 0 0, .int .i64 0], []⟩ 8 (by kernel_rfl) (by kernel_rfl) (by kernel_rfl) (by kernel_rfl)) ?_
  intro W base args ds gs before hval0 hW hcnd _
  have hval : ∀ (j : Nat) t v, Try.f5.params[j]? = some t → args[j]? = some v → Value.okWide Try.prog W .any base t v := hval0
  have hW' := hW
  obtain ⟨p, q, hA0, hV, rfl, hfz, hnd⟩ := hW
  have hA : DataW.TrodAll enc Try.prog W 0 (fun _ => true) true Try.f5.params.toList args.toList ds p := hA0
  rw [Try.params5] at hA hval
  obtain ⟨v0, vs0, d0, ds0, p0, q0, hargs, rfl, rfl, h0, r0⟩ := trodAll_cons hA
  obtain ⟨v1, vs1, d1, ds1, p1, q1, rfl, rfl, rfl, h1, r1⟩ := trodAll_cons r0
  obtain ⟨v2, vs2, d2, ds2, p2, q2, rfl, rfl, rfl, h2, r2⟩ := trodAll_cons r1
  obtain ⟨v3, vs3, d3, ds3, p3, q3, rfl, rfl, rfl, h3, r3⟩ := trodAll_cons r2
  obtain ⟨rfl, rfl, rfl⟩ := trodAll_nil r3
  obtain rfl : args = #[v0, v1, v2, v3] := by cases args; simp_all
  obtain ⟨rfl, rfl⟩ := trodVars_none hV
  obtain ⟨a0, rfl, rfl, rfl, w0⟩ := open_int Try.underlying2 (hval 0 2 v0 rfl rfl) h0
  obtain ⟨a1, rfl, rfl, rfl, w1⟩ := open_int Try.underlying2 (hval 1 2 v1 rfl rfl) h1
  obtain ⟨a2, len2, cap2, rfl⟩ := okWide_slice Try.underlying33 (hval 2 33 v2 rfl rfl)
  have k2 := h2
  have lt2 : ∀ x ∈ p2, x.block < W.heap.size := by obtain ⟨m, hm⟩ := k2; exact DataW.trod_lt m _ _ _ hm
  obtain ⟨nn2, ff2, kk2, w2⟩ := rowsM_of_trod Try.underlying33 Try.underlying23 Try.underlying5 (by kernel_rfl) (by kernel_rfl) h2
  obtain ⟨a3, rfl, rfl, rfl, w3⟩ := open_int Try.underlying2 (hval 3 2 v3 rfl rfl) h3
  clear hA0 hval0
  refine (fnExactBlockOf_walk a0 (bounds_i64 w0) a1 (bounds_i64 w1) a2 len2 cap2 nn2 ff2 kk2 a3 (bounds_i64 w3) W w2).mono fun e W' ⟨he, bel⟩ => ?_
  subst he
  exact ⟨_, rfl, _, _, _, [], _, [], hW', trodAll_mk1 (shut_bool Try.underlying4 _), (trodAll_cons_mk (shut_int Try.underlying2 w0) (trodAll_cons_mk (shut_int Try.underlying2 w1) (trodAll_cons_mk (Below.trod frame_laid (by kernel_rfl) (of_decide_eq_true (by kernel_rfl)) k2 bel lt2) (trodAll_cons_mk (shut_int Try.underlying2 w3) trodAll_mk0)))), rfl, bel.frame _, fun h => by cases h⟩

theorem fnExactBlockOf_proved : Rows.FnExactBlockOfSaid :=
  OpenClaim.holds_of_wide 5 Try.f5 rfl rfl rfl rfl rfl rfl rfl ⟨rfl, rfl, rfl, rfl, rfl⟩ rfl rfl rfl rfl rfl (by kernel_rfl) Try.func5 (by kernel_rfl)
    (of_decide_eq_true (by kernel_rfl)) (by unfold Func.isWrapper; first | (rw [if_pos (by decide +kernel)]; kernel_rfl) | (rw [if_neg (by decide +kernel)]; exact ⟨rfl, rfl⟩))
    (fun os started H enc _ => fnExactBlockOf_lifted os started H enc)
#print axioms fnExactBlockOf_proved
end Go.Proofs.Ytoadjpacchhleai
