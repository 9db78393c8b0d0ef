/- Walk of the program's weightsOf. -/
import Derived.Test.YtoadjpacchhleahWImplE
import Derived.Test.YtoadjpacchhleahWSolveI
import Derived.Test.YtoadjpacchhleahGaussU
namespace Go.Proofs.Ytoadjpacchhleah
open Go.RowKit F256
set_option linter.unusedVariables false
set_option linter.unusedSimpArgs false

theorem OwnE.congr {w : World} {lo hi : Nat} {v : Value} {R : Nat} {n : Nat → Nat} {M M' : Mat} {g cap : Nat} {e : Nat → Value} (h : OwnE w lo hi v R n M g cap e) (hM : ∀ i j, i < R → j < n i → M i j = M' i j) : OwnE w lo hi v R n M' g cap e :=
  ⟨h.val, h.low, h.high, h.row, fun i hi => (h.each i hi).congr (fun j hj => hM i j hi hj), h.apart⟩
/-- the rows of the weights on the way: the first k columns, of the next one the first m rows -/
def wayW (D : Nat) (hv : Nat → Nat) (k m : Nat) : Mat := fun i j => if j < k ∨ (j = k ∧ i < m) then wtM D 0 hv i j else 0
/-- a byte stored into its row -/
theorem OwnE.byte {w : World} {lo hi : Nat} {v : Value} {R C : Nat} {M M' : Mat} {g cap : Nat} {e : Nat → Value} (h : OwnE w lo hi v R (fun _ => C) M g cap e) (i k x gi ci : Nat) (hi' : i < R) (hk : k < C) (he : e i = .slice (some ⟨gi, 0, none⟩) C ci)
    (hM : ∀ a b, a < R → b < C → M' a b = if a = i ∧ b = k then x else M a b) (hlh : lo ≤ hi) : OwnE (w.setCell ⟨gi, k, none⟩ (.int .u8 x)) lo hi v R (fun _ => C) M' g cap e := by
  have ho := h.each i hi'
  have ho2 := ho
  rw [he] at ho
  have hM2 : ∀ a b, a < R → b < C → (fun a b => if a = i then M' a b else M a b) a b = M' a b := fun a b ha hb => by
    show (if a = i then M' a b else M a b) = M' a b
    by_cases c : a = i
    · rw [if_pos c]
    · rw [if_neg c, hM a b ha hb, if_neg (fun hh => c hh.1)]
  refine OwnE.congr (M := fun a b => if a = i then M' a b else M a b) (OwnE.upd h i hi' ?_ ?_ (fun j _ hj => by funext b; show (if j = i then M' j b else M j b) = M j b; rw [if_neg hj])) (fun a b ha hb => hM2 a b ha hb)
  · have t1 : tlo (e i) lo = gi := by rw [he]; rfl
    have t2 : thi (e i) lo = gi + 1 := by rw [he]; rfl
    rw [t1, t2]
    exact (out_store w gi (gi + 1) gi k _ (Nat.le_refl _) (Nat.lt_succ_self _)).chg
  · rw [he]
    exact ho.store k x hk (fun b hb => by
      show (if i = i then M' i b else M i b) = _
      rw [if_pos rfl, hM i b hi' hb]
      by_cases c : b = k
      · rw [if_pos ⟨rfl, c⟩, if_pos c]
      · rw [if_neg (fun hh => c hh.2), if_neg c])

theorem fieldB1 (x : Int) (v : Value) (w : World) : (Instr.field 26 (.agg #[.int .i64 x, v]) 1).run Try.prog w = .ok v w := by kernel_rfl

set_option maxHeartbeats 4000000 in
theorem weightsOf_any (D want : Nat) (vh : Value) (hv : Nat → Nat) (h1 : Nat) (w : World) (rh : RdI w h1 vh D (fun i => (hv i : Int))) (hh : h1 ≤ w.heap.size) (hD1 : 1 ≤ D) (hD : D ≤ 3) (hb : ∀ k, k < D → hv k < D + 2) (hr : ∀ k, k + 1 < D → hv k < hv (k + 1)) (hw : want < D + 2) :
    Calls Try.prog 77 #[.int .i64 D, vh, .int .i64 want] w fun e w' => ∃ v', e = .returned v' ∧ Own w' w.heap.size w'.heap.size v' D (weightsN D 0 hv want) ∧ Below w.heap.size w w' := by
  obtain ⟨aoh, caph, rfl, hmm, hch⟩ := rh
  obtain ⟨bh, oh, rfl, hbh, hcell⟩ := hch (by omega)
  have HC : Hid (∀ i, i < D → w.cell? ⟨bh, oh + i, none⟩ = some (.int .i64 (hv i : Int))) := hcell
  have HBD : Hid (∀ k, k < D → hv k < D + 2) := hb
  have HFULL : Hid ((gaussM D (aug D (wtM D 0 hv) (genN D want 0)) D).2 = D) := row_full D hD1 hD hv (genN D want 0) hb hr
  have hbw : bh < w.heap.size := by omega
  clear hch hcell hb hr hmm
  go_enter Try.func77, Try.ntmps77
  go_wp2_with (at_make; refine wp_makeM _ rfl _ _ rfl _ _ D rfl rfl rfl rfl (by omega) ?_; intro w1 hown1 hb1 hz1)
  go_loopw [15] (fun i wr => ∃ k : Nat, k ≤ D ∧ i = .int .i64 k ∧ ∃ e', Cpy w wr D k (fun _ => D) (wayW D hv 0 0) e' ∧ ∀ i, i < k → ∃ gi ci, e' i = .slice (some ⟨gi, 0, none⟩) D ci) (fun i _ => D - (intOf i).toNat)
  case atStart => exact ⟨0, Nat.zero_le _, rfl, fun _ => nilS, ⟨by rw [valsOf_eq (g := fun _ => nilS) (fun i hi => by simp)]; exact hown1, fun i hi => by omega, ⟨fun i hi => by omega, fun i j hi => by omega⟩, hb1, hz1⟩, fun i hi => by omega⟩
  case round =>
    clear hown1 hb1 hz1
    obtain ⟨k, hk, rfl, e', hcp, hsl⟩ := hrel
    by_cases hlt : k < D
    · have HSL : Hid (∀ i, i < k → ∃ gi ci, e' i = .slice (some ⟨gi, 0, none⟩) D ci) := hsl
      have HCP : Hid (Cpy w wr D k (fun _ => D) (wayW D hv 0 0) e') := hcp
      have hl := hcp.lt
      clear hsl hcp
      go_wp2_with (at_make; refine wp_makeB _ rfl _ _ rfl _ _ D rfl rfl rfl rfl (by omega) ?_; intro w2 ho2 hb2 hz2; have q1 : w2.cell? ⟨w.heap.size, k, none⟩ = some nilS := (by rw [hb2.cell (p := ⟨w.heap.size, k, none⟩) hl, HCP.out.row.cellAt k (by omega), valsOf_get _ _ _ hlt, if_neg (Nat.lt_irrefl k)]); have q2 : w2.frozen? ⟨w.heap.size, k, none⟩ = false := (hb2.frozen (p := ⟨w.heap.size, k, none⟩) hl).trans (HCP.out.row.frozenAt k))
      have N := HCP.out.next hlt hb2 (ho2.congr (g := wayW D hv 0 0 k) (fun i hi => by simp [wayW]))
      have NS : ∀ i, i < k + 1 → ∃ gi ci, (fun i => if i = k then Value.slice (some ⟨wr.heap.size, 0, none⟩) D D else e' i) i = .slice (some ⟨gi, 0, none⟩) D ci := fun i hi => by
        show ∃ gi ci, (if i = k then Value.slice (some ⟨wr.heap.size, 0, none⟩) D D else e' i) = .slice (some ⟨gi, 0, none⟩) D ci
        by_cases c : i = k
        · exact ⟨_, _, by rw [if_pos c]⟩
        · rw [if_neg c]
          exact HSL.out i (by omega)
      clear HCP HSL hb2 ho2 q1 q2
      go_roundw
      case rel => exact ⟨k + 1, by omega, by go_num, _, N, NS⟩
      case measure => simp [intOf]; omega
    · obtain rfl : k = D := by omega
      have E0 : OwnE wr w.heap.size wr.heap.size (.slice (some ⟨w.heap.size, 0, none⟩) k k) k (fun _ => k) (wayW k hv 0 0) w.heap.size k e' := by
        have hrr := hcp.row
        rw [valsOf_eq (g := e') (fun i hi => by simp [hi])] at hrr
        exact ⟨rfl, Nat.le_refl _, hcp.lt, hrr, fun i hi => (hcp.each i hi).weaken (by omega) (Nat.le_refl _), hcp.apart⟩
      have HSL : Hid (∀ i, i < k → ∃ gi ci, e' i = .slice (some ⟨gi, 0, none⟩) k ci) := hsl
      have B0 : Below w.heap.size w wr := hcp.bel
      obtain ⟨wA, hwA⟩ : ∃ wA, wA = wr := ⟨_, rfl⟩
      rw [← hwA] at E0 B0 ⊢
      have hzA : w.heap.size < wA.heap.size := E0.high
      clear hcp hsl hwA
      go_wp2
      go_loopw [25] (fun i wr => ∃ c : Nat, c ≤ k ∧ i = .int .i64 c ∧ OwnE wr w.heap.size wA.heap.size (.slice (some ⟨w.heap.size, 0, none⟩) k k) k (fun _ => k) (wayW k hv c 0) w.heap.size k e' ∧ Below w.heap.size w wr ∧ wA.heap.size ≤ wr.heap.size) (fun i _ => k - (intOf i).toNat)
      case atStart => exact ⟨0, Nat.zero_le _, rfl, E0, B0, Nat.le_refl _⟩
      case round =>
        clear E0 B0
        obtain ⟨c, hc, rfl, hE, hbel, hsz⟩ := hrel
        by_cases hck : c < k
        · have ck : wr.cell? ⟨bh, oh + c, none⟩ = some (.int .i64 (hv c : Int)) := (hbel.cell (p := ⟨bh, oh + c, none⟩) hbw).trans (HC.out c hck)
          have C := factorsAt_any k (hv c) (by omega) (by have := HBD.out c hck; omega) wr
          obtain ⟨p, hp⟩ : ∃ p, p = hv c := ⟨_, rfl⟩
          have HP : Hid (p = hv c) := hp
          rw [← hp] at ck C
          have HE : Hid (OwnE wr w.heap.size wA.heap.size (.slice (some ⟨w.heap.size, 0, none⟩) k k) k (fun _ => k) (wayW k hv c 0) w.heap.size k e') := hE
          have HBL : Hid (Below w.heap.size w wr) := hbel
          obtain ⟨wk, hwk⟩ : ∃ wk, wk = wr := ⟨_, rfl⟩
          rw [← hwk] at ck C HE HBL hsz ⊢
          clear hp hE hbel hwk
          go_wp2_with fail
          refine C.mono ?_
          rintro ee w6 ⟨v6, rfl, o6, b6⟩
          obtain ⟨gv, capv, hgv, h61, h62, h63, h64⟩ := o6.form (by omega)
          subst hgv
          have E6 := HE.out.below b6 hsz
          have s6 := b6.size
          have B6 : Below w.heap.size w w6 := HBL.out.trans (b6.mono HBL.out.size)
          clear C ck b6 HE HBL
          go_wp2
          go_loopw [35] (fun i wr => ∃ m : Nat, m ≤ k ∧ i = .int .i64 m ∧ OwnE wr w.heap.size wA.heap.size (.slice (some ⟨w.heap.size, 0, none⟩) k k) k (fun _ => k) (wayW k hv c m) w.heap.size k e' ∧ Own wr wk.heap.size w6.heap.size (.slice (some ⟨gv, 0, none⟩) k capv) k (genN k p 0) ∧ Below w.heap.size w wr ∧ w6.heap.size ≤ wr.heap.size) (fun i _ => k - (intOf i).toNat)
          case atStart => exact ⟨0, Nat.zero_le _, rfl, E6, o6, B6, Nat.le_refl _⟩
          case round =>
            clear E6 o6 B6
            obtain ⟨m, hm, rfl, hE, ho, hbel, hsz6⟩ := hrel
            by_cases hmk : m < k
            · obtain ⟨gi, ci, hei⟩ := HSL.out m hmk
              have om := hE.each m hmk
              have c1 : wr.cell? ⟨w.heap.size, m, none⟩ = some (.slice (some ⟨gi, 0, none⟩) k ci) := by rw [← hei]; exact hE.cell m hmk
              have c2 : wr.cell? ⟨gv, m, none⟩ = some (.int .u8 (genN k p 0 m)) := (ho.1.cellAt m (by omega)).trans (cellsOf_get _ _ _ hmk)
              rw [hei] at om
              have hgi := om.1.lt gi rfl
              have hgi2 := om.2 gi rfl
              have c3 : wr.cell? ⟨gi, c, none⟩ = some (.int .u8 (wayW k hv c m m c)) := (om.1.cellAt c (by omega)).trans (cellsOf_get _ _ _ hck)
              have c4 : wr.frozen? ⟨gi, c, none⟩ = false := om.1.frozenAt c
              obtain ⟨y, hy⟩ : ∃ y, y = genN k p 0 m := ⟨_, rfl⟩
              obtain ⟨y3, hy3⟩ : ∃ y, y = wayW k hv c m m c := ⟨_, rfl⟩
              rw [← hy] at c2
              rw [← hy3] at c3
              have EN : OwnE (wr.setCell ⟨gi, c, none⟩ (.int .u8 y)) w.heap.size wA.heap.size (.slice (some ⟨w.heap.size, 0, none⟩) k k) k (fun _ => k) (wayW k hv c (m + 1)) w.heap.size k e' := hE.byte m c y gi ci hmk hck hei (fun a b ha hb => by
                unfold wayW
                by_cases cc : a = m ∧ b = c
                · obtain ⟨rfl, rfl⟩ := cc
                  rw [if_pos (show b < b ∨ (b = b ∧ a < a + 1) from .inr ⟨rfl, by omega⟩), if_pos (show a = a ∧ b = b from ⟨rfl, rfl⟩), hy, HP.out]
                  rfl
                · rw [if_neg cc]
                  by_cases c5 : b < c ∨ (b = c ∧ a < m)
                  · rw [if_pos c5, if_pos (by omega)]
                  · rw [if_neg c5, if_neg (by omega)]) (Nat.le_of_lt hzA)
              have ON : Own (wr.setCell ⟨gi, c, none⟩ (.int .u8 y)) wk.heap.size w6.heap.size (.slice (some ⟨gv, 0, none⟩) k capv) k (genN k p 0) := ho.out (out_store wr w.heap.size wA.heap.size gi c _ hgi.1 hgi2) (.inr hsz)
              have BN : Below w.heap.size w (wr.setCell ⟨gi, c, none⟩ (.int .u8 y)) := hbel.setCell hgi.1 _
              have SN : w6.heap.size ≤ (wr.setCell ⟨gi, c, none⟩ (.int .u8 y)).heap.size := by simpa using hsz6
              clear hE ho hbel om hei hy hy3
              go_wp2
              go_region
              all_goals
                go_wp2
                go_roundw
                case rel => exact ⟨m + 1, by omega, by go_num, by first | exact EN | exact EN.drewN 1, ON, by first | exact BN | exact below_drewN BN 1, SN⟩
                case measure => simp [intOf]; omega
            · obtain rfl : m = k := by omega
              have E9 := hE.congr (M' := wayW m hv (c + 1) 0) (fun a b ha hb => by
                unfold wayW
                by_cases c5 : b < c ∨ (b = c ∧ a < m)
                · rw [if_pos c5, if_pos (by omega)]
                · rw [if_neg c5, if_neg (by omega)])
              clear hE ho
              go_wp2
              go_roundw
              case rel => exact ⟨c + 1, by omega, by go_num, E9, hbel, by omega⟩
              case measure => simp [intOf]; omega
        · obtain rfl : c = k := by omega
          have C := factorsAt_any c want (by omega) (by omega) wr
          have EF := hE.congr (M' := wtM c 0 hv) (fun a b ha hb => by unfold wayW; rw [if_pos (.inl hb)])
          have HE : Hid (OwnE wr w.heap.size wA.heap.size (.slice (some ⟨w.heap.size, 0, none⟩) c c) c (fun _ => c) (wtM c 0 hv) w.heap.size c e') := EF
          have HBL : Hid (Below w.heap.size w wr) := hbel
          clear hE hbel EF
          go_wp2_with fail
          refine C.mono ?_
          rintro ee w6 ⟨v6, rfl, o6, b6⟩
          have B6 : Below w.heap.size w w6 := HBL.out.trans (b6.mono HBL.out.size)
          have E6 := HE.out.below b6 hsz
          have CS := implSolve_any _ _ c c (fun _ => c) (wtM c 0 hv) (genN c want 0) w.heap.size wA.heap.size wr.heap.size w6.heap.size w6 ⟨_, _, _, E6⟩ o6 (Nat.le_trans hsz b6.size) (Nat.le_refl _) (wtM_byt c 0 hv) (genN_lt c want 0)
          obtain ⟨ao6, cap6, rfl⟩ := o6.slice
          have s6 := B6.size
          clear C o6 b6 E6 HE HBL
          go_wp2_with fail
          refine CS.mono ?_
          rintro ee w7 ⟨x7, v7, rfl, ha7, o7, b7⟩
          have hx7 : x7 = 0 := by
            rcases ha7 with ⟨_, h⟩ | ⟨_, _, h⟩ | ⟨_, _, _, _, ⟨_, h⟩ | ⟨h, _⟩⟩
            · omega
            · rcases h with h | h | ⟨i, _, h⟩
              · omega
              · exact absurd rfl h
              · exact absurd rfl h
            · have := HFULL.out; omega
            · exact h
          subst hx7
          simp only [if_pos] at o7
          obtain ⟨ao7, cap7, rfl⟩ := o7.slice
          have HO7 : Hid (Own w7 w6.heap.size w7.heap.size (.slice ao7 c cap7) c (weightsN c 0 hv want)) := o7
          have B7 : Below w.heap.size w w7 := B6.trans (b7.mono s6)
          unfold bytesR
          have hfd := fieldB1 0 (.slice ao7 c cap7)
          clear ha7 o7 b7 CS B6
          go_wp2
          go_ret
          exact ⟨_, rfl, HO7.out.weaken s6 (Nat.le_refl _), B7⟩
end Go.Proofs.Ytoadjpacchhleah
