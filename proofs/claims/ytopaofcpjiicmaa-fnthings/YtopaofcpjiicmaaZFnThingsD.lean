/- What is put among things is there, once, with its bytes; what is dropped is not, and the rest is as it was: the law FnThings returns true at every code, and changes nothing that was there. No condition. -/
import Derived.Test.YtopaofcpjiicmaaZFnThingsC
import Derived.Deep.DeepCutAuto
import Derived.Test.YtopaofcpjiicmaaZFnThingsB
import Derived.Test.YtopaofcpjiicmaaRows
import Derived.Test.YtopaofcpjiicmaaFrameB
namespace Go.Proofs.Ytopaofcpjiicmaa
open Go.RowKit F256
set_option linter.unusedVariables false
set_option linter.unusedSimpArgs false
set_option maxHeartbeats 8000000 in
set_option maxRecDepth 20000 in
theorem l4Name_any (bs t : Nat) (v : Value) (n : Nat) (f : Nat → Nat) (ht : t ≤ 1000000) (w : World) (h : SrcD w bs t v n f) :
    Calls Try.prog 12 #[.pointer (some ⟨bs, 0, none⟩)] w fun e w' => ∃ b : ByteArray, e = .returned (.string b) ∧ b.size ≤ 3 ∧ SrcD w' bs (t + 1) v n f ∧ Chg bs (bs + 1) w w' := by
  have hbs := h.1.lt
  have b0 : Below w.heap.size w (w.alloc (.cells #[.string ⟨#[97]⟩, .string ⟨#[98]⟩, .string ⟨#[99]⟩, .string ⟨#[100, 49]⟩, .string ⟨#[108, 111, 103]⟩, .string ⟨#[122, 122]⟩] 9)) := (Below.refl _ _).alloc (Nat.le_refl _) _
  have X0 := box_new w #[.string ⟨#[97]⟩, .string ⟨#[98]⟩, .string ⟨#[99]⟩, .string ⟨#[100, 49]⟩, .string ⟨#[108, 111, 103]⟩, .string ⟨#[122, 122]⟩] 9
  have CN := l1Next_any bs t v n f 6 (by omega) (by omega) ht _ (h.chgTrans b0)
  have HB0 : Hid (Below w.heap.size w (w.alloc (.cells #[.string ⟨#[97]⟩, .string ⟨#[98]⟩, .string ⟨#[99]⟩, .string ⟨#[100, 49]⟩, .string ⟨#[108, 111, 103]⟩, .string ⟨#[122, 122]⟩] 9))) := b0
  clear h
  go_enter Try.func12, Try.ntmps12
  go_wp2_with fail
  refine CN.mono ?_
  rintro e w1 ⟨r, hr, rfl, h1, c1⟩
  have X1 : Box w1 w.heap.size #[.string ⟨#[97]⟩, .string ⟨#[98]⟩, .string ⟨#[99]⟩, .string ⟨#[100, 49]⟩, .string ⟨#[108, 111, 103]⟩, .string ⟨#[122, 122]⟩] 9 := (c1.block w.heap.size X0.lt (by omega)).trans X0
  have HS : Hid (SrcD w1 bs (t + 1) v n f) := h1
  have HC : Hid (Chg bs (bs + 1) w w1) := ⟨c1.os.trans HB0.out.os, c1.tape.trans HB0.out.tape, c1.output.trans HB0.out.output, Nat.le_trans HB0.out.size c1.size, fun b hb hn => (c1.block b (Nat.lt_of_lt_of_le hb HB0.out.size) hn).trans (HB0.out.block b hb)⟩
  clear h1 c1 CN X0 b0
  have i1 : (0 : Int) ≤ (r : Int) := by omega
  have i2 : (r : Int) < 6 := by omega
  match r, hr with
  | 0, _ =>
    have c := X1.cell 0
    simp only [List.getElem?_toArray, List.getElem?_cons_succ, List.getElem?_cons_zero] at c
    go_wp2
    go_ret
    exact ⟨_, rfl, by decide, HS.out, HC.out⟩
  | 1, _ =>
    have c := X1.cell 1
    simp only [List.getElem?_toArray, List.getElem?_cons_succ, List.getElem?_cons_zero] at c
    go_wp2
    go_ret
    exact ⟨_, rfl, by decide, HS.out, HC.out⟩
  | 2, _ =>
    have c := X1.cell 2
    simp only [List.getElem?_toArray, List.getElem?_cons_succ, List.getElem?_cons_zero] at c
    go_wp2
    go_ret
    exact ⟨_, rfl, by decide, HS.out, HC.out⟩
  | 3, _ =>
    have c := X1.cell 3
    simp only [List.getElem?_toArray, List.getElem?_cons_succ, List.getElem?_cons_zero] at c
    go_wp2
    go_ret
    exact ⟨_, rfl, by decide, HS.out, HC.out⟩
  | 4, _ =>
    have c := X1.cell 4
    simp only [List.getElem?_toArray, List.getElem?_cons_succ, List.getElem?_cons_zero] at c
    go_wp2
    go_ret
    exact ⟨_, rfl, by decide, HS.out, HC.out⟩
  | 5, _ =>
    have c := X1.cell 5
    simp only [List.getElem?_toArray, List.getElem?_cons_succ, List.getElem?_cons_zero] at c
    go_wp2
    go_ret
    exact ⟨_, rfl, by decide, HS.out, HC.out⟩
theorem put_le {p : Nat × (Nat → ThingD)} {bn : ByteArray} {q : Nat × (Nat → Nat)} {i : Nat} (hi : i ≤ (dropL p bn).1) : szSl szThingD (putL p bn q i) ≤ szSl szThingD p + 1 + bn.size + q.1 := by
  have hd := drop_le p bn
  obtain ⟨d, hD⟩ : ∃ d, d = dropL p bn := ⟨_, rfl⟩
  unfold putL
  rw [← hD] at hd hi ⊢
  have hs := sum_insF szThingD d.2 ⟨bn, false, q⟩ i (d.1 - i)
  rw [show i + (d.1 - i) = d.1 by omega] at hs
  have e : szThingD ⟨bn, false, q⟩ = bn.size + q.1 := rfl
  unfold szSl putD
  unfold szSl at hd
  simp only at hs ⊢
  omega
theorem SrcD.bel {w w' : World} {bs t n B : Nat} {v : Value} {f : Nat → Nat} (h : SrcD w bs t v n f) (hb : Below B w w') (hB : bs < B) : SrcD w' bs t v n f := ⟨h.1.below hb hB, h.2.1.below hb (by omega), h.2.2⟩
theorem Chg.also {lo hi : Nat} {w w1 w2 : World} (h : Chg lo hi w w1) (b : Below w.heap.size w1 w2) : Chg lo hi w w2 := Chg.then h b
/-- what was drawn so far: a list of things of one's own -/
def DrT (w : World) (bs t : Nat) (v : Value) (n : Nat) (f : Nat → Nat) (B T : Nat) (vo : Value) (wr : World) : Prop := ∃ (p : Nat × (Nat → ThingD)) (t' : Nat) (ao : Option Addr) (c : Nat), vo = .slice ao p.1 c ∧ OwnT (layThing.slice 29) wr w.heap.size wr.heap.size p [.slice ao p.1 c] ∧ szSl szThingD p ≤ B ∧ SrcD wr bs t' v n f ∧ t' ≤ t + T ∧ Chg bs (bs + 1) w wr
/-- a list of things that was drawn -/
def ThgP (bs t : Nat) (v : Value) (n : Nat) (f : Nat → Nat) (w : World) (e : Ending) (w' : World) : Prop := ∃ (v' : Value) (p : Nat × (Nat → ThingD)) (t' : Nat), e = .returned v' ∧ (∀ w2, Chg bs (bs + 1) w' w2 → (layThing.slice 29).rd w2 w2.heap.size p [v']) ∧ szSl szThingD p ≤ 100 ∧ SrcD w' bs t' v n f ∧ t' ≤ t + 100 ∧ Chg bs (bs + 1) w w'
set_option maxHeartbeats 8000000 in
set_option maxRecDepth 20000 in
theorem l13Things_any (bs t : Nat) (v : Value) (n : Nat) (f : Nat → Nat) (ht : t ≤ 700000) (w : World) (h : SrcD w bs t v n f) :
    Calls Try.prog 11 #[.pointer (some ⟨bs, 0, none⟩)] w (ThgP bs t v n f w) := by
  have hbs := h.1.lt
  have b0 : Below w.heap.size w (w.alloc (.cells #[] 29)) := (Below.refl _ _).alloc (Nat.le_refl _) _
  have G0 : OwnT (layThing.slice 29) (w.alloc (.cells #[] 29)) w.heap.size (w.alloc (.cells #[] 29)).heap.size (0, fun _ => ⟨⟨#[]⟩, false, (0, fun _ => 0)⟩) [.slice (some ⟨w.heap.size, 0, none⟩) 0 0] := (gat_lit0 (E := layThing) (t := 29) (fun _ => ⟨⟨#[]⟩, false, (0, fun _ => 0)⟩) w).own
  have CN := l1Next_any bs t v n f 5 (by omega) (by omega) (by omega) _ (h.chgTrans b0)
  have HB0 : Hid (Below w.heap.size w (w.alloc (.cells #[] 29))) := b0
  have HG0 : Hid (OwnT (layThing.slice 29) (w.alloc (.cells #[] 29)) w.heap.size (w.alloc (.cells #[] 29)).heap.size (0, fun _ => ⟨⟨#[]⟩, false, (0, fun _ => 0)⟩) [.slice (some ⟨w.heap.size, 0, none⟩) 0 0]) := G0
  clear h b0 G0
  go_enter Try.func11, Try.ntmps11
  go_wp2_with fail
  refine CN.mono ?_
  rintro e w1 ⟨r, hr, rfl, h1, c1⟩
  have HD1 : Hid (DrT w bs t v n f 0 1 (.slice (some ⟨w.heap.size, 0, none⟩) 0 0) w1) := ⟨_, t + 1, _, _, rfl, (HG0.out.chg c1 (.inr (by omega))).weaken (Nat.le_refl _) c1.size, by simp [szSl, sumN], h1, by omega, ⟨c1.os.trans HB0.out.os, c1.tape.trans HB0.out.tape, c1.output.trans HB0.out.output, Nat.le_trans HB0.out.size c1.size, fun b hb hn => (c1.block b (Nat.lt_of_lt_of_le hb HB0.out.size) hn).trans (HB0.out.block b hb)⟩⟩
  clear CN h1 c1
  go_wp2
  go_loopw [3, 4] (fun vo vk wr => ∃ j : Nat, j ≤ 4 ∧ vk = .int .i64 j ∧ DrT w bs t v n f (7 * (4 - j)) (1 + 20 * (4 - j)) vo wr) (fun _ vk _ => (intOf vk).toNat)
  case atStart => exact ⟨r, by omega, rfl, by
    obtain ⟨p, t', ao, c, e1, e2, e3, e4, e5, e6⟩ := HD1.out
    exact ⟨p, t', ao, c, e1, e2, by omega, e4, by omega, e6⟩⟩
  case round =>
    obtain ⟨j, hj, rfl, ⟨p, t', ao, c, rfl, ow, hsz, hs, ht', hc⟩⟩ := hrel
    obtain ⟨wx, rfl⟩ : ∃ y, y = wr := ⟨_, rfl⟩
    have zx := hc.size
    have HOW : Hid (OwnT (layThing.slice 29) wx w.heap.size wx.heap.size p [.slice ao p.1 c]) := ow
    have HS : Hid (SrcD wx bs t' v n f) := hs
    have HC : Hid (Chg bs (bs + 1) w wx) := hc
    clear ow hs hc HD1 HG0
    by_cases hlt : 0 < j
    · have hgt : (0 : Int) < (j : Int) := by omega
      go_wp2_with fail
      refine (l4Name_any bs t' v n f (by omega) wx HS.out).mono ?_
      rintro e w2 ⟨bn, rfl, hbn, s2, c2⟩
      have z2 := c2.size
      go_wp2_with fail
      refine (l1Next_any bs (t' + 1) v n f 4 (by omega) (by omega) (by omega) w2 s2).mono ?_
      rintro e w3 ⟨r3, hr3, rfl, s3, c3⟩
      have z3 := c3.size
      go_wp2_with fail
      refine (l1Some_any bs (t' + 1 + 1) v n f r3 (by omega) (by omega) w3 s3).mono ?_
      rintro e w4 ⟨v4, g4, rfl, o4, k4, s4, c4⟩
      have z4 := c4.size
      obtain ⟨ao4, cap4, rfl⟩ := o4.slice
      have OB := ownB_T o4 (Nat.le_refl _) k4
      have C24 : Chg bs (bs + 1) wx w4 := (c2.trans c3).trans c4
      have OW4 : OwnT (layThing.slice 29) w4 w.heap.size wx.heap.size p [.slice ao p.1 c] := HOW.out.chg C24 (.inr (by omega))
      obtain ⟨at_, hA⟩ := at_ex (dropL p bn).1 (dropL p bn).2 bn
      have CP := specPut_any p bn (r3, g4) at_ _ _ _ _ w4 OW4.rd OB.rd (by omega) (Nat.le_refl _) (by omega) (by omega) (show r3 ≤ 1048576 by omega) hA
      have HP : Hid (szSl szThingD (putL p bn (r3, g4) at_) ≤ 7 * (4 - (j - 1))) := by
        have := put_le (p := p) (bn := bn) (q := (r3, g4)) hA.le
        show _ ≤ _
        simp only at this
        omega
      have HS4 : Hid (SrcD w4 bs (t' + 1 + 1 + 3 * r3) v n f) := s4
      have HC4 : Hid (Chg bs (bs + 1) w w4) := HC.out.trans C24
      clear s2 c2 s3 c3 s4 c4 o4 k4 OB C24 OW4 hA
      go_wp2_with fail
      refine CP.mono ?_
      rintro e w5 ⟨v5, rfl, o5, b5⟩
      obtain ⟨ao5, cap5, hv5⟩ := sl_formT o5
      obtain rfl := one_eq hv5
      have HR : Hid (DrT w bs t v n f (7 * (4 - (j - 1))) (1 + 20 * (4 - (j - 1))) (.slice ao5 (putL p bn (r3, g4) at_).1 cap5) w5) := ⟨_, t' + 1 + 1 + 3 * r3, ao5, cap5, rfl, o5.weaken (by omega) (Nat.le_refl _), HP.out, HS4.out.chgTrans b5, by omega, HC4.out.also (b5.mono (by omega))⟩
      clear CP o5 b5 hv5
      go_wp2
      go_roundw
      case rel => exact ⟨j - 1, by omega, by go_num, HR.out⟩
      case measure => simp [intOf]; omega
    · obtain rfl : j = 0 := by omega
      have hsz' : szSl szThingD p ≤ 28 := by omega
      have ht2 : t' ≤ t + 81 := by omega
      clear hsz ht' hlt hj
      have hp1 := szSl_n hsz'
      have L0 : ¬ ((0 : Int) < ((0 : Nat) : Int)) := by omega
      go_upto_region 6 with fail
      go_cut [26] (fun cb wy => ∃ bb : Bool, cb = .bool bb ∧ (bb = true → p.1 ≠ 0) ∧ OwnT (layThing.slice 29) wy w.heap.size wx.heap.size p [.slice ao p.1 c] ∧ wx.heap.size ≤ wy.heap.size ∧ ∃ t2, SrcD wy bs t2 v n f ∧ t2 ≤ t + 82 ∧ Chg bs (bs + 1) w wy)
      case first =>
        by_cases h0 : p.1 = 0
        · have hz : ¬ ((0 : Int) < (p.1 : Int)) := by omega
          clear h0
          go_wp2
          go_meet
          exact ⟨false, rfl, (fun h => by cases h), HOW.out, Nat.le_refl _, t', HS.out, by omega, HC.out⟩
        · have hz : (0 : Int) < (p.1 : Int) := by omega
          go_wp2_with fail
          refine (l1Chance_any bs t' v n f 6 (by omega) (by omega) (by omega) wx HS.out).mono ?_
          rintro e w2 ⟨bb, rfl, s2, cg2⟩
          have HR : Hid (OwnT (layThing.slice 29) w2 w.heap.size wx.heap.size p [.slice ao p.1 c] ∧ wx.heap.size ≤ w2.heap.size ∧ ∃ t2, SrcD w2 bs t2 v n f ∧ t2 ≤ t + 82 ∧ Chg bs (bs + 1) w w2) := ⟨HOW.out.chg cg2 (.inr (by omega)), cg2.size, t' + 1, s2, by omega, HC.out.trans cg2⟩
          have H0 : Hid (p.1 ≠ 0) := h0
          clear s2 cg2 h0
          go_wp2
          go_meet
          exact ⟨bb, rfl, fun _ => H0.out, HR.out⟩
      case rest =>
        obtain ⟨bb, rfl, hb0, OW2, z2, t2, s2, ht3, c2⟩ := hcut
        have H0 : Hid (bb = true → p.1 ≠ 0) := hb0
        have HOW2 : Hid (OwnT (layThing.slice 29) wc w.heap.size wx.heap.size p [.slice ao p.1 c]) := OW2
        have HS2 : Hid (SrcD wc bs t2 v n f) := s2
        have HC2 : Hid (Chg bs (bs + 1) w wc) := c2
        obtain ⟨w2, rfl⟩ : ∃ y, y = wc := ⟨_, rfl⟩
        clear hb0 OW2 s2 c2 HOW HS HC
        go_upto_if 26 with fail
        go_cut [3] (fun vo wy => DrT w bs t v n f 28 90 vo wy)
        case first =>
          cases bb with
          | false =>
            have HR : Hid (DrT w bs t v n f 28 90 (.slice ao p.1 c) w2) := ⟨p, t2, ao, c, rfl, HOW2.out.weaken (Nat.le_refl _) z2, hsz', HS2.out, by omega, HC2.out⟩
            go_wp2
            go_meet
            exact HR.out
          | true =>
            have h0 := H0.out rfl
            obtain ⟨L, k1, k2, k3⟩ := HOW2.out
            obtain ⟨g, cap', ce, Ls, e9, eK, S⟩ := slice_form k1 h0
            simp only [List.cons.injEq, Value.slice.injEq, and_true, true_and] at e9
            obtain ⟨rfl, rfl⟩ := e9
            subst eK
            have SK := S.at_ 0
            obtain ⟨o9, c9, K9, hcs, hL, ob9, kn9⟩ := Thing_own (SK.own (by omega))
            rw [hcs] at SK
            have hg := (k3 g (List.mem_cons_self ..)).1
            have i2 : (0 : Int) < (p.1 : Int) := by omega
            have cc : w2.cell? ⟨g, 1, none⟩ = some (.bool (p.2 0).lost) := SK.cell (by omega) (show 1 < layThing.sz by decide)
            have cf : w2.frozen? ⟨g, 1, none⟩ = false := S.frozen 1
            have S2 := SK.store (a' := ⟨(p.2 0).name, true, (p.2 0).bytes⟩) k2 (by omega) (show 1 < layThing.sz by decide) (.bool true) (by rw [hL]; exact Thing_mk ⟨(p.2 0).name, true, (p.2 0).bytes⟩ ob9 kn9)
            have S3 : (layThing.slice 29).own (w2.setCell ⟨g, 1, none⟩ (.bool true)) (p.1, upd p.2 0 ⟨(p.2 0).name, true, (p.2 0).bytes⟩) [.slice (some ⟨g, 0, none⟩) p.1 c] (g :: catN p.1 Ls) := SlO.own S2
            have b9 : Below w.heap.size w2 (w2.setCell ⟨g, 1, none⟩ (.bool true)) := (Below.refl _ _).setCell hg _
            have HR : Hid (DrT w bs t v n f 28 90 (.slice (some ⟨g, 0, none⟩) p.1 c) (w2.setCell ⟨g, 1, none⟩ (.bool true))) := ⟨(p.1, upd p.2 0 ⟨(p.2 0).name, true, (p.2 0).bytes⟩), t2, _, c, rfl, ⟨_, S3, k2, fun b hb => ⟨(k3 b hb).1, by have := (k3 b hb).2; simp; omega⟩⟩, by
              have e8 : szSl szThingD (p.1, upd p.2 0 ⟨(p.2 0).name, true, (p.2 0).bytes⟩) = szSl szThingD p := by
                unfold szSl
                congr 1
                show sumN _ p.1 = sumN _ p.1
                congr 1
                funext i
                by_cases ci : i = 0
                · rw [ci]; show szThingD (upd p.2 0 _ 0) = _; rw [upd_at]; rfl
                · show szThingD (upd p.2 0 _ i) = _; rw [upd_ne _ _ ci]
              rw [e8]; exact hsz', HS2.out.bel b9 hbs, by omega, HC2.out.also b9⟩
            clear k1 k2 k3 S SK S2 S3 b9 ob9 hcs hL h0
            go_wp2
            go_meet
            exact HR.out
        case rest =>
          obtain ⟨p2, t3, ao2, c2, rfl, OW3, hsz3, s3, ht4, c3⟩ := hcut
          have HOW3 : Hid (OwnT (layThing.slice 29) wc w.heap.size wc.heap.size p2 [.slice ao2 p2.1 c2]) := OW3
          have HS3 : Hid (SrcD wc bs t3 v n f) := s3
          have HC3 : Hid (Chg bs (bs + 1) w wc) := c3
          have hp2 := szSl_n hsz3
          have z3w := c3.size
          obtain ⟨w3, rfl⟩ : ∃ y, y = wc := ⟨_, rfl⟩
          clear OW3 s3 c3 HOW2 HS2 HC2 H0
          go_upto_region 8 with fail
          go_cut [36] (fun cb wy => ∃ bb : Bool, cb = .bool bb ∧ (bb = true → p2.1 ≠ 0) ∧ OwnT (layThing.slice 29) wy w.heap.size w3.heap.size p2 [.slice ao2 p2.1 c2] ∧ w3.heap.size ≤ wy.heap.size ∧ ∃ t2, SrcD wy bs t2 v n f ∧ t2 ≤ t + 91 ∧ Chg bs (bs + 1) w wy)
          case first =>
            by_cases h0 : p2.1 = 0
            · have hz : ¬ ((0 : Int) < (p2.1 : Int)) := by omega
              clear h0
              go_wp2
              go_meet
              exact ⟨false, rfl, (fun h => by cases h), HOW3.out, Nat.le_refl _, t3, HS3.out, by omega, HC3.out⟩
            · have hz : (0 : Int) < (p2.1 : Int) := by omega
              go_wp2_with fail
              refine (l1Chance_any bs t3 v n f 8 (by omega) (by omega) (by omega) w3 HS3.out).mono ?_
              rintro e w2 ⟨bb, rfl, s2, cg2⟩
              have HR : Hid (OwnT (layThing.slice 29) w2 w.heap.size w3.heap.size p2 [.slice ao2 p2.1 c2] ∧ w3.heap.size ≤ w2.heap.size ∧ ∃ t2, SrcD w2 bs t2 v n f ∧ t2 ≤ t + 91 ∧ Chg bs (bs + 1) w w2) := ⟨HOW3.out.chg cg2 (.inr (by omega)), cg2.size, t3 + 1, s2, by omega, HC3.out.trans cg2⟩
              have H0 : Hid (p2.1 ≠ 0) := h0
              clear s2 cg2 h0
              go_wp2
              go_meet
              exact ⟨bb, rfl, fun _ => H0.out, HR.out⟩
          case rest =>
            obtain ⟨bb, rfl, hb0, OW4, z4, t4, s4, ht5, c4⟩ := hcut
            have H0 : Hid (bb = true → p2.1 ≠ 0) := hb0
            have HOW4 : Hid (OwnT (layThing.slice 29) wc w.heap.size w3.heap.size p2 [.slice ao2 p2.1 c2]) := OW4
            have HS4 : Hid (SrcD wc bs t4 v n f) := s4
            have HC4 : Hid (Chg bs (bs + 1) w wc) := c4
            obtain ⟨w4, rfl⟩ : ∃ y, y = wc := ⟨_, rfl⟩
            clear hb0 OW4 s4 c4 HOW3 HS3 HC3
            cases bb with
            | false =>
              have HR : Hid (∀ w2, Chg bs (bs + 1) w4 w2 → (layThing.slice 29).rd w2 w2.heap.size p2 [.slice ao2 p2.1 c2]) := fun w2 hc => (layThing.slice 29).rd_mono (HOW4.out.chg hc (.inr (by omega))).rd (Nat.le_trans z4 hc.size)
              go_wp2
              go_ret
              exact ⟨_, p2, t4, rfl, HR.out, by omega, HS4.out, by omega, HC4.out⟩
            | true =>
              have h0 := H0.out rfl
              obtain ⟨L, k1, k2, k3⟩ := HOW4.out
              obtain ⟨g, cap', ce, Ls, e9, eK, S⟩ := slice_form k1 h0
              simp only [List.cons.injEq, Value.slice.injEq, and_true, true_and] at e9
              obtain ⟨rfl, rfl⟩ := e9
              subst eK
              obtain ⟨o9, c9, hcs⟩ := Thing_cellsO (S.each 0 (by omega))
              have i2 : (0 : Int) < (p2.1 : Int) := by omega
              have hg := k3 g (List.mem_cons_self ..)
              have cc0 : w4.cell? ⟨g, 0, none⟩ = some (.string (p2.2 0).name) := by have := S.cell (i := 0) (j := 0) (by omega) (by decide); rw [hcs] at this; exact this
              have cc1 : w4.cell? ⟨g, 1, none⟩ = some (.bool (p2.2 0).lost) := by have := S.cell (i := 0) (j := 1) (by omega) (by decide); rw [hcs] at this; exact this
              have cc2 : w4.cell? ⟨g, 2, none⟩ = some (.slice o9 (p2.2 0).bytes.1 c9) := by have := S.cell (i := 0) (j := 2) (by omega) (by decide); rw [hcs] at this; exact this
              have bA : Below w4.heap.size w4 (w4.alloc (.cells #[.string (p2.2 0).name, .bool (p2.2 0).lost, .slice o9 (p2.2 0).bytes.1 c9] 29)) := (Below.refl _ _).alloc (Nat.le_refl _) _
              have XA : Box (w4.alloc (.cells #[.string (p2.2 0).name, .bool (p2.2 0).lost, .slice o9 (p2.2 0).bytes.1 c9] 29)) w4.heap.size ([.string (p2.2 0).name, .bool (p2.2 0).lost, .slice o9 (p2.2 0).bytes.1 c9] : List Value).toArray 29 := box_new _ _ _
              have VA := (S.raw (m := 3) rfl).below bA (Nat.zero_le _)
              obtain ⟨v', w', hrun, V', hgr, hb', hblk⟩ := run_appendW el_Raw3 rdOne_raw3 24 VA 1 (src_one (b := w4.heap.size) (hi := 0) (y := ([.string (p2.2 0).name, .bool (p2.2 0).lost, .slice o9 (p2.2 0).bytes.1 c9] : List Value)) (cs := [.string (p2.2 0).name, .bool (p2.2 0).lost, .slice o9 (p2.2 0).bytes.1 c9]) (fun j hj => by rw [XA.cell j]; simp) ⟨rfl, rfl, fun u hu => by
                simp only [List.mem_cons, List.not_mem_nil, or_false] at hu
                rcases hu with rfl | rfl | rfl <;> rfl⟩) (Nat.zero_le _) (Nat.le_refl _) (by omega) (fun h => by cases h)
              obtain ⟨ao5, c5, rfl⟩ := V'.form
              have hz4' := HC4.out.size
              have hown : ∀ w2, Chg bs (bs + 1) w' w2 → ∀ i, i < p2.1 → layThing.rd w2 w2.heap.size (p2.2 i) (ce i) := fun w2 hc i hi => by
                have h1 := S.each i hi
                refine layThing.own_rd (layThing.own_kept h1 (fun b hb => ?_)) (fun b hb => ?_)
                · have hlt := layThing.own_lt h1 b hb
                  have hlo := (k3 b (List.mem_cons_of_mem _ (mem_catN.2 ⟨i, hi, hb⟩))).1
                  have hlt' : b < w'.heap.size := Nat.lt_of_lt_of_le hlt (Nat.le_trans bA.size hgr.size)
                  rw [hc.block b hlt' (.inr (by omega)), hgr.block b (Nat.lt_of_lt_of_le hlt bA.size) (fun h => by
                    have e : b = g := by simpa [Value.ownBlock] using h
                    exact (List.nodup_cons.1 k2).1 (mem_catN.2 ⟨i, hi, by rw [← e]; exact hb⟩)), bA.block b hlt]
                · exact Nat.lt_of_lt_of_le (layThing.own_lt h1 b hb) (Nat.le_trans (Nat.le_trans bA.size hgr.size) hc.size)
              have VT : ∀ w2, Chg bs (bs + 1) w' w2 → View layThing 29 w2 0 w2.heap.size (.slice ao5 (p2.1 + 1) c5) (p2.1 + 1) (cat2 p2.2 p2.1 (fun _ => p2.2 0)) (cat2 ce p2.1 (fun _ => [.string (p2.2 0).name, .bool (p2.2 0).lost, .slice o9 (p2.2 0).bytes.1 c9])) := fun w2 hc => ⟨(V'.kept (fun b hb => hc.block b (V'.row.lt b hb).2 (.inr (by
                  rcases hblk with h | h
                  · rw [h] at hb
                    have e : b = g := by simpa [Value.ownBlock] using hb.symm
                    rw [e]; have := hg.1; omega
                  · rw [h] at hb
                    have e : b = (w4.alloc (.cells #[.string (p2.2 0).name, .bool (p2.2 0).lost, .slice o9 (p2.2 0).bytes.1 c9] 29)).heap.size := by simpa using hb.symm
                    have := bA.size
                    omega))) (hc.bel (B := 0) (Nat.zero_le _) (Nat.zero_le _))).row, fun i hi => by
                by_cases ci : i < p2.1
                · rw [cat2_lt _ _ ci, cat2_lt _ _ ci]; exact hown w2 hc i ci
                · obtain rfl : i = p2.1 := by omega
                  have e1 := cat2_ge p2.2 p2.1 (fun _ => p2.2 0) 0
                  have e2 := cat2_ge ce p2.1 (fun _ => ([.string (p2.2 0).name, .bool (p2.2 0).lost, .slice o9 (p2.2 0).bytes.1 c9] : List Value)) 0
                  rw [Nat.add_zero] at e1 e2
                  rw [e1, e2, ← hcs]
                  exact hown w2 hc 0 (by omega)⟩
              have HR : Hid (∀ w2, Chg bs (bs + 1) w' w2 → (layThing.slice 29).rd w2 w2.heap.size (p2.1 + 1, cat2 p2.2 p2.1 (fun _ => p2.2 0)) [.slice ao5 (p2.1 + 1) c5]) := fun w2 hc => (VT w2 hc).rd (Nat.le_refl _)
              have hz9 : szSl szThingD (p2.1 + 1, cat2 p2.2 p2.1 (fun _ => p2.2 0)) ≤ 100 := by
                have e1 : sumN (fun i => szThingD (cat2 p2.2 p2.1 (fun _ => p2.2 0) i)) (p2.1 + 1) = sumN (fun i => szThingD (p2.2 i)) p2.1 + szThingD (p2.2 0) := by
                  have e3 : ∀ m, m ≤ p2.1 → sumN (fun i => szThingD (cat2 p2.2 p2.1 (fun _ => p2.2 0) i)) m = sumN (fun i => szThingD (p2.2 i)) m := fun m => by
                    induction m with
                    | zero => intro _; rfl
                    | succ m ih => intro hm; rw [sumN_succ, sumN_succ, ih (by omega), cat2_lt _ _ (by omega)]
                  have e4 := cat2_ge p2.2 p2.1 (fun _ => p2.2 0) 0
                  rw [Nat.add_zero] at e4
                  rw [sumN_succ, e3 _ (Nat.le_refl _), e4]
                have e2 := szSl_at hsz3 (i := 0) (by omega)
                have e5 := hsz3
                unfold szSl at e5 ⊢
                simp only at e1 ⊢
                omega
              have HZ : Hid (szSl szThingD (p2.1 + 1, cat2 p2.2 p2.1 (fun _ => p2.2 0)) ≤ 100) := hz9
              have b9 : Below w.heap.size w4 w' := by
                have hz4 := HC4.out.size
                refine (bA.mono hz4).trans ((Below.refl _ _).grown hgr (Nat.le_trans hz4 bA.size) (fun k hk => ?_))
                have e : k = g := by simpa [Value.ownBlock] using hk.symm
                rw [e]; exact hg.1
              have HS9 : Hid (SrcD w' bs t4 v n f) := HS4.out.bel b9 hbs
              have HC9 : Hid (Chg bs (bs + 1) w w') := HC4.out.also b9
              clear k1 k2 k3 S VA V' hgr hb' hblk hown VT hz9 b9 XA bA hcs hg h0
              go_wp2_with (at_builtin; refine wp_run2 rfl (.tmp 37) (.tmp 41) rfl ?_ ?_ hrun ?_; (simp [Act.eval]); (simp [Act.eval]))
              go_ret
              exact ⟨_, _, t4, rfl, HR.out, HZ.out, HS9.out, by omega, HC9.out⟩
/-- what DrawPutThing hands back -/
def DrwP (w : World) (e : Ending) (w' : World) : Prop := ∃ (vl : Value) (p : Nat × (Nat → ThingD)) (bn : ByteArray) (vb : Value) (N : Nat) (g : Nat → Nat), e = .returned (.tuple #[vl, .string bn, vb]) ∧ (layThing.slice 29).rd w' w'.heap.size p [vl] ∧ szSl szThingD p ≤ 100 ∧ bn.size ≤ 3 ∧ N ≤ 3 ∧ layBytes.rd w' w'.heap.size (N, g) [vb] ∧ Below w.heap.size w w'
set_option maxHeartbeats 8000000 in
set_option maxRecDepth 20000 in
theorem drawPut_any (v : Value) (n : Nat) (f : Nat → Nat) (w : World) (h : Rd w w.heap.size v n f) (kf : ∀ i, f i < 256) (hn : n ≤ 1048576) : Calls Try.prog 5 #[v] w (DrwP w) := by
  have CS := l1Source_any v n f w h kf hn
  obtain ⟨ao, cap, rfl, -⟩ := h
  go_enter Try.func5, Try.ntmps5
  go_wp2_with fail
  refine CS.mono ?_
  rintro e w1 ⟨rfl, s1, b1⟩
  have hbs := s1.1.lt
  have HB1 : Hid (Below w.heap.size w w1) := b1
  go_wp2_with fail
  refine (l13Things_any w.heap.size 0 _ n f (by omega) w1 s1).mono ?_
  rintro e w2 ⟨v2, p, t2, rfl, R2, hsz, s2, ht2, c2⟩
  have z2 := c2.size
  have HR2 : Hid (∀ w3, Chg w.heap.size (w.heap.size + 1) w2 w3 → (layThing.slice 29).rd w3 w3.heap.size p [v2]) := R2
  obtain ⟨a2, k2, hv2⟩ := sl_form (R2 w2 ⟨rfl, rfl, rfl, Nat.le_refl _, fun _ _ _ => rfl⟩)
  obtain rfl := one_eq hv2
  clear R2 hv2
  go_wp2_with fail
  refine (l4Name_any w.heap.size t2 _ n f (by omega) w2 s2).mono ?_
  rintro e w3 ⟨bn, rfl, hbn, s3, c3⟩
  have z3 := c3.size
  go_wp2_with fail
  refine (l1Next_any w.heap.size (t2 + 1) _ n f 4 (by omega) (by omega) (by omega) w3 s3).mono ?_
  rintro e w4 ⟨r4, hr4, rfl, s4, c4⟩
  have z4 := c4.size
  go_wp2_with fail
  refine (l1Some_any w.heap.size (t2 + 1 + 1) _ n f r4 (by omega) (by omega) w4 s4).mono ?_
  rintro e w5 ⟨v5, g5, rfl, o5, k5, s5, c5⟩
  have z5 := c5.size
  obtain ⟨ao5, cap5, rfl⟩ := o5.slice
  have HR : Hid ((layThing.slice 29).rd w5 w5.heap.size p [.slice a2 p.1 k2]) := HR2.out w5 ((c3.trans c4).trans c5)
  have HO : Hid (layBytes.rd w5 w5.heap.size (r4, g5) [.slice ao5 r4 cap5]) := (ownB_T o5 (Nat.le_refl _) k5).rd
  have HB5 : Hid (Below w.heap.size w w5) := HB1.out.trans ((((c2.trans c3).trans c4).trans c5).bel (Nat.le_refl _) HB1.out.size)
  clear s1 s2 s3 s4 s5 c2 c3 c4 c5 o5 k5 CS b1 HR2
  go_wp2
  refine bodyPost_ret (v := .tuple #[.slice a2 p.1 k2, .string bn, .slice ao5 r4 cap5]) (by simp [results, Try.results5, go_sem]) rfl ?_
  exact ⟨_, p, bn, _, r4, g5, rfl, HR.out, hsz, hbn, by omega, HO.out, HB5.out⟩
end Go.Proofs.Ytopaofcpjiicmaa

namespace Go.Proofs.Ytopaofcpjiicmaa
open Go.RowKit F256
set_option linter.unusedVariables false
set_option linter.unusedSimpArgs false
theorem kept_but (i : Nat) (p : Nat → Bool) (hp : ∀ k, p k = !(k == i)) : ∀ k, (keptI p (i + 1 + k)).length = i + k ∧ ∀ m, m < i + k → selF p (i + 1 + k) m = if m < i then m else m + 1
  | 0 => by
    have ha : ∀ t, t < i → p t = true := fun t ht => by rw [hp]; simp; omega
    have hi : p i = false := by rw [hp]; simp
    have e : keptI p (i + 1) = keptI p i := kept_skip hi
    refine ⟨by rw [Nat.add_zero, e, kept_all ha]; simp, fun m hm => ?_⟩
    have h1 : selF p (i + 1) m = selF p i m := by unfold selF; rw [e]
    rw [Nat.add_zero, h1, sel_all ha (by omega), if_pos (by omega)]
  | k + 1 => by
    obtain ⟨h1, h2⟩ := kept_but i p hp k
    have hk : p (i + 1 + k) = true := by rw [hp]; simp; omega
    have e : i + 1 + (k + 1) = (i + 1 + k) + 1 := by omega
    rw [e]
    refine ⟨by rw [kept_succ, if_pos hk, List.length_append, h1]; simp; omega, fun m hm => ?_⟩
    by_cases c : m < i + k
    · rw [selF_more (by rw [h1]; exact c), h2 m c]
    · obtain rfl : m = i + k := by omega
      have := selF_last (p := p) (n := i + 1 + k) hk
      rw [h1] at this
      rw [this, if_neg (by omega)]
      omega
theorem drop_name (p : Nat × (Nat → ThingD)) (bn : ByteArray) {m : Nat} (hm : m < (dropL p bn).1) : keepT bn ((dropL p bn).2 m) = true := by
  have := selF_mem (p := fun i => keepT bn (p.2 i)) (n := p.1) (m := m) hm
  unfold keptI at this
  exact (List.mem_filter.1 this).2
/-- what is put and dropped again is what it was -/
theorem put_drop (d : Nat × (Nat → ThingD)) (bn : ByteArray) (q : Nat × (Nat → Nat)) {i : Nat} (hi : i ≤ d.1) (hd : ∀ m, m < d.1 → keepT bn (d.2 m) = true) :
    (dropL (putD d bn q i) bn).1 = d.1 ∧ ∀ m, m < d.1 → (dropL (putD d bn q i) bn).2 m = d.2 m := by
  have hself : keepT bn ⟨bn, false, q⟩ = false := by unfold keepT; simp
  have hp : ∀ k, k < d.1 + 1 → keepT bn (insF d.2 i ⟨bn, false, q⟩ k) = !(k == i) := fun k hk => by
    by_cases c1 : k < i
    · rw [insF_lt _ _ c1, hd k (by omega)]; simp; omega
    · by_cases c2 : k = i
      · rw [c2, insF_at, hself]; simp
      · obtain ⟨j, rfl⟩ : ∃ j, k = i + 1 + j := ⟨k - (i + 1), by omega⟩
        rw [insF_gt, hd _ (by omega)]; simp; omega
  have key := kept_but i (fun k => !(k == i)) (fun _ => rfl) (d.1 - i)
  rw [show i + 1 + (d.1 - i) = d.1 + 1 by omega, show i + (d.1 - i) = d.1 by omega] at key
  have ek : keptI (fun k => keepT bn (insF d.2 i ⟨bn, false, q⟩ k)) (d.1 + 1) = keptI (fun k => !(k == i)) (d.1 + 1) := by
    unfold keptI
    exact List.filter_congr (fun k hk => hp k (List.mem_range.1 hk))
  have es : ∀ m, selF (fun k => keepT bn (insF d.2 i ⟨bn, false, q⟩ k)) (d.1 + 1) m = selF (fun k => !(k == i)) (d.1 + 1) m := fun m => by unfold selF; rw [ek]
  refine ⟨?_, fun m hm => ?_⟩
  · show (keptI (fun k => keepT bn (insF d.2 i ⟨bn, false, q⟩ k)) (d.1 + 1)).length = d.1
    rw [ek, key.1]
  · show insF d.2 i ⟨bn, false, q⟩ (selF (fun k => keepT bn (insF d.2 i ⟨bn, false, q⟩ k)) (d.1 + 1) m) = d.2 m
    rw [es, key.2 m hm]
    by_cases c : m < i
    · rw [if_pos c, insF_lt _ _ c]
    · rw [if_neg c]
      obtain ⟨j, rfl⟩ : ∃ j, m = i + j := ⟨m - i, by omega⟩
      rw [show i + j + 1 = i + 1 + j by omega, insF_gt]
theorem sameT_refl (a : ThingD) : SameT a a := ⟨rfl, rfl, rfl, fun _ _ => rfl⟩
set_option maxHeartbeats 400000 in
theorem lwBytes_same (v1 v2 : Value) (n : Nat) (f : Nat → Nat) (h1 h2 : Nat) (w : World) (r1 : Rd w h1 v1 n f) (r2 : Rd w h2 v2 n f) :
    Calls Try.prog 7 #[v1, v2] w fun e w' => e = .returned (.bool true) ∧ Below w.heap.size w w' := by
  obtain ⟨ao, cap, rfl, hm, hc⟩ := r1
  obtain ⟨ao2, cap2, rfl, _, hc2⟩ := r2
  unfold maxLen at hm
  go_enter Try.func7, Try.ntmps7
  go_wp2
  go_loopw [5] (fun i wr => ∃ k : Nat, k ≤ n ∧ i = .int .i64 k ∧ ∃ m, wr = w.drewN m) (fun i _ => n - (intOf i).toNat)
  case atStart => exact ⟨0, Nat.zero_le _, rfl, 0, rfl⟩
  case round =>
    obtain ⟨k, hk, rfl, m, rfl⟩ := hrel
    by_cases hlt : k < n
    · obtain ⟨b, off, rfl, hblt, hcell⟩ := hc (by omega)
      obtain ⟨b2, off2, rfl, hblt2, hcell2⟩ := hc2 (by omega)
      have hck : w.cell? ⟨b, off + k, none⟩ = some (.int .u8 (f k)) := hcell k hlt
      have hck2 : w.cell? ⟨b2, off2 + k, none⟩ = some (.int .u8 (f k)) := hcell2 k hlt
      clear hc hc2 hcell hcell2
      go_wp2
      go_quiet (fail)
      go_wp2
      go_roundw
      case rel => exact ⟨k + 1, by omega, by go_num, _, rfl⟩
      case measure => simp [intOf]; omega
    · have hkn : k = n := by omega
      subst hkn
      go_wp2
      go_ret
      exact ⟨rfl, below_drewN (Below.refl _ _) _⟩
end Go.Proofs.Ytopaofcpjiicmaa

namespace Go.Proofs.Ytopaofcpjiicmaa
open Go.RowKit F256
set_option linter.unusedVariables false
set_option linter.unusedSimpArgs false
set_option maxHeartbeats 8000000 in
set_option maxRecDepth 20000 in
theorem fnThings_core (v : Value) (n0 : Nat) (f0 : Nat → Nat) (k0 : ∀ i, f0 i < 256) (w : World) (r0 : Rd w w.heap.size v n0 f0) :
    Calls Try.prog 3 #[v] w fun e w' => e = .returned (.bool true) ∧ Below w.heap.size w w' := by
  by_cases hbig : 1048576 < n0
  · go_enter Try.func3, Try.ntmps3
    go_wp2_with fail
    refine (lwBig_yes _ n0 f0 _ _ r0 hbig).mono ?_
    rintro e w1 ⟨rfl, hw1⟩
    obtain rfl := hw1.symm
    go_wp2
    go_ret
    exact ⟨rfl, Below.refl _ _⟩
  go_enter Try.func3, Try.ntmps3
  go_wp2_with fail
  refine (lwBig_no _ n0 f0 _ _ r0 (by omega)).mono ?_
  rintro e w1 ⟨rfl, hw1⟩
  obtain rfl := hw1.symm
  go_wp2_with fail
  refine (drawPut_any _ n0 f0 _ r0 k0 (by omega)).mono ?_
  rintro e w1 ⟨vl, p, bn, vb, N, g0, rfl, R1, hsz, hbn, hN, R2, b1⟩
  obtain ⟨al, cl, hv1⟩ := sl_form R1
  obtain rfl := one_eq hv1
  obtain ⟨ab, cb, hv2⟩ := bytes_form R2
  obtain rfl := one_eq hv2
  have HR1 : Hid ((layThing.slice 29).rd w1 w1.heap.size p [.slice al p.1 cl]) := R1
  have HR2 : Hid (layBytes.rd w1 w1.heap.size (N, g0) [.slice ab N cb]) := R2
  have HB1 : Hid (Below w.heap.size w w1) := b1
  have z1 := b1.size
  obtain ⟨at_, hA⟩ := at_ex (dropL p bn).1 (dropL p bn).2 bn
  have CP := implPut_any p bn (N, g0) at_ _ _ _ _ w1 R1 R2 (Nat.le_refl _) (Nat.le_refl _) (by omega) (by omega) (show N ≤ 1048576 by omega) hA
  have HNM : Hid (∀ m, m < (dropL p bn).1 → keepT bn ((dropL p bn).2 m) = true) := fun m hm => drop_name p bn hm
  have hpz := put_le (p := p) (bn := bn) (q := (N, g0)) hA.le
  have hdz := drop_le p bn
  have CDl := fun w' (hb : Below w1.heap.size w1 w') => implDrop_any p bn _ _ w' ((layThing.slice 29).rd_below HR1.out hb (Nat.le_refl _)) hb.size (by omega)
  unfold putL at CP hpz
  obtain ⟨d, hd⟩ : ∃ d, d = dropL p bn := ⟨_, rfl⟩
  rw [← hd] at CP HNM hA hpz hdz CDl
  have hat := hA.le
  have hd1 := szSl_n (Nat.le_trans hdz hsz)
  have hpz' : szSl szThingD (putD d bn (N, g0) at_) ≤ 1048576 := by
    simp only at hpz
    omega
  have HCD : Hid (∀ w', Below w1.heap.size w1 w' → Calls Try.prog 8 #[.slice al p.1 cl, .string bn] w' fun e w'' => ∃ v', e = .returned v' ∧ OwnT (layThing.slice 29) w'' w'.heap.size w''.heap.size d [v'] ∧ Below w'.heap.size w' w'') := CDl
  clear R1 R2 b1 hv1 hv2 hd hA hpz hdz CDl r0
  go_wp2_with fail
  refine CP.mono ?_
  rintro e w2 ⟨v2, rfl, o2, b2⟩
  obtain ⟨a2, c2, hv⟩ := sl_formT o2
  have hv' : v2 = .slice a2 (d.1 + 1) c2 := one_eq hv
  subst hv'
  have HO2 : Hid (OwnT (layThing.slice 29) w2 w1.heap.size w2.heap.size (putD d bn (N, g0) at_) [.slice a2 (d.1 + 1) c2]) := o2
  have HB2 : Hid (Below w1.heap.size w1 w2) := b2
  have z2 := b2.size
  have HEL : Hid (∃ g, a2 = some ⟨g, 0, none⟩ ∧ g < w2.heap.size ∧ ∀ i, i < d.1 + 1 → ∃ o c, w2.cell? ⟨g, i * 3, none⟩ = some (.string (insF d.2 at_ ⟨bn, false, (N, g0)⟩ i).name) ∧ w2.cell? ⟨g, i * 3 + 1, none⟩ = some (.bool (insF d.2 at_ ⟨bn, false, (N, g0)⟩ i).lost) ∧ w2.cell? ⟨g, i * 3 + 2, none⟩ = some (.slice o (insF d.2 at_ ⟨bn, false, (N, g0)⟩ i).bytes.1 c) ∧ layBytes.rd w2 w2.heap.size (insF d.2 at_ ⟨bn, false, (N, g0)⟩ i).bytes [.slice o (insF d.2 at_ ⟨bn, false, (N, g0)⟩ i).bytes.1 c]) := by
    obtain ⟨L, k1, k2, k3⟩ := o2
    obtain ⟨g, cap', ce, Ls, e9, eK, S⟩ := slice_form k1 (show d.1 + 1 ≠ 0 by omega)
    simp only [List.cons.injEq, Value.slice.injEq, and_true] at e9
    refine ⟨g, e9.1, S.lt, fun i hi => ?_⟩
    have h1 := S.each i hi
    obtain ⟨o9, c9, K9, hcs, hL, ob9, kn9⟩ := Thing_own h1
    refine ⟨o9, c9, ?_, ?_, ?_, layBytes.own_rd ob9 (layBytes.own_lt ob9)⟩
    · have := S.cell (i := i) (j := 0) hi (by decide); rw [hcs] at this; exact this
    · have := S.cell (i := i) (j := 1) hi (by decide); rw [hcs] at this; exact this
    · have := S.cell (i := i) (j := 2) hi (by decide); rw [hcs] at this; exact this
  have CD2 := implDrop_any (putD d bn (N, g0) at_) bn _ _ w2 o2.rd (Nat.le_refl _) hpz'
  clear CP o2 b2 hv
  obtain ⟨g, rfl, hgl, hel⟩ := HEL.out
  have HEL2 : Hid (∀ i, i < d.1 + 1 → ∃ o c, w2.cell? ⟨g, i * 3, none⟩ = some (.string (insF d.2 at_ ⟨bn, false, (N, g0)⟩ i).name) ∧ w2.cell? ⟨g, i * 3 + 1, none⟩ = some (.bool (insF d.2 at_ ⟨bn, false, (N, g0)⟩ i).lost) ∧ w2.cell? ⟨g, i * 3 + 2, none⟩ = some (.slice o (insF d.2 at_ ⟨bn, false, (N, g0)⟩ i).bytes.1 c) ∧ layBytes.rd w2 w2.heap.size (insF d.2 at_ ⟨bn, false, (N, g0)⟩ i).bytes [.slice o (insF d.2 at_ ⟨bn, false, (N, g0)⟩ i).bytes.1 c]) := hel
  clear hel HEL
  go_wp2
  go_loopw [7, 8] (fun vn vi wr => ∃ k : Nat, k ≤ d.1 + 1 ∧ vi = .int .i64 k ∧ vn = .int .i64 (if at_ < k then 1 else 0) ∧ Below w2.heap.size w2 wr) (fun _ vi _ => d.1 + 1 - (intOf vi).toNat)
  case atStart => exact ⟨0, Nat.zero_le _, rfl, by rw [if_neg (by omega)], Below.refl _ _⟩
  case round =>
    obtain ⟨k, hk, rfl, rfl, hb⟩ := hrel
    obtain ⟨wx, rfl⟩ : ∃ y, y = wr := ⟨_, rfl⟩
    have HBX : Hid (Below w2.heap.size w2 wx) := hb
    have zx := hb.size
    by_cases hlt : k < d.1 + 1
    · obtain ⟨o9, c9, e0, e1, e2, rb⟩ := HEL2.out k hlt
      have x0 : wx.cell? ⟨g, k * 3, none⟩ = _ := (hb.cell (p := ⟨g, k * 3, none⟩) hgl).trans e0
      have x1 : wx.cell? ⟨g, k * 3 + 1, none⟩ = _ := (hb.cell (p := ⟨g, k * 3 + 1, none⟩) hgl).trans e1
      have x2 : wx.cell? ⟨g, k * 3 + 2, none⟩ = _ := (hb.cell (p := ⟨g, k * 3 + 2, none⟩) hgl).trans e2
      have RB := layBytes.rd_below rb hb (Nat.le_refl _)
      have i1 : (0 : Int) ≤ (k : Int) := by omega
      have i2 : (k : Int) < (d.1 : Int) + 1 := by omega
      clear e0 e1 e2 rb hb
      by_cases ck : k = at_
      · subst ck
        rw [insF_at] at x0 x1 x2 RB
        have RV := layBytes.rd_below HR2.out (HB2.out.trans (HBX.out.mono z2)) (Nat.le_refl _)
        obtain ⟨_, e8, r8, _⟩ := RB
        cases e8
        obtain ⟨_, e7, r7, _⟩ := RV
        cases e7
        have CW := lwBytes_same _ _ N g0 _ _ wx r8 r7
        have hn0 : (if k < k then (1 : Int) else 0) = 0 := if_neg (by omega)
        have hn1 : Hid ((if k < k + 1 then (1 : Int) else 0) = 1) := if_pos (by omega)
        rw [hn0]
        clear r8 r7
        have hself : (bn.toList == bn.toList) = true := by simp
        go_wp2_with fail
        refine CW.mono ?_
        rintro e w3 ⟨rfl, b3⟩
        have HB3 : Hid (Below w2.heap.size w2 w3) := HBX.out.trans (b3.mono zx)
        clear CW b3 x0 x1 x2
        go_wp2
        go_roundw
        case rel => exact ⟨k + 1, by omega, by go_num, by rw [hn1.out], HB3.out⟩
        case measure => simp [intOf]; omega
      · have hne : (insF d.2 at_ ⟨bn, false, (N, g0)⟩ k).name.toList = bn.toList → False := fun he => by
          have hkp : keepT bn (insF d.2 at_ ⟨bn, false, (N, g0)⟩ k) = true := by
            by_cases c1 : k < at_
            · rw [insF_lt _ _ c1]; exact HNM.out k (by omega)
            · obtain ⟨j, rfl⟩ : ∃ j, k = at_ + 1 + j := ⟨k - (at_ + 1), by omega⟩
              rw [insF_gt]; exact HNM.out _ (by omega)
          unfold keepT at hkp
          rw [he] at hkp
          simp at hkp
        obtain ⟨nm, hnm⟩ : ∃ z, z = (insF d.2 at_ ⟨bn, false, (N, g0)⟩ k).name := ⟨_, rfl⟩
        rw [← hnm] at x0 hne
        have hq1 : (nm.toList == bn.toList) = false := by simp; exact hne
        have hq2 : decide (nm.toList = bn.toList) = false := decide_eq_false hne
        have HI : Hid ((if at_ < k + 1 then (1 : Int) else 0) = (if at_ < k then (1 : Int) else 0)) := by
          show _ = _
          by_cases c1 : at_ < k
          · rw [if_pos (by omega), if_pos c1]
          · rw [if_neg (by omega), if_neg c1]
        obtain ⟨cn, hcn⟩ : ∃ z, z = (if at_ < k then (1 : Int) else 0) := ⟨_, rfl⟩
        rw [← hcn]
        have HCN : Hid (cn = (if at_ < k then (1 : Int) else 0)) := hcn
        clear x1 x2 RB hne hnm hcn ck
        go_wp2
        go_roundw
        case rel => exact ⟨k + 1, by omega, by go_num, by rw [HI.out, HCN.out], HBX.out⟩
        case measure => simp [intOf]; omega
    · obtain rfl : k = d.1 + 1 := by omega
      have hn1 : (if at_ < d.1 + 1 then (1 : Int) else 0) = 1 := if_pos (by omega)
      rw [hn1]
      have CD3 := implDrop_any (putD d bn (N, g0) at_) bn (.slice (some ⟨g, 0, none⟩) (d.1 + 1) c2) _ wx ((layThing.slice 29).rd_below HO2.out.rd HBX.out (Nat.le_refl _)) zx hpz'
      have PD := put_drop d bn (N, g0) hat HNM.out
      obtain ⟨⟨m3, y3⟩, hD3⟩ : ∃ x, x = dropL (putD d bn (N, g0) at_) bn := ⟨_, rfl⟩
      rw [← hD3] at CD3 PD
      simp only at PD
      obtain ⟨hm3, hy3⟩ := PD
      subst hm3
      have HY3 : Hid (SameTs (d.1, y3) d) := ⟨rfl, fun i hi => by rw [show (d.1, y3).2 i = d.2 i from hy3 i hi]; exact sameT_refl _⟩
      have HPP : Hid (SameTs (putD d bn (N, g0) at_) (putD d bn (N, g0) at_)) := ⟨rfl, fun i _ => sameT_refl _⟩
      have hw : IntKind.i64.wrap ((d.1 : Int) + 1 - 1) = (d.1 : Int) := by rw [IntKind.wrap_i64]; omega
      have hw2 : (d.1 : Int) + 1 - 1 = (d.1 : Int) := by omega
      clear CD2 hb hlt hk hn1 hD3 hy3
      go_wp2_with fail
      refine CD3.mono ?_
      rintro e w3 ⟨v3, rfl, o3, b3⟩
      obtain ⟨a3, c3, hv3⟩ := sl_formT o3
      have hv3' : v3 = .slice a3 d.1 c3 := one_eq hv3
      subst hv3'
      have z3 := b3.size
      have HO3 : Hid (OwnT (layThing.slice 29) w3 wx.heap.size w3.heap.size (d.1, y3) [.slice a3 d.1 c3]) := o3
      have HB13 : Hid (Below w1.heap.size w1 w3) := (HB2.out.trans (HBX.out.mono z2)).trans (b3.mono (by omega))
      have HB23 : Hid (Below w2.heap.size w2 w3) := HBX.out.trans (b3.mono zx)
      clear CD3 o3 b3 hv3
      go_wp2_with fail
      refine (HCD.out w3 HB13.out).mono ?_
      rintro e w4 ⟨v4, rfl, o4, b4⟩
      obtain ⟨a4, c4, hv4⟩ := sl_formT o4
      obtain rfl := one_eq hv4
      have z4 := b4.size
      have CS1 := det_b (b := true) (implSameTs_any (d.1, y3) d _ _ _ _ w4 (HO3.out.call b4).rd o4.rd (by omega) (Nat.le_refl _)) ⟨fun _ => HY3.out, fun _ => rfl⟩
      have HB24 : Hid (Below w2.heap.size w2 w4) := HB23.out.trans (b4.mono (by omega))
      clear o4 b4 hv4
      go_wp2_with fail
      refine CS1.mono ?_
      rintro e w5 ⟨rfl, b5⟩
      have z5 := b5.size
      have HB25 : Hid (Below w2.heap.size w2 w5) := HB24.out.trans (b5.mono (by omega))
      have RP := (layThing.slice 29).rd_below HO2.out.rd HB25.out (Nat.le_refl _)
      have CS2 := det_b (b := true) (implSameTs_any (putD d bn (N, g0) at_) (putD d bn (N, g0) at_) (.slice (some ⟨g, 0, none⟩) (d.1 + 1) c2) (.slice (some ⟨g, 0, none⟩) (d.1 + 1) c2) _ _ w5 RP RP (by omega) (by omega)) ⟨fun _ => HPP.out, fun _ => rfl⟩
      clear CS1 b5 RP
      go_wp2_with fail
      refine CS2.mono ?_
      rintro e w6 ⟨rfl, b6⟩
      have HF : Hid (Below w.heap.size w w6) := HB1.out.trans ((HB2.out.mono z1).trans ((HB25.out.trans (b6.mono (by omega))).mono (by omega)))
      clear b6 CS2
      go_wp2
      go_ret
      exact ⟨rfl, HF.out⟩
end Go.Proofs.Ytopaofcpjiicmaa

namespace Go.Proofs.Ytopaofcpjiicmaa
open Go.ChangeShapes Go.WideShapes Go.ChangeAt Go.RowKit F256
set_option linter.unusedVariables false

theorem fnThings_walk (a0 : Option Addr) (n0 c0 : Nat) (z0 : List Int) (w : World) (q0 : IsRow w a0 n0 c0 z0) :
    Calls Try.prog 3 #[.slice a0 n0 c0] w fun e w' => e = .returned (.bool true) ∧ Below w.heap.size w w' := by
  obtain ⟨f0, k0, r0⟩ := q0.rd
  exact fnThings_core _ n0 f0 k0 w r0

set_option maxRecDepth 100000 in
theorem fnThings_lifted (os : Os) (started : os.Started) (H : Type) (enc : TypeId × Value → H) :
    ReturnsInHanded {} Try.checked os 3 .any (Rows.fnThingsSpec.pre6 enc Try.prog Try.f3 Rows.fnThingsRow.domain false) (Rows.fnThingsSpec.post enc Try.prog Try.f3 false true false false) := by
  refine returnsInHanded_of_change (C := Try.checked) frame_own started (by kernel_rfl) Try.func3
    (ChangeSpec.witness6 (enc := enc) (C := Try.checked) false ⟨#[], #[.slice none 0 0], []⟩ 8 (by kernel_rfl) (by kernel_rfl) (by kernel_rfl) (by kernel_rfl)) ?_
  intro W base args ds gs before hval0 hW hcnd _
  have hval : ∀ (j : Nat) t v, Try.f3.params[j]? = some t → args[j]? = some v → Value.okWide Try.prog W .any base t v := hval0
  have hW' := hW
  obtain ⟨p, q, hA0, hV, rfl, hfz, hnd⟩ := hW
  have hA : DataW.TrodAll enc Try.prog W 0 (fun _ => true) true Try.f3.params.toList args.toList ds p := hA0
  rw [Try.params3] at hA hval
  obtain ⟨v0, vs0, d0, ds0, p0, q0, hargs, rfl, rfl, h0, r0⟩ := trodAll_cons hA
  obtain ⟨rfl, rfl, rfl⟩ := trodAll_nil r0
  obtain rfl : args = #[v0] := by cases args; simp_all
  obtain ⟨rfl, rfl⟩ := trodVars_none hV
  obtain ⟨a0, len0, cap0, rfl⟩ := okWide_slice Try.underlying22 (hval 0 22 v0 rfl rfl)
  have k0 := h0
  have lt0 : ∀ x ∈ p0, x.block < W.heap.size := by obtain ⟨m, hm⟩ := k0; exact DataW.trod_lt m _ _ _ hm
  obtain ⟨z0, w0⟩ : ∃ zs, IsRow W a0 len0 cap0 zs := row_of_trod Try.underlying22 Try.underlying5 (by kernel_rfl) h0
  clear hA0 hval0
  refine (fnThings_walk a0 len0 cap0 z0 W w0).mono fun e W' ⟨he, bel⟩ => ?_
  subst he
  exact ⟨_, rfl, _, _, _, [], _, [], hW', trodAll_mk1 (shut_bool Try.underlying4 _), (trodAll_cons_mk (Below.trod frame_laid (by kernel_rfl) (of_decide_eq_true (by kernel_rfl)) k0 bel lt0) trodAll_mk0), rfl, bel.frame _, fun h => by cases h⟩

theorem fnThings_proved : Rows.FnThingsSaid :=
  OpenClaim.holds_of_wide 3 Try.f3 rfl rfl rfl rfl rfl rfl rfl ⟨rfl, rfl, rfl, rfl, rfl⟩ rfl rfl rfl rfl rfl (by kernel_rfl) Try.func3 (by kernel_rfl)
    (of_decide_eq_true (by kernel_rfl)) (by unfold Func.isWrapper; first | (rw [if_pos (by decide +kernel)]; kernel_rfl) | (rw [if_neg (by decide +kernel)]; exact ⟨rfl, rfl⟩))
    (fun os started H enc _ => fnThings_lifted os started H enc)
#print axioms fnThings_proved
end Go.Proofs.Ytopaofcpjiicmaa
