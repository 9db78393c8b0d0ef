/- Walk of the specification's l5Strike. -/
import Derived.Test.YthdknhjaohhfiaaGreatZPstrikao
import Derived.Deep.DeepCutAuto
namespace Go.Proofs.YthdknhjaohhfiaaGreat
open Go.RowKit F256
set_option linter.unusedVariables false
set_option linter.unusedSimpArgs false
/-- append(v, r): v a row of the call's own, r's cells in a block of their own -/
theorem run_appendRow {E : Lay RecD} {T e : TypeId} {by_ : Nat} {zs : List Value} (I : ElInfo E T e by_ zs) (ty : TypeId) {w : World} {lo m : Nat} {v : Value} {xs cs : List Value} (hr : w.ownsRow lo e E.sz v m xs) (hcs : cs.length = E.sz) (h1 : ∀ u, u ∈ cs → u.oneCell' = true) (b c : Nat) (hcell : ∀ j, j < E.sz → w.cell? ⟨b, j, none⟩ = cs[j]?) (hn : m ≤ 10000000) (hlo : lo ≤ w.heap.size) :
    ∃ ao cap w', (Builtin.append_ #[T, T] ty #[v, .slice (some ⟨b, 0, none⟩) 1 c]).run Tryz.prog w = .ok (.slice ao (m + 1) cap) w' ∧ w'.ownsRow lo e E.sz (.slice ao (m + 1) cap) (m + 1) (xs ++ cs) ∧ Below lo w w' := by
  obtain ⟨hs, hzs, hu, hi, few⟩ := I
  obtain ⟨i0, hi0⟩ : ∃ i0, Tryz.prog.info? e = some i0 := by
    cases h : Tryz.prog.info? e with
    | none => rw [h] at hi; cases hi
    | some i0 => exact ⟨i0, rfl⟩
  rw [hi0] at hi
  simp only [Option.map_some, Option.some.injEq, Prod.mk.injEq] at hi
  obtain ⟨g1, g2, g3⟩ := hi
  obtain ⟨z, hz, hzc⟩ : ∃ z, i0.zero = some z ∧ z.cells = zs.toArray := by
    cases h : i0.zero with
    | none => rw [h] at g1; cases g1
    | some z => rw [h] at g1; exact ⟨z, rfl, by simpa using g1⟩
  obtain ⟨v', w', hrun, r1, r2, r3, r4⟩ := run_append_own_at (P := Tryz.prog) w lo T ty e i0 z E.sz by_ hu hi0 hz g2 g3 (by rw [hzc]; simpa using hzs) hs v m xs hr ⟨b, 0, none⟩ 1 c cs (by rw [hcs, Nat.one_mul])
    (fun j u hj => by
      have hlt : j < cs.length := (List.getElem?_eq_some_iff.1 hj).1
      have := hcell j (by omega)
      rw [hj] at this
      rw [add_o]
      exact this) h1 (by unfold maxLen; omega) (by
        have : (m + 1) * by_ ≤ 10000001 * 1000 := Nat.mul_le_mul (by omega) few
        omega) hlo
  have hf : ∃ ao cap, v' = .slice ao (m + 1) cap := by
    rcases r1.2 with ⟨rfl, h0⟩ | ⟨g, cap, cur, rfl, _⟩
    · omega
    · exact ⟨_, _, rfl⟩
  obtain ⟨ao, cap, rfl⟩ := hf
  exact ⟨ao, cap, w', hrun, r1, (Below.refl _ _).grown r2 hlo (fun k hk => (hr.lt k hk).1)⟩
set_option maxHeartbeats 16000000 in
set_option maxRecDepth 20000 in
theorem l5Strike_any (g cap n : Nat) (x : Nat → RecD) (ce : Nat → List Value) (Ls : Nat → List Nat) (kd sq : Int) (w : World) (hO : SlO layRec 43 w g cap n x ce Ls) (hn : n ≤ 1048576) :
    Calls Tryz.prog 108 #[.slice (some ⟨g, 0, none⟩) n cap, .int .i64 kd, .int .i64 sq] w fun e w' => ∃ ao c, e = .returned (.slice ao (keptI (fun i => keepB kd sq (x i)) n).length c) ∧ w'.ownsRow w.heap.size 43 layRec.sz (.slice ao (keptI (fun i => keepB kd sq (x i)) n).length c) (keptI (fun i => keepB kd sq (x i)) n).length (catN (keptI (fun i => keepB kd sq (x i)) n).length (fun i => ce (selF (fun i => keepB kd sq (x i)) n i))) ∧ Below w.heap.size w w' := by
  have h : Hid (SlO layRec 43 w g cap n x ce Ls) := hO
  have hg := hO.lt
  clear hO
  go_enter Tryz.func108, Tryz.ntmps108
  go_wp2
  go_loopw [7, 8] (fun v z wr => ∃ (k : Nat) (ao : Option Addr) (c : Nat), k ≤ n ∧ z = .int .i64 k ∧ v = .slice ao (keptI (fun i => keepB kd sq (x i)) k).length c ∧ wr.ownsRow w.heap.size 43 layRec.sz (.slice ao (keptI (fun i => keepB kd sq (x i)) k).length c) (keptI (fun i => keepB kd sq (x i)) k).length (catN (keptI (fun i => keepB kd sq (x i)) k).length (fun i => ce (selF (fun i => keepB kd sq (x i)) k i))) ∧ Below w.heap.size w wr) (fun _ z _ => n - (intOf z).toNat)
  case atStart =>
    refine ⟨0, some ⟨w.heap.size, 0, none⟩, 0, Nat.zero_le _, rfl, rfl, ?_, (Below.refl _ _).alloc (Nat.le_refl _) _⟩
    have h0 := World.ownsRow_lit (base := w.heap.size) (e := 43) (size := layRec.sz) w #[] 0 (Nat.le_refl _) (Nat.zero_le _) (by simp)
    simpa [keptI, catN_zero] using h0
  case round =>
    obtain ⟨k, ao, c, hk, rfl, rfl, hrw, hbl⟩ := hrel
    obtain ⟨wx, rfl⟩ : ∃ y, y = wr := ⟨_, rfl⟩
    have HRW : Hid (wx.ownsRow w.heap.size 43 layRec.sz (.slice ao (keptI (fun i => keepB kd sq (x i)) k).length c) (keptI (fun i => keepB kd sq (x i)) k).length (catN (keptI (fun i => keepB kd sq (x i)) k).length (fun i => ce (selF (fun i => keepB kd sq (x i)) k i)))) := hrw
    have HBL : Hid (Below w.heap.size w wx) := hbl
    have zx := hbl.size
    by_cases hlt : k < n
    · obtain ⟨ao6, cap6, ao7, cap7, ao8, cap8, K6, K7, K8, eR, -⟩ := Rec_own (h.out.each k hlt)
      have HCE : Hid (ce k = [.int .i64 (x k).kind, .int .i64 (x k).seq, .string (x k).name, .int .i64 (x k).length, .int .i64 (x k).group, .int .i64 (x k).row, .slice ao6 (x k).rows.1 cap6, .slice ao7 (x k).data.1 cap7, .slice ao8 (x k).delta.1 cap8]) := eR
      have S5 := h.out.kept (w' := wx) (fun b hb => hbl.block b (h.out.mem_lt b hb))
      have s_0 : wx.cell? ⟨g, k * 9, none⟩ = some (.int .i64 (x k).kind) := (S5.cell hlt (j := 0) (by decide)).trans (by rw [eR]; rfl)
      have s_1 : wx.cell? ⟨g, k * 9 + 1, none⟩ = some (.int .i64 (x k).seq) := (S5.cell hlt (j := 1) (by decide)).trans (by rw [eR]; rfl)
      have s_2 : wx.cell? ⟨g, k * 9 + 2, none⟩ = some (.string (x k).name) := (S5.cell hlt (j := 2) (by decide)).trans (by rw [eR]; rfl)
      have s_3 : wx.cell? ⟨g, k * 9 + 3, none⟩ = some (.int .i64 (x k).length) := (S5.cell hlt (j := 3) (by decide)).trans (by rw [eR]; rfl)
      have s_4 : wx.cell? ⟨g, k * 9 + 4, none⟩ = some (.int .i64 (x k).group) := (S5.cell hlt (j := 4) (by decide)).trans (by rw [eR]; rfl)
      have s_5 : wx.cell? ⟨g, k * 9 + 5, none⟩ = some (.int .i64 (x k).row) := (S5.cell hlt (j := 5) (by decide)).trans (by rw [eR]; rfl)
      have s_6 : wx.cell? ⟨g, k * 9 + 6, none⟩ = some (.slice ao6 (x k).rows.1 cap6) := (S5.cell hlt (j := 6) (by decide)).trans (by rw [eR]; rfl)
      have s_7 : wx.cell? ⟨g, k * 9 + 7, none⟩ = some (.slice ao7 (x k).data.1 cap7) := (S5.cell hlt (j := 7) (by decide)).trans (by rw [eR]; rfl)
      have s_8 : wx.cell? ⟨g, k * 9 + 8, none⟩ = some (.slice ao8 (x k).delta.1 cap8) := (S5.cell hlt (j := 8) (by decide)).trans (by rw [eR]; rfl)
      have i1 : (0 : Int) ≤ (k : Int) := by omega
      have i2 : (k : Int) < (n : Int) := by omega
      clear hrw hbl S5 eR
      by_cases hkd : (x k).kind = kd
      · by_cases hsq : (x k).seq = sq
        · have te1 : ((x k).kind != kd) = false := by simpa using hkd
          have te2 : ((x k).seq != sq) = false := by simpa using hsq
          have hpk : (fun i => keepB kd sq (x i)) k = false := by show keepB kd sq (x k) = false; unfold keepB; simp [hkd, hsq]
          have HSK : Hid (keptI (fun i => keepB kd sq (x i)) (k + 1) = keptI (fun i => keepB kd sq (x i)) k) := kept_skip hpk
          have HSE : Hid (∀ i, i < (keptI (fun i => keepB kd sq (x i)) k).length → selF (fun i => keepB kd sq (x i)) (k + 1) i = selF (fun i => keepB kd sq (x i)) k i) := fun i hi => selF_more hi
          clear hpk hkd hsq
          go_wp2
          go_roundw
          case rel =>
            refine ⟨k + 1, ao, c, by omega, by go_num, by rw [HSK.out], ?_, HBL.out⟩
            rw [HSK.out, catN_congr (g := fun i => ce (selF (fun i => keepB kd sq (x i)) k i)) (fun i hi => by rw [HSE.out i hi])]
            exact HRW.out
          case measure => simp [intOf]; omega
        · have te1 : ((x k).kind != kd) = false := by simpa using hkd
          have te2 : ((x k).seq != sq) = true := by simpa using hsq
          have HS : Hid ((x k).seq ≠ sq) := hsq
          have HK : Hid True := trivial
          clear hkd hsq
          skip
          have hpk : (fun i => keepB kd sq (x i)) k = true := by show keepB kd sq (x k) = true; unfold keepB; simp only [Bool.not_eq_true', Bool.and_eq_false_iff]; first | exact .inl (by simpa using HK.out) | exact .inr (by simpa using HS.out)
          have hnext : (keptI (fun i => keepB kd sq (x i)) (k + 1)).length = (keptI (fun i => keepB kd sq (x i)) k).length + 1 := by rw [kept_succ, if_pos hpk]; simp
          have hcat : catN (keptI (fun i => keepB kd sq (x i)) (k + 1)).length (fun i => ce (selF (fun i => keepB kd sq (x i)) (k + 1) i)) = catN (keptI (fun i => keepB kd sq (x i)) k).length (fun i => ce (selF (fun i => keepB kd sq (x i)) k i)) ++ ce k := cat_sel hpk
          have HNX : Hid ((keptI (fun i => keepB kd sq (x i)) (k + 1)).length = (keptI (fun i => keepB kd sq (x i)) k).length + 1) := hnext
          have HCT : Hid (catN (keptI (fun i => keepB kd sq (x i)) (k + 1)).length (fun i => ce (selF (fun i => keepB kd sq (x i)) (k + 1) i)) = catN (keptI (fun i => keepB kd sq (x i)) k).length (fun i => ce (selF (fun i => keepB kd sq (x i)) k i)) ++ ce k) := hcat
          have bB : Below w.heap.size w (wx.alloc (.cells #[.int .i64 (x k).kind, .int .i64 (x k).seq, .string (x k).name, .int .i64 (x k).length, .int .i64 (x k).group, .int .i64 (x k).row, .slice ao6 (x k).rows.1 cap6, .slice ao7 (x k).data.1 cap7, .slice ao8 (x k).delta.1 cap8] 43)) := HBL.out.alloc zx _
          obtain ⟨ao', c', w4, hrun, r4, b4⟩ := run_appendRow el_Rec 110 (HRW.out.alloc (.cells #[.int .i64 (x k).kind, .int .i64 (x k).seq, .string (x k).name, .int .i64 (x k).length, .int .i64 (x k).group, .int .i64 (x k).row, .slice ao6 (x k).rows.1 cap6, .slice ao7 (x k).data.1 cap7, .slice ao8 (x k).delta.1 cap8] 43)) (cs := ce k) (by rw [HCE.out]; rfl) (fun u hu => layRec.own_one (h.out.each k hlt) u hu) wx.heap.size 1 (fun j hj => by rw [HCE.out]; exact cells_new wx [.int .i64 (x k).kind, .int .i64 (x k).seq, .string (x k).name, .int .i64 (x k).length, .int .i64 (x k).group, .int .i64 (x k).row, .slice ao6 (x k).rows.1 cap6, .slice ao7 (x k).data.1 cap7, .slice ao8 (x k).delta.1 cap8] 43 j) (by have := kept_le (fun i => keepB kd sq (x i)) k; omega) (by simp; omega)
          clear hpk hnext hcat
          go_wp2_with (at_builtin; refine wp_run2 rfl (.tmp 32) (.tmp 37) rfl ?_ ?_ hrun ?_; (simp [Act.eval]); (simp [Act.eval]))
          go_roundw
          case rel => exact ⟨k + 1, ao', c', by omega, by go_num, by rw [HNX.out], by rw [HCT.out, HNX.out]; exact r4, bB.trans b4⟩
          case measure => simp [intOf]; omega
      · have te1 : ((x k).kind != kd) = true := by simpa using hkd
        have HK : Hid ((x k).kind ≠ kd) := hkd
        have HS : Hid True := trivial
        clear hkd
        skip
        have hpk : (fun i => keepB kd sq (x i)) k = true := by show keepB kd sq (x k) = true; unfold keepB; simp only [Bool.not_eq_true', Bool.and_eq_false_iff]; first | exact .inl (by simpa using HK.out) | exact .inr (by simpa using HS.out)
        have hnext : (keptI (fun i => keepB kd sq (x i)) (k + 1)).length = (keptI (fun i => keepB kd sq (x i)) k).length + 1 := by rw [kept_succ, if_pos hpk]; simp
        have hcat : catN (keptI (fun i => keepB kd sq (x i)) (k + 1)).length (fun i => ce (selF (fun i => keepB kd sq (x i)) (k + 1) i)) = catN (keptI (fun i => keepB kd sq (x i)) k).length (fun i => ce (selF (fun i => keepB kd sq (x i)) k i)) ++ ce k := cat_sel hpk
        have HNX : Hid ((keptI (fun i => keepB kd sq (x i)) (k + 1)).length = (keptI (fun i => keepB kd sq (x i)) k).length + 1) := hnext
        have HCT : Hid (catN (keptI (fun i => keepB kd sq (x i)) (k + 1)).length (fun i => ce (selF (fun i => keepB kd sq (x i)) (k + 1) i)) = catN (keptI (fun i => keepB kd sq (x i)) k).length (fun i => ce (selF (fun i => keepB kd sq (x i)) k i)) ++ ce k) := hcat
        have bB : Below w.heap.size w (wx.alloc (.cells #[.int .i64 (x k).kind, .int .i64 (x k).seq, .string (x k).name, .int .i64 (x k).length, .int .i64 (x k).group, .int .i64 (x k).row, .slice ao6 (x k).rows.1 cap6, .slice ao7 (x k).data.1 cap7, .slice ao8 (x k).delta.1 cap8] 43)) := HBL.out.alloc zx _
        obtain ⟨ao', c', w4, hrun, r4, b4⟩ := run_appendRow el_Rec 110 (HRW.out.alloc (.cells #[.int .i64 (x k).kind, .int .i64 (x k).seq, .string (x k).name, .int .i64 (x k).length, .int .i64 (x k).group, .int .i64 (x k).row, .slice ao6 (x k).rows.1 cap6, .slice ao7 (x k).data.1 cap7, .slice ao8 (x k).delta.1 cap8] 43)) (cs := ce k) (by rw [HCE.out]; rfl) (fun u hu => layRec.own_one (h.out.each k hlt) u hu) wx.heap.size 1 (fun j hj => by rw [HCE.out]; exact cells_new wx [.int .i64 (x k).kind, .int .i64 (x k).seq, .string (x k).name, .int .i64 (x k).length, .int .i64 (x k).group, .int .i64 (x k).row, .slice ao6 (x k).rows.1 cap6, .slice ao7 (x k).data.1 cap7, .slice ao8 (x k).delta.1 cap8] 43 j) (by have := kept_le (fun i => keepB kd sq (x i)) k; omega) (by simp; omega)
        clear hpk hnext hcat
        go_wp2_with (at_builtin; refine wp_run2 rfl (.tmp 32) (.tmp 37) rfl ?_ ?_ hrun ?_; (simp [Act.eval]); (simp [Act.eval]))
        go_roundw
        case rel => exact ⟨k + 1, ao', c', by omega, by go_num, by rw [HNX.out], by rw [HCT.out, HNX.out]; exact r4, bB.trans b4⟩
        case measure => simp [intOf]; omega
    · obtain rfl : k = n := by omega
      clear hrw hbl
      go_wp2
      go_ret
      exact ⟨ao, c, rfl, HRW.out, HBL.out⟩
end Go.Proofs.YthdknhjaohhfiaaGreat

namespace Go.Proofs.YthdknhjaohhfiaaGreat
open Go.RowKit F256
set_option linter.unusedVariables false
set_option linter.unusedSimpArgs false
set_option maxHeartbeats 8000000 in
set_option maxRecDepth 20000 in
theorem struck_any (a0 a1 : Nat) (kd sq : Int) (r0 r1 : Int) (r2 : ByteArray) (r3 r4 r5 : Int) (r6 : Option Addr) (r7 r8 : Nat) (r9 : Option Addr) (r10 r11 : Nat) (r12 : Option Addr) (r13 r14 : Nat) (w : World) (h0 : w.cell? ⟨a0, 0, none⟩ = some (.int .i64 kd)) (h1 : w.cell? ⟨a1, 0, none⟩ = some (.int .i64 sq)) (hl0 : a0 < w.heap.size) (hl1 : a1 < w.heap.size) :
    Calls Tryz.prog 163 #[.agg #[.int .i64 r0, .int .i64 r1, .string r2, .int .i64 r3, .int .i64 r4, .int .i64 r5, .slice r6 r7 r8, .slice r9 r10 r11, .slice r12 r13 r14], .pointer (some ⟨a0, 0, none⟩), .pointer (some ⟨a1, 0, none⟩)] w fun e w' => e = .returned (.bool (r0 == kd && r1 == sq)) ∧ Below w.heap.size w w' := by
  have B := one_new w #[.int .i64 r0, .int .i64 r1, .string r2, .int .i64 r3, .int .i64 r4, .int .i64 r5, .slice r6 r7 r8, .slice r9 r10 r11, .slice r12 r13 r14] 43
  have x0 : (w.alloc (.cells #[.int .i64 r0, .int .i64 r1, .string r2, .int .i64 r3, .int .i64 r4, .int .i64 r5, .slice r6 r7 r8, .slice r9 r10 r11, .slice r12 r13 r14] 43)).cell? ⟨w.heap.size, 0, none⟩ = some (.int .i64 r0) := B.b1.cell 0
  have x1 : (w.alloc (.cells #[.int .i64 r0, .int .i64 r1, .string r2, .int .i64 r3, .int .i64 r4, .int .i64 r5, .slice r6 r7 r8, .slice r9 r10 r11, .slice r12 r13 r14] 43)).cell? ⟨w.heap.size, 1, none⟩ = some (.int .i64 r1) := B.b1.cell 1
  have c0 : (w.alloc (.cells #[.int .i64 r0, .int .i64 r1, .string r2, .int .i64 r3, .int .i64 r4, .int .i64 r5, .slice r6 r7 r8, .slice r9 r10 r11, .slice r12 r13 r14] 43)).cell? ⟨a0, 0, none⟩ = some (.int .i64 kd) := (B.bel.cell (p := ⟨a0, 0, none⟩) hl0).trans h0
  have c1 : (w.alloc (.cells #[.int .i64 r0, .int .i64 r1, .string r2, .int .i64 r3, .int .i64 r4, .int .i64 r5, .slice r6 r7 r8, .slice r9 r10 r11, .slice r12 r13 r14] 43)).cell? ⟨a1, 0, none⟩ = some (.int .i64 sq) := (B.bel.cell (p := ⟨a1, 0, none⟩) hl1).trans h1
  have HB : Hid (Below w.heap.size w (w.alloc (.cells #[.int .i64 r0, .int .i64 r1, .string r2, .int .i64 r3, .int .i64 r4, .int .i64 r5, .slice r6 r7 r8, .slice r9 r10 r11, .slice r12 r13 r14] 43))) := B.bel
  clear h0 h1 B
  by_cases hk : r0 = kd
  · subst hk
    by_cases hs : r1 = sq
    · subst hs
      have e1 : (r0 == r0) = true := by simp
      have e2 : (r1 == r1) = true := by simp
      go_enter Tryz.func163, Tryz.ntmps163
      go_wp2
      go_ret
      exact ⟨by simp, HB.out⟩
    · have e1 : (r0 == r0) = true := by simp
      have e2 : (r1 == sq) = false := by simpa using hs
      clear hs
      go_enter Tryz.func163, Tryz.ntmps163
      go_wp2
      go_ret
      exact ⟨by simp [e2], HB.out⟩
  · have e1 : (r0 == kd) = false := by simpa using hk
    clear hk
    go_enter Tryz.func163, Tryz.ntmps163
    go_wp2
    go_ret
    exact ⟨by simp [e1], HB.out⟩
theorem below_c0 {w w' : World} {B a : Nat} {v : Value} (h : Below B w w') (ha : a < B) (hc : w.cell? ⟨a, 0, none⟩ = some v) : w'.cell? ⟨a, 0, none⟩ = some v := (h.cell (p := ⟨a, 0, none⟩) ha).trans hc
set_option maxHeartbeats 8000000 in
set_option maxRecDepth 20000 in
/-- the first that is struck, or -1 -/
theorem indexStruck (g cap n : Nat) (x : Nat → RecD) (ce : Nat → List Value) (Ls : Nat → List Nat) (a0 a1 : Nat) (kd sq : Int) (w : World) (hO : SlO layRec 43 w g cap n x ce Ls) (h0 : w.cell? ⟨a0, 0, none⟩ = some (.int .i64 kd)) (h1 : w.cell? ⟨a1, 0, none⟩ = some (.int .i64 sq)) (hl0 : a0 < w.heap.size) (hl1 : a1 < w.heap.size) (hn : n ≤ 1048576) :
    Calls Tryz.prog 198 #[.slice (some ⟨g, 0, none⟩) n cap, .func (.func 163) #[] #[.pointer (some ⟨a0, 0, none⟩), .pointer (some ⟨a1, 0, none⟩)]] w fun e w' => ((e = .returned (.int .i64 (-1)) ∧ ∀ i, i < n → (fun i => keepB kd sq (x i)) i = true) ∨ ∃ i : Nat, i < n ∧ e = .returned (.int .i64 (i : Int)) ∧ (fun i => keepB kd sq (x i)) i = false ∧ ∀ t, t < i → (fun i => keepB kd sq (x i)) t = true) ∧ Below w.heap.size w w' := by
  have h : Hid (SlO layRec 43 w g cap n x ce Ls) := hO
  have H0 : Hid (w.cell? ⟨a0, 0, none⟩ = some (.int .i64 kd)) := h0
  have H1 : Hid (w.cell? ⟨a1, 0, none⟩ = some (.int .i64 sq)) := h1
  clear hO h0 h1
  go_enter Tryz.func198, Tryz.ntmps198
  go_wp2
  go_loopw [8] (fun z wr => ∃ k : Nat, k ≤ n ∧ z = .int .i64 k ∧ (∀ t, t < k → (fun i => keepB kd sq (x i)) t = true) ∧ Below w.heap.size w wr) (fun z _ => n - (intOf z).toNat)
  case atStart => exact ⟨0, Nat.zero_le _, rfl, fun t ht => by omega, Below.refl _ _⟩
  case round =>
    obtain ⟨k, hk, rfl, hall, hbl⟩ := hrel
    obtain ⟨wx, rfl⟩ : ∃ y, y = wr := ⟨_, rfl⟩
    have HALL : Hid (∀ t, t < k → (fun i => keepB kd sq (x i)) t = true) := hall
    have HBL : Hid (Below w.heap.size w wx) := hbl
    have zx := hbl.size
    clear hall
    by_cases hlt : k < n
    · obtain ⟨ao6, cap6, ao7, cap7, ao8, cap8, K6, K7, K8, eR, -⟩ := Rec_own (h.out.each k hlt)
      have S5 := h.out.kept (w' := wx) (fun b hb => hbl.block b (h.out.mem_lt b hb))
      have s_0 : wx.cell? ⟨g, k * 9, none⟩ = some (.int .i64 (x k).kind) := (S5.cell hlt (j := 0) (by decide)).trans (by rw [eR]; rfl)
      have s_1 : wx.cell? ⟨g, k * 9 + 1, none⟩ = some (.int .i64 (x k).seq) := (S5.cell hlt (j := 1) (by decide)).trans (by rw [eR]; rfl)
      have s_2 : wx.cell? ⟨g, k * 9 + 2, none⟩ = some (.string (x k).name) := (S5.cell hlt (j := 2) (by decide)).trans (by rw [eR]; rfl)
      have s_3 : wx.cell? ⟨g, k * 9 + 3, none⟩ = some (.int .i64 (x k).length) := (S5.cell hlt (j := 3) (by decide)).trans (by rw [eR]; rfl)
      have s_4 : wx.cell? ⟨g, k * 9 + 4, none⟩ = some (.int .i64 (x k).group) := (S5.cell hlt (j := 4) (by decide)).trans (by rw [eR]; rfl)
      have s_5 : wx.cell? ⟨g, k * 9 + 5, none⟩ = some (.int .i64 (x k).row) := (S5.cell hlt (j := 5) (by decide)).trans (by rw [eR]; rfl)
      have s_6 : wx.cell? ⟨g, k * 9 + 6, none⟩ = some (.slice ao6 (x k).rows.1 cap6) := (S5.cell hlt (j := 6) (by decide)).trans (by rw [eR]; rfl)
      have s_7 : wx.cell? ⟨g, k * 9 + 7, none⟩ = some (.slice ao7 (x k).data.1 cap7) := (S5.cell hlt (j := 7) (by decide)).trans (by rw [eR]; rfl)
      have s_8 : wx.cell? ⟨g, k * 9 + 8, none⟩ = some (.slice ao8 (x k).delta.1 cap8) := (S5.cell hlt (j := 8) (by decide)).trans (by rw [eR]; rfl)
      have i1 : (0 : Int) ≤ (k : Int) := by omega
      have i2 : (k : Int) < (n : Int) := by omega
      have CS := struck_any a0 a1 kd sq (x k).kind (x k).seq (x k).name (x k).length (x k).group (x k).row ao6 (x k).rows.1 cap6 ao7 (x k).data.1 cap7 ao8 (x k).delta.1 cap8 wx (below_c0 hbl hl0 H0.out) (below_c0 hbl hl1 H1.out) (by omega) (by omega)
      obtain ⟨t, ht⟩ : ∃ t, t = ((x k).kind == kd && (x k).seq == sq) := ⟨_, rfl⟩
      rw [← ht] at CS
      have HT : Hid ((fun i => keepB kd sq (x i)) k = !t) := by rw [ht]; rfl
      clear hbl S5 eR ht
      go_wp2_with fail
      refine CS.mono ?_
      rintro e w5 ⟨rfl, b5⟩
      have B5 : Hid (Below w.heap.size w w5) := HBL.out.trans (b5.mono zx)
      clear b5 CS
      cases t with
      | true =>
        go_wp2
        go_ret
        exact ⟨.inr ⟨k, hlt, rfl, HT.out, HALL.out⟩, B5.out⟩
      | false =>
        go_wp2
        go_roundw
        case rel => exact ⟨k + 1, by omega, by go_num, fun t ht => by
                      by_cases c : t = k
                      · rw [c]; exact HT.out
                      · exact HALL.out t (by omega), B5.out⟩
        case measure => simp [intOf]; omega
    · obtain rfl : k = n := by omega
      clear hbl
      go_wp2
      go_ret
      exact ⟨.inl ⟨rfl, HALL.out⟩, HBL.out⟩
/-- the kept ones ahead, the others as they were -/
def mixF {β : Type} (p : Nat → Bool) (j : Nat) (f : Nat → β) : Nat → β := fun m => if m < (keptI p j).length then f (selF p j m) else f m
theorem mix_at {β : Type} {p : Nat → Bool} {j m : Nat} (f : Nat → β) (h : (keptI p j).length ≤ m) : mixF p j f m = f m := by unfold mixF; rw [if_neg (by omega)]
theorem mix_skip {β : Type} {p : Nat → Bool} {j : Nat} (f : Nat → β) (h : p j = false) (m : Nat) : mixF p (j + 1) f m = mixF p j f m := by
  unfold mixF
  rw [kept_skip h]
  by_cases c : m < (keptI p j).length
  · rw [if_pos c, if_pos c, selF_more c]
  · rw [if_neg c, if_neg c]
theorem mix_keep {β : Type} {p : Nat → Bool} {j : Nat} (f : Nat → β) (h : p j = true) (m : Nat) : upd (mixF p j f) (keptI p j).length (f j) m = mixF p (j + 1) f m := by
  have e : (keptI p (j + 1)).length = (keptI p j).length + 1 := by rw [kept_succ, if_pos h]; simp
  unfold mixF
  by_cases c : m = (keptI p j).length
  · subst c
    rw [upd_at, if_pos (by omega), selF_last h]
  · rw [upd_ne _ _ c]
    by_cases c2 : m < (keptI p j).length
    · rw [if_pos c2, if_pos (by omega), selF_more c2]
    · rw [if_neg c2, if_neg (by omega)]
theorem kept_all {p : Nat → Bool} {n : Nat} (h : ∀ i, i < n → p i = true) : keptI p n = List.range n := by
  unfold keptI
  exact List.filter_eq_self.2 (fun i hi => h i (List.mem_range.1 hi))
theorem sel_all {p : Nat → Bool} {n m : Nat} (h : ∀ i, i < n → p i = true) (hm : m < n) : selF p n m = m := by
  unfold selF
  rw [kept_all h, List.getD_eq_getElem?_getD, List.getElem?_range hm]
  rfl
theorem mix_all {β : Type} {p : Nat → Bool} {j : Nat} (f : Nat → β) (h : ∀ i, i < j → p i = true) (m : Nat) : mixF p j f m = f m := by
  unfold mixF
  by_cases c : m < (keptI p j).length
  · rw [if_pos c, sel_all h (by rw [kept_all h] at c; simpa using c)]
  · rw [if_neg c]
theorem kept_less {p : Nat → Bool} {n i : Nat} (hi : i < n) (h : p i = false) : (keptI p n).length < n := by
  induction n with
  | zero => omega
  | succ n ih =>
    by_cases c : i = n
    · subst c
      rw [kept_skip h]
      have := kept_le p i
      omega
    · have := ih (by omega)
      have h2 : (keptI p (n + 1)).length ≤ (keptI p n).length + 1 := by rw [kept_succ]; split <;> simp
      omega
/-- the elements' memory is as it was, wherever they stand -/
theorem mix_own {w wr : World} {g cap n : Nat} {x : Nat → RecD} {ce : Nat → List Value} {Ls : Nat → List Nat} (h : SlO layRec 43 w g cap n x ce Ls) (nd : (g :: catN n Ls).Nodup) (p : Nat → Bool) (j : Nat) (hj : j ≤ n) (hc : ChgL [g] w wr) (hr : wr.ownsRow 0 43 layRec.sz (.slice (some ⟨g, 0, none⟩) n cap) n (catN n (mixF p j ce))) : SlO layRec 43 wr g cap n (mixF p j x) (mixF p j ce) (mixF p j Ls) := by
  refine ⟨hr, fun m hm => ?_⟩
  have key : ∀ i, i < n → layRec.own wr (x i) (ce i) (Ls i) := fun i hi => Lay.own_chgL _ (h.each i hi) hc (fun b hb hbg => by
    simp only [List.mem_singleton] at hbg
    subst hbg
    exact (List.nodup_cons.1 nd).1 (mem_catN.2 ⟨i, hi, hb⟩))
  unfold mixF
  by_cases c : m < (keptI p j).length
  · rw [if_pos c, if_pos c, if_pos c]
    exact key _ (by have := selF_lt c; omega)
  · rw [if_neg c, if_neg c, if_neg c]
    exact key m hm
theorem zero_Rec (w : World) : (zeroValue 43).run Tryz.prog w = .ok (.agg #[.int .i64 0, .int .i64 0, .string ByteArray.empty, .int .i64 0, .int .i64 0, .int .i64 0, .slice none 0 0, .slice none 0 0, .slice none 0 0]) w := by kernel_rfl
theorem zeros_one (n : Nat) : ∀ v, v ∈ (Builtin.zeroCells #[.int .i64 0, .int .i64 0, .string ByteArray.empty, .int .i64 0, .int .i64 0, .int .i64 0, .slice none 0 0, .slice none 0 0, .slice none 0 0] n).toList → v.oneCell' = true := fun v hv => by
  simp only [Builtin.zeroCells, Array.toList_map, List.mem_map] at hv
  obtain ⟨i, _, rfl⟩ := hv
  have hi : i % 9 < 9 := Nat.mod_lt _ (by decide)
  show (#[.int .i64 0, .int .i64 0, .string ByteArray.empty, .int .i64 0, .int .i64 0, .int .i64 0, .slice none 0 0, .slice none 0 0, .slice none 0 0] : Array Value)[i % 9]!.oneCell' = true
  generalize i % 9 = j at hi
  match j, hi with
  | 0, _ => rfl
  | 1, _ => rfl
  | 2, _ => rfl
  | 3, _ => rfl
  | 4, _ => rfl
  | 5, _ => rfl
  | 6, _ => rfl
  | 7, _ => rfl
  | 8, _ => rfl
/-- clear over records: the row's head is as it was -/
theorem run_clearZ (z : Value) (zs : Array Value) (hv : ∀ w, (zeroValue 43).run Tryz.prog w = .ok z w) (hz : z.cells = zs) (h9 : zs.size = 9) (hone : ∀ n v, v ∈ (Builtin.zeroCells zs n).toList → v.oneCell' = true) (w : World) (ty g o n c : Nat) (cur : Array Value) (hg : w.heap[g]? = some (.cells cur 43 (0, 0))) (hn : 0 < n) (hl : o + n * 9 ≤ cur.size) : ∃ row : Array Value, (Builtin.clear_ #[110] ty #[.slice (some ⟨g, o, none⟩) n c]).run Tryz.prog w = .ok (.tuple #[]) (w.setRow g row) ∧ row.size = cur.size ∧ row.toList.take o = cur.toList.take o := by
  obtain ⟨Z, hZ⟩ : ∃ Z, Z = (Builtin.zeroCells zs n).toList := ⟨_, rfl⟩
  have hlen : Z.length = n * 9 := by rw [hZ]; simp [Builtin.zeroCells, h9]
  have hst := run_storeCells_at (P := Tryz.prog) g o 43 Z 0 cur w hg (by rw [hlen]; omega) (by rw [hZ]; exact hone n)
  simp only [Nat.add_zero] at hst
  refine ⟨(cur.toList.take o ++ Z ++ cur.toList.drop (o + Z.length)).toArray, ?_, ?_, ?_⟩
  · obtain ⟨m, rfl⟩ : ∃ m, n = m + 1 := ⟨n - 1, by omega⟩
    simp [Builtin.clear_, run_underlying Tryz.underlying110, hv, hz, ← hZ, hst]
  · simp only [List.size_toArray, List.length_append, List.length_take, List.length_drop, hlen, Array.length_toList]
    omega
  · simp only [List.toList_toArray]
    rw [List.append_assoc, List.take_append_of_le_length (by simp; omega), List.take_take, Nat.min_self]
theorem run_clearR (w : World) (ty g o n c : Nat) (cur : Array Value) (hg : w.heap[g]? = some (.cells cur 43 (0, 0))) (hn : 0 < n) (hl : o + n * 9 ≤ cur.size) : ∃ row : Array Value, (Builtin.clear_ #[110] ty #[.slice (some ⟨g, o, none⟩) n c]).run Tryz.prog w = .ok (.tuple #[]) (w.setRow g row) ∧ row.size = cur.size ∧ row.toList.take o = cur.toList.take o :=
  run_clearZ (.agg #[.int .i64 0, .int .i64 0, .string ByteArray.empty, .int .i64 0, .int .i64 0, .int .i64 0, .slice none 0 0, .slice none 0 0, .slice none 0 0]) #[.int .i64 0, .int .i64 0, .string ByteArray.empty, .int .i64 0, .int .i64 0, .int .i64 0, .slice none 0 0, .slice none 0 0, .slice none 0 0] zero_Rec rfl rfl zeros_one w ty g o n c cur hg hn hl
end Go.Proofs.YthdknhjaohhfiaaGreat

namespace Go.Proofs.YthdknhjaohhfiaaGreat
open Go.RowKit F256
set_option linter.unusedVariables false
set_option linter.unusedSimpArgs false
theorem run_rsFrom (g n cap i : Nat) (hi : i < n) (hn : n ≤ cap) (w : World) : (Instr.slice 110 (.slice (some ⟨g, 0, none⟩) n cap) (some (.int .i64 (i : Int))) none none).run Tryz.prog w = .ok (.slice (some ⟨g, i * 9, none⟩) (n - i) (cap - i)) w := by
  have e1 : (i : Int) ≤ (n : Int) := by omega
  have e6 : i ≤ n := by omega
  have e7 : ¬ cap = i := by omega
  simp [Instr.slice, run_underlying Tryz.underlying110, Instr.sliceBounds, Instr.sliceBound, asIntOf, go_sem, e1, e6, e7]
theorem run_rsTo (g n cap i : Nat) (hi : i ≤ cap) (w : World) : (Instr.slice 110 (.slice (some ⟨g, 0, none⟩) n cap) none (some (.int .i64 (i : Int))) none).run Tryz.prog w = .ok (.slice (some ⟨g, 0, none⟩) i cap) w := by
  have e1 : (i : Int) ≤ (cap : Int) := by omega
  simp [Instr.slice, run_underlying Tryz.underlying110, Instr.sliceBounds, Instr.sliceBound, asIntOf, go_sem, e1, hi]
theorem row_short {w : World} {g cap n m s : Nat} {t : TypeId} {xs ys : List Value} (h : w.ownsRow 0 t s (.slice (some ⟨g, 0, none⟩) n cap) n xs) (hm : m ≤ n) (hy : xs.take (m * s) = ys) : w.ownsRow 0 t s (.slice (some ⟨g, 0, none⟩) m cap) m ys := by
  have hl := h.1
  have hms : m * s ≤ n * s := Nat.mul_le_mul_right s hm
  refine ⟨by rw [← hy, List.length_take, hl]; omega, ?_⟩
  rcases h.2 with ⟨hn, _⟩ | ⟨g', cap', cur, he, hbg, hgg, hnc, hcm, hcs, htk⟩
  · cases hn
  · cases he
    refine .inr ⟨g, cap, cur, rfl, hbg, hgg, by omega, hcm, hcs, ?_⟩
    rw [← hy, ← htk, List.take_take, Nat.min_eq_left hms]
theorem catN_take {n m s : Nat} {ce : Nat → List Value} (h : ∀ i, i < n → (ce i).length = s) (hm : m ≤ n) : (catN n ce).take (m * s) = catN m ce := by
  induction n with
  | zero => obtain rfl : m = 0 := by omega
            simp [catN]
  | succ n ih =>
    by_cases c : m = n + 1
    · subst c
      exact List.take_of_length_le (by rw [catN_len h]; exact Nat.le_refl _)
    · have hl : (catN n ce).length = n * s := catN_len (fun i hi => h i (by omega))
      have hms : m * s ≤ n * s := Nat.mul_le_mul_right s (by omega)
      rw [catN_succ, List.take_append_of_le_length (by omega)]
      exact ih (fun i hi => h i (by omega)) (by omega)
set_option maxHeartbeats 32000000 in
set_option maxRecDepth 20000 in
theorem deleteStruck (g cap n : Nat) (x : Nat → RecD) (ce : Nat → List Value) (Ls : Nat → List Nat) (a0 a1 : Nat) (kd sq : Int) (w : World) (hO : SlO layRec 43 w g cap n x ce Ls) (nd : (g :: catN n Ls).Nodup) (h0 : w.cell? ⟨a0, 0, none⟩ = some (.int .i64 kd)) (h1 : w.cell? ⟨a1, 0, none⟩ = some (.int .i64 sq)) (hl0 : a0 < w.heap.size) (hl1 : a1 < w.heap.size) (hg0 : a0 ≠ g) (hg1 : a1 ≠ g) (hn : n ≤ 1048576) :
    Calls Tryz.prog 162 #[.slice (some ⟨g, 0, none⟩) n cap, .func (.func 163) #[] #[.pointer (some ⟨a0, 0, none⟩), .pointer (some ⟨a1, 0, none⟩)]] w fun e w' => e = .returned (.slice (some ⟨g, 0, none⟩) (keptI (fun i => keepB kd sq (x i)) n).length cap) ∧ w'.ownsRow 0 43 layRec.sz (.slice (some ⟨g, 0, none⟩) (keptI (fun i => keepB kd sq (x i)) n).length cap) (keptI (fun i => keepB kd sq (x i)) n).length (catN (keptI (fun i => keepB kd sq (x i)) n).length (fun i => ce (selF (fun i => keepB kd sq (x i)) n i))) ∧ ChgL [g] w w' := by
  have h : Hid (SlO layRec 43 w g cap n x ce Ls) := hO
  have HND : Hid ((g :: catN n Ls).Nodup) := nd
  have H0 : Hid (w.cell? ⟨a0, 0, none⟩ = some (.int .i64 kd)) := h0
  have H1 : Hid (w.cell? ⟨a1, 0, none⟩ = some (.int .i64 sq)) := h1
  have hnc : n ≤ cap := by
    rcases hO.row.2 with ⟨hn, _⟩ | ⟨g', cap', cur, he, hbg, hgg, hnc, _⟩
    · cases hn
    · cases he; exact hnc
  have HNC : Hid (n ≤ cap) := hnc
  have hgl := hO.lt
  have CI := indexStruck g cap n x ce Ls a0 a1 kd sq w hO h0 h1 hl0 hl1 hn
  clear hO nd h0 h1 hnc
  go_enter Tryz.func162, Tryz.ntmps162
  go_wp2_with fail
  refine CI.mono ?_
  rintro e w1 ⟨hcase, b1⟩
  have HB1 : Hid (Below w.heap.size w w1) := b1
  have z1 := b1.size
  clear CI b1
  rcases hcase with ⟨rfl, hall⟩ | ⟨i0, hi0, rfl, hp0, hbef⟩
  · have HALL : Hid (∀ i, i < n → (fun i => keepB kd sq (x i)) i = true) := hall
    clear hall
    have te : ((-1 : Int) == -1) = true := by decide
    go_wp2
    go_ret
    have em : (keptI (fun i => keepB kd sq (x i)) n).length = n := by rw [kept_all HALL.out]; simp
    have er : catN n (fun i => ce (selF (fun i => keepB kd sq (x i)) n i)) = catN n ce := catN_congr (fun i hi => by rw [sel_all HALL.out hi])
    rw [em, er]
    exact ⟨rfl, (h.out.kept (w' := w1) (fun b hb => HB1.out.block b (h.out.mem_lt b hb))).row, ChgL.of_below HB1.out⟩
  have HP0 : Hid ((fun i => keepB kd sq (x i)) i0 = false) := hp0
  have HBEF : Hid (∀ t, t < i0 → (fun i => keepB kd sq (x i)) t = true) := hbef
  clear hp0 hbef
  have te : ((i0 : Int) == -1) = false := beq_eq_false_iff_ne.2 (by omega)
  have zi : IntKind.i64.wrap ((i0 : Int) + 1) = (i0 : Int) + 1 := by rw [IntKind.wrap_i64]; omega
  go_wp2
  go_loopw [5, 6] (fun v z wr => ∃ j : Nat, j ≤ n ∧ i0 < j ∧ z = .int .i64 j ∧ v = .int .i64 ((keptI (fun i => keepB kd sq (x i)) (j)).length : Nat) ∧ wr.ownsRow 0 43 layRec.sz (.slice (some ⟨g, 0, none⟩) n cap) n (catN n (mixF (fun i => keepB kd sq (x i)) (j) ce)) ∧ ChgL [g] w wr) (fun _ z _ => n - (intOf z).toNat)
  case atStart =>
    refine ⟨i0 + 1, by omega, by omega, by simp, ?_, ?_, ChgL.of_below HB1.out⟩
    · rw [kept_skip HP0.out, kept_all HBEF.out]; simp
    · rw [catN_congr (g := ce) (fun m _ => by rw [mix_skip ce HP0.out, mix_all ce HBEF.out])]
      exact (h.out.kept (w' := w1) (fun b hb => HB1.out.block b (h.out.mem_lt b hb))).row
  case round =>
    obtain ⟨j, hj, hij, rfl, rfl, hrow, hch⟩ := hrel
    obtain ⟨wx, rfl⟩ : ∃ y, y = wr := ⟨_, rfl⟩
    have HCH : Hid (ChgL [g] w wx) := hch
    have HRW : Hid (wx.ownsRow 0 43 layRec.sz (.slice (some ⟨g, 0, none⟩) n cap) n (catN n (mixF (fun i => keepB kd sq (x i)) (j) ce))) := hrow
    have zx := hch.size
    have hless : (keptI (fun i => keepB kd sq (x i)) (j)).length < j := kept_less hij HP0.out
    clear hrow hch
    by_cases hlt : j < n
    · obtain ⟨ao6, cap6, ao7, cap7, ao8, cap8, K6, K7, K8, eR, -⟩ := Rec_own (h.out.each j hlt)
      have HCE : Hid (ce j = [.int .i64 (x j).kind, .int .i64 (x j).seq, .string (x j).name, .int .i64 (x j).length, .int .i64 (x j).group, .int .i64 (x j).row, .slice ao6 (x j).rows.1 cap6, .slice ao7 (x j).data.1 cap7, .slice ao8 (x j).delta.1 cap8]) := eR
      have S5 := mix_own h.out HND.out (fun i => keepB kd sq (x i)) j hj HCH.out HRW.out
      have em : (mixF (fun i => keepB kd sq (x i)) (j) ce) j = [.int .i64 (x j).kind, .int .i64 (x j).seq, .string (x j).name, .int .i64 (x j).length, .int .i64 (x j).group, .int .i64 (x j).row, .slice ao6 (x j).rows.1 cap6, .slice ao7 (x j).data.1 cap7, .slice ao8 (x j).delta.1 cap8] := by rw [mix_at ce (Nat.le_of_lt hless)]; exact eR
      have s_0 : wx.cell? ⟨g, j * 9, none⟩ = some (.int .i64 (x j).kind) := (S5.cell hlt (j := 0) (by decide)).trans (by rw [em]; rfl)
      have s_1 : wx.cell? ⟨g, j * 9 + 1, none⟩ = some (.int .i64 (x j).seq) := (S5.cell hlt (j := 1) (by decide)).trans (by rw [em]; rfl)
      have s_2 : wx.cell? ⟨g, j * 9 + 2, none⟩ = some (.string (x j).name) := (S5.cell hlt (j := 2) (by decide)).trans (by rw [em]; rfl)
      have s_3 : wx.cell? ⟨g, j * 9 + 3, none⟩ = some (.int .i64 (x j).length) := (S5.cell hlt (j := 3) (by decide)).trans (by rw [em]; rfl)
      have s_4 : wx.cell? ⟨g, j * 9 + 4, none⟩ = some (.int .i64 (x j).group) := (S5.cell hlt (j := 4) (by decide)).trans (by rw [em]; rfl)
      have s_5 : wx.cell? ⟨g, j * 9 + 5, none⟩ = some (.int .i64 (x j).row) := (S5.cell hlt (j := 5) (by decide)).trans (by rw [em]; rfl)
      have s_6 : wx.cell? ⟨g, j * 9 + 6, none⟩ = some (.slice ao6 (x j).rows.1 cap6) := (S5.cell hlt (j := 6) (by decide)).trans (by rw [em]; rfl)
      have s_7 : wx.cell? ⟨g, j * 9 + 7, none⟩ = some (.slice ao7 (x j).data.1 cap7) := (S5.cell hlt (j := 7) (by decide)).trans (by rw [em]; rfl)
      have s_8 : wx.cell? ⟨g, j * 9 + 8, none⟩ = some (.slice ao8 (x j).delta.1 cap8) := (S5.cell hlt (j := 8) (by decide)).trans (by rw [em]; rfl)
      have i1 : (0 : Int) ≤ (j : Int) := by omega
      have i2 : (j : Int) < (n : Int) := by omega
      have bV : Below wx.heap.size wx (wx.alloc (.cells #[.int .i64 (x j).kind, .int .i64 (x j).seq, .string (x j).name, .int .i64 (x j).length, .int .i64 (x j).group, .int .i64 (x j).row, .slice ao6 (x j).rows.1 cap6, .slice ao7 (x j).data.1 cap7, .slice ao8 (x j).delta.1 cap8] 43)) := (Below.refl _ _).alloc (Nat.le_refl _) _
      have V1 : Box (wx.alloc (.cells #[.int .i64 (x j).kind, .int .i64 (x j).seq, .string (x j).name, .int .i64 (x j).length, .int .i64 (x j).group, .int .i64 (x j).row, .slice ao6 (x j).rows.1 cap6, .slice ao7 (x j).data.1 cap7, .slice ao8 (x j).delta.1 cap8] 43)) wx.heap.size #[.int .i64 (x j).kind, .int .i64 (x j).seq, .string (x j).name, .int .i64 (x j).length, .int .i64 (x j).group, .int .i64 (x j).row, .slice ao6 (x j).rows.1 cap6, .slice ao7 (x j).data.1 cap7, .slice ao8 (x j).delta.1 cap8] 43 := box_new _ _ _
      have HS5 : Hid (SlO layRec 43 wx g cap n (mixF (fun i => keepB kd sq (x i)) (j) x) (mixF (fun i => keepB kd sq (x i)) (j) ce) (mixF (fun i => keepB kd sq (x i)) (j) Ls)) := S5
      clear S5 em eR
      go_upto_region 8 with fail
      obtain ⟨W5, hW5⟩ : ∃ y, y = wx.alloc (.cells #[.int .i64 (x j).kind, .int .i64 (x j).seq, .string (x j).name, .int .i64 (x j).length, .int .i64 (x j).group, .int .i64 (x j).row, .slice ao6 (x j).rows.1 cap6, .slice ao7 (x j).data.1 cap7, .slice ao8 (x j).delta.1 cap8] 43) := ⟨_, rfl⟩
      rw [← hW5] at bV V1 ⊢
      clear hW5 s_0 s_1 s_2 s_3 s_4 s_5 s_6 s_7 s_8
      have z5 := bV.size
      have C5 : ChgL [g] w W5 := HCH.out.trans (ChgL.of_below bV)
      have CS := struck_any a0 a1 kd sq (x j).kind (x j).seq (x j).name (x j).length (x j).group (x j).row ao6 (x j).rows.1 cap6 ao7 (x j).data.1 cap7 ao8 (x j).delta.1 cap8 W5 ((World.cell?_of_block (C5.block a0 hl0 (by simpa using hg0))).trans H0.out) ((World.cell?_of_block (C5.block a1 hl1 (by simpa using hg1))).trans H1.out) (by omega) (by omega)
      obtain ⟨t, ht⟩ : ∃ t, t = ((x j).kind == kd && (x j).seq == sq) := ⟨_, rfl⟩
      rw [← ht] at CS
      have HT : Hid ((fun i => keepB kd sq (x i)) j = !t) := by rw [ht]; rfl
      have HC5 : Hid (ChgL [g] w W5) := C5
      have v_0 : W5.cell? ⟨wx.heap.size, 0, none⟩ = some (.int .i64 (x j).kind) := V1.cell 0
      have v_1 : W5.cell? ⟨wx.heap.size, 1, none⟩ = some (.int .i64 (x j).seq) := V1.cell 1
      have v_2 : W5.cell? ⟨wx.heap.size, 2, none⟩ = some (.string (x j).name) := V1.cell 2
      have v_3 : W5.cell? ⟨wx.heap.size, 3, none⟩ = some (.int .i64 (x j).length) := V1.cell 3
      have v_4 : W5.cell? ⟨wx.heap.size, 4, none⟩ = some (.int .i64 (x j).group) := V1.cell 4
      have v_5 : W5.cell? ⟨wx.heap.size, 5, none⟩ = some (.int .i64 (x j).row) := V1.cell 5
      have v_6 : W5.cell? ⟨wx.heap.size, 6, none⟩ = some (.slice ao6 (x j).rows.1 cap6) := V1.cell 6
      have v_7 : W5.cell? ⟨wx.heap.size, 7, none⟩ = some (.slice ao7 (x j).data.1 cap7) := V1.cell 7
      have v_8 : W5.cell? ⟨wx.heap.size, 8, none⟩ = some (.slice ao8 (x j).delta.1 cap8) := V1.cell 8
      clear ht C5
      go_wp2_with fail
      refine CS.mono ?_
      rintro e w6 ⟨rfl, b6⟩
      have z6 := b6.size
      have V6 := V1.call b6
      have C6 : Hid (ChgL [g] w w6) := HC5.out.trans (ChgL.of_below b6)
      have S6 := (HS5.out.kept (w' := w6) (fun b hb => (b6.block b (by have := HS5.out.mem_lt b hb; omega)).trans (bV.block b (HS5.out.mem_lt b hb))))
      have HS6 : Hid (SlO layRec 43 w6 g cap n (mixF (fun i => keepB kd sq (x i)) (j) x) (mixF (fun i => keepB kd sq (x i)) (j) ce) (mixF (fun i => keepB kd sq (x i)) (j) Ls)) := S6
      clear b6 CS bV V1 v_0 v_1 v_2 v_3 v_4 v_5 v_6 v_7 v_8
      cases t with
      | true =>
        have HR6 : Hid (w6.ownsRow 0 43 layRec.sz (.slice (some ⟨g, 0, none⟩) n cap) n (catN n (mixF (fun i => keepB kd sq (x i)) (j) ce))) := S6.row
        clear S6 V6
        go_wp2
        go_roundw
        case rel =>
          refine ⟨j + 1, by omega, by omega, by go_num, by rw [kept_skip HT.out], ?_, C6.out⟩
          rw [catN_congr (g := (mixF (fun i => keepB kd sq (x i)) (j) ce)) (fun m _ => mix_skip ce HT.out m)]
          exact HR6.out
        case measure => simp [intOf]; omega
      | false =>
        obtain ⟨q, hq⟩ : ∃ q, q = (keptI (fun i => keepB kd sq (x i)) (j)).length := ⟨_, rfl⟩
        have HQ : Hid (q = (keptI (fun i => keepB kd sq (x i)) (j)).length) := hq
        have hqn : q < n := by omega
        rw [← hq]
        have k1 : (0 : Int) ≤ (q : Int) := by omega
        have k2 : (q : Int) < (n : Int) := by omega
        have hqc := S6.lens q hqn
        have hso : ∀ t, t < 9 → ∃ u, w6.cell? ⟨g, q * 9 + t, none⟩ = some u := fun t ht => by
          refine ⟨((mixF (fun i => keepB kd sq (x i)) (j) ce) q)[t]'(by rw [hqc]; exact ht), ?_⟩
          rw [← List.getElem?_eq_getElem]
          exact S6.cell hqn ht
        obtain ⟨u_0, t_0⟩ := hso 0 (by decide)
        obtain ⟨u_1, t_1⟩ := hso 1 (by decide)
        obtain ⟨u_2, t_2⟩ := hso 2 (by decide)
        obtain ⟨u_3, t_3⟩ := hso 3 (by decide)
        obtain ⟨u_4, t_4⟩ := hso 4 (by decide)
        obtain ⟨u_5, t_5⟩ := hso 5 (by decide)
        obtain ⟨u_6, t_6⟩ := hso 6 (by decide)
        obtain ⟨u_7, t_7⟩ := hso 7 (by decide)
        obtain ⟨u_8, t_8⟩ := hso 8 (by decide)
        simp only [Nat.add_zero] at t_0
        have tf_0 : w6.frozen? ⟨g, q * 9, none⟩ = false := S6.frozen _
        have tf_1 : w6.frozen? ⟨g, q * 9 + 1, none⟩ = false := S6.frozen _
        have tf_2 : w6.frozen? ⟨g, q * 9 + 2, none⟩ = false := S6.frozen _
        have tf_3 : w6.frozen? ⟨g, q * 9 + 3, none⟩ = false := S6.frozen _
        have tf_4 : w6.frozen? ⟨g, q * 9 + 4, none⟩ = false := S6.frozen _
        have tf_5 : w6.frozen? ⟨g, q * 9 + 5, none⟩ = false := S6.frozen _
        have tf_6 : w6.frozen? ⟨g, q * 9 + 6, none⟩ = false := S6.frozen _
        have tf_7 : w6.frozen? ⟨g, q * 9 + 7, none⟩ = false := S6.frozen _
        have tf_8 : w6.frozen? ⟨g, q * 9 + 8, none⟩ = false := S6.frozen _
        have v_0 : w6.cell? ⟨wx.heap.size, 0, none⟩ = some (.int .i64 (x j).kind) := V6.cell 0
        have v_1 : w6.cell? ⟨wx.heap.size, 1, none⟩ = some (.int .i64 (x j).seq) := V6.cell 1
        have v_2 : w6.cell? ⟨wx.heap.size, 2, none⟩ = some (.string (x j).name) := V6.cell 2
        have v_3 : w6.cell? ⟨wx.heap.size, 3, none⟩ = some (.int .i64 (x j).length) := V6.cell 3
        have v_4 : w6.cell? ⟨wx.heap.size, 4, none⟩ = some (.int .i64 (x j).group) := V6.cell 4
        have v_5 : w6.cell? ⟨wx.heap.size, 5, none⟩ = some (.int .i64 (x j).row) := V6.cell 5
        have v_6 : w6.cell? ⟨wx.heap.size, 6, none⟩ = some (.slice ao6 (x j).rows.1 cap6) := V6.cell 6
        have v_7 : w6.cell? ⟨wx.heap.size, 7, none⟩ = some (.slice ao7 (x j).data.1 cap7) := V6.cell 7
        have v_8 : w6.cell? ⟨wx.heap.size, 8, none⟩ = some (.slice ao8 (x j).delta.1 cap8) := V6.cell 8
        have hnx : (keptI (fun i => keepB kd sq (x i)) (j + 1)).length = q + 1 := by
          have hpk : (fun i => keepB kd sq (x i)) j = true := HT.out
          rw [hq, kept_succ, if_pos hpk]; simp
        have HNX : Hid ((keptI (fun i => keepB kd sq (x i)) (j + 1)).length = q + 1) := hnx
        have R7 : (stN w6 g (q * layRec.sz) [.int .i64 (x j).kind, .int .i64 (x j).seq, .string (x j).name, .int .i64 (x j).length, .int .i64 (x j).group, .int .i64 (x j).row, .slice ao6 (x j).rows.1 cap6, .slice ao7 (x j).data.1 cap7, .slice ao8 (x j).delta.1 cap8]).ownsRow 0 43 layRec.sz (.slice (some ⟨g, 0, none⟩) n cap) n (catN n (mixF (fun i => keepB kd sq (x i)) (j + 1) ce)) := by
          have hr := row_stN [.int .i64 (x j).kind, .int .i64 (x j).seq, .string (x j).name, .int .i64 (x j).length, .int .i64 (x j).group, .int .i64 (x j).row, .slice ao6 (x j).rows.1 cap6, .slice ao7 (x j).data.1 cap7, .slice ao8 (x j).delta.1 cap8] w6 (q * layRec.sz) _ S6.row
          rw [catN_setL S6.lens hqn rfl] at hr
          rw [catN_congr (g := (mixF (fun i => keepB kd sq (x i)) (j + 1) ce)) (fun m _ => by
            have hpk : (fun i => keepB kd sq (x i)) j = true := HT.out
            have := mix_keep (p := (fun i => keepB kd sq (x i))) (j := j) ce hpk m
            rw [HCE.out, ← hq] at this
            exact this)] at hr
          exact hr
        have HR7 : Hid ((stN w6 g (q * layRec.sz) [.int .i64 (x j).kind, .int .i64 (x j).seq, .string (x j).name, .int .i64 (x j).length, .int .i64 (x j).group, .int .i64 (x j).row, .slice ao6 (x j).rows.1 cap6, .slice ao7 (x j).data.1 cap7, .slice ao8 (x j).delta.1 cap8]).ownsRow 0 43 layRec.sz (.slice (some ⟨g, 0, none⟩) n cap) n (catN n (mixF (fun i => keepB kd sq (x i)) (j + 1) ce))) := R7
        have C7 : Hid (ChgL [g] w (stN w6 g (q * layRec.sz) [.int .i64 (x j).kind, .int .i64 (x j).seq, .string (x j).name, .int .i64 (x j).length, .int .i64 (x j).group, .int .i64 (x j).row, .slice ao6 (x j).rows.1 cap6, .slice ao7 (x j).data.1 cap7, .slice ao8 (x j).delta.1 cap8])) := C6.out.trans ⟨(stN_rest g _ w6 _).1, (stN_rest g _ w6 _).2.1, (stN_rest g _ w6 _).2.2, Nat.le_of_eq (stN_size g _ w6 _).symm, fun b _ hb => stN_heap g b (fun hh => hb (by simp [hh])) _ w6 _⟩
        have zq : IntKind.i64.wrap ((q : Int) + 1) = (q : Int) + 1 := by rw [IntKind.wrap_i64]; omega
        clear S6 V6 hq hso hqc hnx R7
        go_wp2
        go_roundw
        case rel =>
          refine ⟨j + 1, by omega, by omega, by go_num, by rw [HNX.out]; simp, HR7.out, C7.out⟩
        case measure => simp [intOf]; omega
    · obtain rfl : j = n := by omega
      obtain ⟨q, hq⟩ : ∃ q, q = (keptI (fun i => keepB kd sq (x i)) (j)).length := ⟨_, rfl⟩
      have HQ : Hid (q = (keptI (fun i => keepB kd sq (x i)) (j)).length) := hq
      have S5 := mix_own h.out HND.out (fun i => keepB kd sq (x i)) j hj HCH.out HRW.out
      have hlens := S5.lens
      rcases S5.row.2 with ⟨hnn, _⟩ | ⟨g', cap', cur, he, hbg, hgg, hnc', hcm, hcs, htk⟩
      · cases hnn
      cases he
      have hqn : q < j := by omega
      obtain ⟨row, hcl, hrs, hrt⟩ := run_clearR wx 0 g (q * 9) (j - q) (cap - q) cur hgg (by omega) (by
        have h9 : cur.size = cap * 9 := hcs
        have : q * 9 + (j - q) * 9 ≤ cap * 9 := by rw [← Nat.add_mul]; exact Nat.mul_le_mul_right 9 (by omega)
        omega)
      have hf := run_rsFrom g j cap q hqn HNC.out
      have ht := fun w' => run_rsTo g j cap q (by omega) w'
      obtain ⟨W7, hW7⟩ : ∃ y, y = wx.setRow g row := ⟨_, rfl⟩
      rw [← hW7] at hcl
      have R7 : Hid (W7.ownsRow 0 43 layRec.sz (.slice (some ⟨g, 0, none⟩) q cap) q (catN q (fun i => ce (selF (fun i => keepB kd sq (x i)) j i)))) := by
        have hrow0 := row_short S5.row (Nat.le_of_lt hqn) (catN_take hlens (Nat.le_of_lt hqn))
        have e1 : catN q (mixF (fun i => keepB kd sq (x i)) (j) ce) = catN q (fun i => ce (selF (fun i => keepB kd sq (x i)) j i)) := catN_congr (fun i hi => by
          show mixF _ j ce i = _
          unfold mixF
          rw [if_pos (by rw [← hq]; exact hi)])
        rw [e1] at hrow0
        refine ⟨hrow0.1, ?_⟩
        rcases hrow0.2 with ⟨hnn, _⟩ | ⟨g2, cap2, cur2, he2, hb2, hg2, hn2, hm2, hs2, ht2⟩
        · cases hnn
        cases he2
        rw [hgg] at hg2
        cases hg2
        refine .inr ⟨g, cap, row, rfl, hb2, by rw [hW7]; exact setRow_heap wx g cur row 43 (0, 0) hgg, hn2, hm2, by rw [hrs]; exact hs2, ?_⟩
        rw [← ht2]
        exact hrt
      have C7 : Hid (ChgL [g] w W7) := by
        rw [hW7]
        exact HCH.out.trans (chgL_setRow g row)
      clear S5 hlens hgg htk hcs hcm hnc' hbg hrs hrt hW7 hless
      rw [← hq]
      clear hq
      go_wp2_with (simp only [hcl])
      go_ret
      rw [← HQ.out]
      exact ⟨rfl, R7.out, C7.out⟩
end Go.Proofs.YthdknhjaohhfiaaGreat

namespace Go.Proofs.YthdknhjaohhfiaaGreat
open Go.RowKit F256
set_option linter.unusedVariables false
set_option linter.unusedSimpArgs false
theorem own_none {w : World} {x y : Nat → RecD} {v : Value} {K : List Nat} (h : (layRec.slice 43).own w (0, x) [v] K) : (layRec.slice 43).own w (0, y) [v] K := by
  obtain ⟨v', ce, Ls, e, eK, hr, _⟩ := h
  exact ⟨v', ce, Ls, e, eK, hr, fun i hi => by cases hi⟩
theorem row_base {w : World} {lo m s : Nat} {t : TypeId} {v : Value} {xs : List Value} (h : w.ownsRow lo t s v m xs) : w.ownsRow 0 t s v m xs := by
  refine ⟨h.1, ?_⟩
  rcases h.2 with hn | ⟨g, cap, cur, e, _, rest⟩
  · exact .inl hn
  · exact .inr ⟨g, cap, cur, e, Nat.zero_le _, rest⟩
set_option maxHeartbeats 8000000 in
set_option maxRecDepth 20000 in
theorem deleteNone (ao : Option Addr) (cap : Nat) (fv : Value) (w : World) :
    Calls Tryz.prog 162 #[.slice ao 0 cap, fv] w fun e w' => e = .returned (.slice ao 0 cap) ∧ w' = w := by
  have CI : Calls Tryz.prog 198 #[.slice ao 0 cap, fv] w fun e w' => e = .returned (.int .i64 (-1)) ∧ w' = w := by
    go_enter Tryz.func198, Tryz.ntmps198
    go_wp2
    go_loop [8] (fun z => z = .int .i64 0) (fun _ => 0)
    case atStart => rfl
    case round =>
      subst hrel
      go_wp2
      go_ret
      exact ⟨rfl, rfl⟩
  have te : ((-1 : Int) == -1) = true := by decide
  go_enter Tryz.func162, Tryz.ntmps162
  go_wp2_with fail
  refine CI.mono ?_
  rintro e w1 ⟨rfl, e1⟩
  obtain rfl := e1.symm
  go_wp2
  go_ret
  exact ⟨rfl, rfl⟩
set_option maxHeartbeats 8000000 in
set_option maxRecDepth 20000 in
theorem strikeNone (ao : Option Addr) (cap : Nat) (kd sq : Int) (w : World) :
    Calls Tryz.prog 108 #[.slice ao 0 cap, .int .i64 kd, .int .i64 sq] w fun e w' => e = .returned (.slice (some ⟨w.heap.size, 0, none⟩) 0 0) ∧ w' = w.alloc (.cells #[] 43) := by
  go_enter Tryz.func108, Tryz.ntmps108
  go_wp2
  go_loopw [7, 8] (fun v z wr => z = .int .i64 0 ∧ v = .slice (some ⟨w.heap.size, 0, none⟩) 0 0 ∧ wr = w.alloc (.cells #[] 43)) (fun _ _ _ => 0)
  case atStart => exact ⟨rfl, rfl, rfl⟩
  case round =>
    obtain ⟨rfl, rfl, rfl⟩ := hrel
    go_wp2
    go_ret
    exact ⟨rfl, rfl⟩
/-- slices.DeleteFunc over an owned list of records -/
theorem delete_own {w : World} {p : Nat × (Nat → RecD)} {ao : Option Addr} {cap : Nat} {K : List Nat} (h : (layRec.slice 43).own w p [.slice ao p.1 cap] K) (nd : K.Nodup) (hn : p.1 ≤ 1048576) (a0 a1 : Nat) (kd sq : Int) (h0 : w.cell? ⟨a0, 0, none⟩ = some (.int .i64 kd)) (h1 : w.cell? ⟨a1, 0, none⟩ = some (.int .i64 sq)) (hl0 : a0 < w.heap.size) (hl1 : a1 < w.heap.size) (hk0 : a0 ∉ K) (hk1 : a1 ∉ K) :
    Calls Tryz.prog 162 #[.slice ao p.1 cap, .func (.func 163) #[] #[.pointer (some ⟨a0, 0, none⟩), .pointer (some ⟨a1, 0, none⟩)]] w fun e w' => ∃ ao' cap' K', e = .returned (.slice ao' (strikeL p kd sq).1 cap') ∧ Turn (layRec.slice 43) w K w' (strikeL p kd sq) [.slice ao' (strikeL p kd sq).1 cap'] K' := by
  by_cases h0' : p.1 = 0
  · obtain ⟨n, x⟩ := p
    simp only at h0'
    subst h0'
    refine (deleteNone ao cap _ w).mono ?_
    rintro e w' ⟨rfl, rfl⟩
    exact ⟨ao, cap, K, rfl, own_none h, nd, fun b hb => .inl hb, ChgL.refl _ _⟩
  · obtain ⟨g, cap', ce, Ls, e, eK, S⟩ := slice_form h h0'
    simp only [List.cons.injEq, Value.slice.injEq, and_true, true_and] at e
    obtain ⟨rfl, rfl⟩ := e
    subst eK
    refine (deleteStruck g cap p.1 p.2 ce Ls a0 a1 kd sq w S nd h0 h1 hl0 hl1 (fun hh => hk0 (by rw [hh]; exact List.mem_cons_self ..)) (fun hh => hk1 (by rw [hh]; exact List.mem_cons_self ..)) hn).mono ?_
    rintro e w' ⟨rfl, hr, hc⟩
    obtain ⟨s1, s2, s3⟩ := S.select nd (p := (fun i => keepB kd sq (p.2 i))) hr (fun b hb => .inl (by simpa [Value.ownBlock] using hb.symm)) (fun b hb => hc.block b (S.mem_lt b (List.mem_cons_of_mem _ hb)) (fun hm => by
      simp only [List.mem_singleton] at hm
      subst hm
      exact (List.nodup_cons.1 nd).1 hb))
    exact ⟨_, cap, _, rfl, s1, s2, s3, hc.mono (fun b hb => by simp only [List.mem_singleton] at hb; rw [hb]; exact List.mem_cons_self ..)⟩
/-- l5Strike over an owned list of records -/
theorem strike_own {w : World} {p : Nat × (Nat → RecD)} {ao : Option Addr} {cap : Nat} {K : List Nat} (h : (layRec.slice 43).own w p [.slice ao p.1 cap] K) (nd : K.Nodup) (hn : p.1 ≤ 1048576) (kd sq : Int) :
    Calls Tryz.prog 108 #[.slice ao p.1 cap, .int .i64 kd, .int .i64 sq] w fun e w' => ∃ ao' cap' K', e = .returned (.slice ao' (strikeL p kd sq).1 cap') ∧ Turn (layRec.slice 43) w K w' (strikeL p kd sq) [.slice ao' (strikeL p kd sq).1 cap'] K' := by
  by_cases h0' : p.1 = 0
  · obtain ⟨n, x⟩ := p
    simp only at h0'
    subst h0'
    refine (strikeNone ao cap kd sq w).mono ?_
    rintro e w' ⟨rfl, rfl⟩
    have hr := World.ownsRow_lit (base := 0) (e := 43) (size := layRec.sz) w #[] 0 (Nat.zero_le _) (Nat.zero_le _) (by simp)
    refine ⟨some ⟨w.heap.size, 0, none⟩, 0, [w.heap.size], rfl, ⟨_, fun _ => [], fun _ => [], rfl, by simp [Value.ownBlock, strikeL, keptI, catN_zero], ?_, fun i hi => by cases hi⟩, by simp, fun b hb => .inr ?_, ChgL.of_below ((Below.refl _ _).alloc (Nat.le_refl _) _)⟩
    · simpa [strikeL, keptI, catN_zero] using hr
    · simp only [List.mem_singleton] at hb
      subst hb
      simp
  · obtain ⟨g, cap', ce, Ls, e, eK, S⟩ := slice_form h h0'
    simp only [List.cons.injEq, Value.slice.injEq, and_true, true_and] at e
    obtain ⟨rfl, rfl⟩ := e
    subst eK
    refine (l5Strike_any g cap p.1 p.2 ce Ls kd sq w S hn).mono ?_
    rintro e w' ⟨ao', c', rfl, hr, hb⟩
    obtain ⟨s1, s2, s3⟩ := S.select nd (p := (fun i => keepB kd sq (p.2 i))) (row_base hr) (fun b hb' => .inr (hr.lt b hb').1) (fun b hb' => hb.block b (S.mem_lt b (List.mem_cons_of_mem _ hb')))
    exact ⟨ao', c', _, rfl, s1, s2, s3, ChgL.of_below hb⟩
/-- a tape whose records are struck -/
theorem tape_struck {w w1 : World} {d : TapeD} {ao ao' : Option Addr} {cap cap' : Nat} {K K' : List Nat} {kd sq : Int} {cs : List Value} (hc : cs = [.bool d.wiped, .slice ao d.recs.1 cap]) (ht : Turn (layRec.slice 43) w K w1 (strikeL d.recs kd sq) [.slice ao' (strikeL d.recs kd sq).1 cap'] K') : Turn layTape w K w1 (struckT d kd sq) (cs.set 1 (.slice ao' (strikeL d.recs kd sq).1 cap')) K' := by
  subst hc
  exact ⟨Tape_mk (struckT d kd sq) ht.own, ht.nd, ht.sub, ht.chg⟩
end Go.Proofs.YthdknhjaohhfiaaGreat
