/- What is left where records are struck; owned slices of which some elements are keptI. -/
import Derived.Test.YtdgbnongbmgdcaaGreatZxM
import Derived.Test.YtdgbnongbmgdcaaGreatZwK
import Derived.Test.YtdgbnongbmgdcaaGreatZwJ
import Derived.Deep.DeepCutAuto
import Derived.Test.YtdgbnongbmgdcaaGreatZyQ
import Derived.BigQuiet
import Derived.Deep.QuietTactic
import Derived.Test.YtdgbnongbmgdcaaGreatZwE
import Derived.Test.YtdgbnongbmgdcaaGreatZwI
import Derived.Test.YtdgbnongbmgdcaaGreatZwG
import Derived.Test.YtdgbnongbmgdcaaGreatRows
import Derived.Test.YtdgbnongbmgdcaaGreatOpensW
import Derived.Test.YtdgbnongbmgdcaaGreatZwB
import Derived.Test.YtdgbnongbmgdcaaGreatZwC
import Derived.Deep.RegionLaw
namespace Go.Proofs.YtdgbnongbmgdcaaGreat
open Go.RowKit F256
set_option linter.unusedVariables false
def keepB (kd sq : Int) (r : RecD) : Bool := !(r.kind == kd && r.seq == sq)
/-- the places of those that are keptI, of the first n -/
def keptI (p : Nat → Bool) (n : Nat) : List Nat := (List.range n).filter p
theorem kept_succ (p : Nat → Bool) (n : Nat) : keptI p (n + 1) = keptI p n ++ (if p n then [n] else []) := by
  unfold keptI
  rw [List.range_succ, List.filter_append]
  cases h : p n <;> simp [h]
theorem kept_lt {p : Nat → Bool} {n i : Nat} (h : i ∈ keptI p n) : i < n := by
  unfold keptI at h
  exact List.mem_range.1 (List.mem_filter.1 h).1
theorem kept_le (p : Nat → Bool) (n : Nat) : (keptI p n).length ≤ n := by
  have := List.length_filter_le p (List.range n)
  unfold keptI
  simpa using this
theorem kept_nodup (p : Nat → Bool) (n : Nat) : (keptI p n).Nodup := List.Pairwise.filter _ List.nodup_range
def selF (p : Nat → Bool) (n : Nat) : Nat → Nat := fun m => (keptI p n).getD m 0
theorem selF_mem {p : Nat → Bool} {n m : Nat} (h : m < (keptI p n).length) : selF p n m ∈ keptI p n := by
  unfold selF
  rw [List.getD_eq_getElem?_getD, List.getElem?_eq_getElem h]
  exact List.getElem_mem h
theorem selF_lt {p : Nat → Bool} {n m : Nat} (h : m < (keptI p n).length) : selF p n m < n := kept_lt (selF_mem h)
theorem selF_inj {p : Nat → Bool} {n a b : Nat} (ha : a < (keptI p n).length) (hb : b < (keptI p n).length) (h : selF p n a = selF p n b) : a = b := by
  unfold selF at h
  rw [List.getD_eq_getElem?_getD, List.getD_eq_getElem?_getD, List.getElem?_eq_getElem ha, List.getElem?_eq_getElem hb] at h
  have hp := List.pairwise_iff_getElem.1 (kept_nodup p n)
  rcases Nat.lt_trichotomy a b with c | c | c
  · exact absurd h (hp a b ha hb c)
  · exact c
  · exact absurd h.symm (hp b a hb ha c)
/-- the first k of the keptI places do not hang on what comes behind -/
theorem selF_more {p : Nat → Bool} {n m : Nat} (h : m < (keptI p n).length) : selF p (n + 1) m = selF p n m := by
  unfold selF
  rw [kept_succ, List.getD_eq_getElem?_getD, List.getD_eq_getElem?_getD, List.getElem?_append_left h]
theorem selF_last {p : Nat → Bool} {n : Nat} (h : p n = true) : selF p (n + 1) (keptI p n).length = n := by
  unfold selF
  rw [kept_succ, List.getD_eq_getElem?_getD, List.getElem?_append_right (Nat.le_refl _), Nat.sub_self, if_pos h]
  rfl
theorem cat_sel {β : Type} {p : Nat → Bool} {n : Nat} {ce : Nat → List β} (h : p n = true) : catN (keptI p (n + 1)).length (fun i => ce (selF p (n + 1) i)) = catN (keptI p n).length (fun i => ce (selF p n i)) ++ ce n := by
  have e : (keptI p (n + 1)).length = (keptI p n).length + 1 := by rw [kept_succ, if_pos h]; simp
  rw [e, catN_succ, catN_congr (g := fun i => ce (selF p n i)) (fun i hi => by rw [selF_more hi])]
  rw [selF_last h]
theorem kept_skip {p : Nat → Bool} {n : Nat} (h : p n = false) : keptI p (n + 1) = keptI p n := by rw [kept_succ, if_neg (by simp [h])]; simp
section
variable {α : Type} {E : Lay α} {t : TypeId} {w w' : World} {g cap n : Nat} {x : Nat → α} {ce : Nat → List Value} {Ls : Nat → List Nat}
/-- of an owned slice some elements are keptI, in a row of its own or in the old one -/
theorem SlO.select (h : SlO E t w g cap n x ce Ls) (nd : (g :: catN n Ls).Nodup) {p : Nat → Bool} {v : Value} (hr : w'.ownsRow 0 t E.sz v (keptI p n).length (catN (keptI p n).length (fun i => ce (selF p n i)))) (hv : ∀ b, v.ownBlock = some b → b = g ∨ w.heap.size ≤ b) (hk : ∀ b, b ∈ catN n Ls → w'.heap[b]? = w.heap[b]?) :
    (E.slice t).own w' ((keptI p n).length, fun i => x (selF p n i)) [v] (v.ownBlock.toList ++ catN (keptI p n).length (fun i => Ls (selF p n i))) ∧ (v.ownBlock.toList ++ catN (keptI p n).length (fun i => Ls (selF p n i))).Nodup ∧ ∀ b, b ∈ v.ownBlock.toList ++ catN (keptI p n).length (fun i => Ls (selF p n i)) → b ∈ g :: catN n Ls ∨ (w.heap.size ≤ b ∧ b < w'.heap.size) := by
  obtain ⟨n1, n2⟩ := List.nodup_cons.1 nd
  have hin : ∀ b, b ∈ catN (keptI p n).length (fun i => Ls (selF p n i)) → b ∈ catN n Ls := fun b hb => by
    obtain ⟨i, hi, hb⟩ := mem_catN.1 hb
    exact mem_catN.2 ⟨selF p n i, selF_lt hi, hb⟩
  refine ⟨⟨v, fun i => ce (selF p n i), fun i => Ls (selF p n i), rfl, rfl, hr, fun i hi => ?_⟩, ?_, fun b hb => ?_⟩
  · exact E.own_kept (h.each _ (selF_lt hi)) (fun b hb => hk b (mem_catN.2 ⟨_, selF_lt hi, hb⟩))
  · refine List.nodup_append.2 ⟨by cases v.ownBlock <;> simp, catN_nodup (fun k hk' => catN_each n2 (selF_lt hk')) (fun k j hk' hj hne b hb => cat_apart n2 (selF_lt hj) (selF_lt hk') (fun e => hne (selF_inj hk' hj e)) hb), fun a ha b hb hab => ?_⟩
    subst hab
    have ha' : v.ownBlock = some a := by simpa using ha
    rcases hv a ha' with e | e
    · subst e; exact n1 (hin _ hb)
    · have := h.mem_lt a (List.mem_cons_of_mem _ (hin _ hb)); omega
  · rcases List.mem_append.1 hb with hb | hb
    · have hb' : v.ownBlock = some b := by simpa using hb
      rcases hv b hb' with e | e
      · exact .inl (by rw [e]; exact List.mem_cons_self ..)
      · exact .inr ⟨e, (hr.lt b hb').2⟩
    · exact .inl (List.mem_cons_of_mem _ (hin b hb))
end
def strikeL (p : Nat × (Nat → RecD)) (kd sq : Int) : Nat × (Nat → RecD) := ((keptI (fun i => keepB kd sq (p.2 i)) p.1).length, fun m => p.2 (selF (fun i => keepB kd sq (p.2 i)) p.1 m))
def struckT (x : TapeD) (kd sq : Int) : TapeD := { x with recs := strikeL x.recs kd sq }
end Go.Proofs.YtdgbnongbmgdcaaGreat

namespace Go.Proofs.YtdgbnongbmgdcaaGreat
open Go.RowKit F256
set_option linter.unusedVariables false
set_option linter.unusedSimpArgs false
/-- append(v, r): v a row of the call's own, r's cells in a block of their own -/
theorem run_appendRow {E : Lay RecD} {T e : TypeId} {by_ : Nat} {zs : List Value} (I : ElInfo E T e by_ zs) (ty : TypeId) {w : World} {lo m : Nat} {v : Value} {xs cs : List Value} (hr : w.ownsRow lo e E.sz v m xs) (hcs : cs.length = E.sz) (h1 : ∀ u, u ∈ cs → u.oneCell' = true) (b c : Nat) (hcell : ∀ j, j < E.sz → w.cell? ⟨b, j, none⟩ = cs[j]?) (hn : m ≤ 10000000) (hlo : lo ≤ w.heap.size) :
    ∃ ao cap w', (Builtin.append_ #[T, T] ty #[v, .slice (some ⟨b, 0, none⟩) 1 c]).run Tryz.prog w = .ok (.slice ao (m + 1) cap) w' ∧ w'.ownsRow lo e E.sz (.slice ao (m + 1) cap) (m + 1) (xs ++ cs) ∧ Below lo w w' := by
  obtain ⟨hs, hzs, hu, hi, few⟩ := I
  obtain ⟨i0, hi0⟩ : ∃ i0, Tryz.prog.info? e = some i0 := by
    cases h : Tryz.prog.info? e with
    | none => rw [h] at hi; cases hi
    | some i0 => exact ⟨i0, rfl⟩
  rw [hi0] at hi
  simp only [Option.map_some, Option.some.injEq, Prod.mk.injEq] at hi
  obtain ⟨g1, g2, g3⟩ := hi
  obtain ⟨z, hz, hzc⟩ : ∃ z, i0.zero = some z ∧ z.cells = zs.toArray := by
    cases h : i0.zero with
    | none => rw [h] at g1; cases g1
    | some z => rw [h] at g1; exact ⟨z, rfl, by simpa using g1⟩
  obtain ⟨v', w', hrun, r1, r2, r3, r4⟩ := run_append_own_at (P := Tryz.prog) w lo T ty e i0 z E.sz by_ hu hi0 hz g2 g3 (by rw [hzc]; simpa using hzs) hs v m xs hr ⟨b, 0, none⟩ 1 c cs (by rw [hcs, Nat.one_mul])
    (fun j u hj => by
      have hlt : j < cs.length := (List.getElem?_eq_some_iff.1 hj).1
      have := hcell j (by omega)
      rw [hj] at this
      rw [add_o]
      exact this) h1 (by unfold maxLen; omega) (by
        have : (m + 1) * by_ ≤ 10000001 * 1000 := Nat.mul_le_mul (by omega) few
        omega) hlo
  have hf : ∃ ao cap, v' = .slice ao (m + 1) cap := by
    rcases r1.2 with ⟨rfl, h0⟩ | ⟨g, cap, cur, rfl, _⟩
    · omega
    · exact ⟨_, _, rfl⟩
  obtain ⟨ao, cap, rfl⟩ := hf
  exact ⟨ao, cap, w', hrun, r1, (Below.refl _ _).grown r2 hlo (fun k hk => (hr.lt k hk).1)⟩
set_option maxHeartbeats 16000000 in
set_option maxRecDepth 20000 in
theorem l5Strike_any (g cap n : Nat) (x : Nat → RecD) (ce : Nat → List Value) (Ls : Nat → List Nat) (kd sq : Int) (w : World) (hO : SlO layRec 78 w g cap n x ce Ls) (hn : n ≤ 1048576) :
    Calls Tryz.prog 131 #[.slice (some ⟨g, 0, none⟩) n cap, .int .i64 kd, .int .i64 sq] w fun e w' => ∃ ao c, e = .returned (.slice ao (keptI (fun i => keepB kd sq (x i)) n).length c) ∧ w'.ownsRow w.heap.size 78 layRec.sz (.slice ao (keptI (fun i => keepB kd sq (x i)) n).length c) (keptI (fun i => keepB kd sq (x i)) n).length (catN (keptI (fun i => keepB kd sq (x i)) n).length (fun i => ce (selF (fun i => keepB kd sq (x i)) n i))) ∧ Below w.heap.size w w' := by
  have h : Hid (SlO layRec 78 w g cap n x ce Ls) := hO
  have hg := hO.lt
  clear hO
  go_enter Tryz.func131, Tryz.ntmps131
  go_wp2
  go_loopw [7, 8] (fun v z wr => ∃ (k : Nat) (ao : Option Addr) (c : Nat), k ≤ n ∧ z = .int .i64 k ∧ v = .slice ao (keptI (fun i => keepB kd sq (x i)) k).length c ∧ wr.ownsRow w.heap.size 78 layRec.sz (.slice ao (keptI (fun i => keepB kd sq (x i)) k).length c) (keptI (fun i => keepB kd sq (x i)) k).length (catN (keptI (fun i => keepB kd sq (x i)) k).length (fun i => ce (selF (fun i => keepB kd sq (x i)) k i))) ∧ Below w.heap.size w wr) (fun _ z _ => n - (intOf z).toNat)
  case atStart =>
    refine ⟨0, some ⟨w.heap.size, 0, none⟩, 0, Nat.zero_le _, rfl, rfl, ?_, (Below.refl _ _).alloc (Nat.le_refl _) _⟩
    have h0 := World.ownsRow_lit (base := w.heap.size) (e := 78) (size := layRec.sz) w #[] 0 (Nat.le_refl _) (Nat.zero_le _) (by simp)
    simpa [keptI, catN_zero] using h0
  case round =>
    obtain ⟨k, ao, c, hk, rfl, rfl, hrw, hbl⟩ := hrel
    obtain ⟨wx, rfl⟩ : ∃ y, y = wr := ⟨_, rfl⟩
    have HRW : Hid (wx.ownsRow w.heap.size 78 layRec.sz (.slice ao (keptI (fun i => keepB kd sq (x i)) k).length c) (keptI (fun i => keepB kd sq (x i)) k).length (catN (keptI (fun i => keepB kd sq (x i)) k).length (fun i => ce (selF (fun i => keepB kd sq (x i)) k i)))) := hrw
    have HBL : Hid (Below w.heap.size w wx) := hbl
    have zx := hbl.size
    by_cases hlt : k < n
    · obtain ⟨ao6, cap6, ao7, cap7, ao8, cap8, K6, K7, K8, eR, -⟩ := Rec_own (h.out.each k hlt)
      have HCE : Hid (ce k = [.int .i64 (x k).kind, .int .i64 (x k).seq, .string (x k).name, .int .i64 (x k).length, .int .i64 (x k).group, .int .i64 (x k).row, .slice ao6 (x k).rows.1 cap6, .slice ao7 (x k).data.1 cap7, .slice ao8 (x k).delta.1 cap8]) := eR
      have S5 := h.out.kept (w' := wx) (fun b hb => hbl.block b (h.out.mem_lt b hb))
      have s_0 : wx.cell? ⟨g, k * 9, none⟩ = some (.int .i64 (x k).kind) := (S5.cell hlt (j := 0) (by decide)).trans (by rw [eR]; rfl)
      have s_1 : wx.cell? ⟨g, k * 9 + 1, none⟩ = some (.int .i64 (x k).seq) := (S5.cell hlt (j := 1) (by decide)).trans (by rw [eR]; rfl)
      have s_2 : wx.cell? ⟨g, k * 9 + 2, none⟩ = some (.string (x k).name) := (S5.cell hlt (j := 2) (by decide)).trans (by rw [eR]; rfl)
      have s_3 : wx.cell? ⟨g, k * 9 + 3, none⟩ = some (.int .i64 (x k).length) := (S5.cell hlt (j := 3) (by decide)).trans (by rw [eR]; rfl)
      have s_4 : wx.cell? ⟨g, k * 9 + 4, none⟩ = some (.int .i64 (x k).group) := (S5.cell hlt (j := 4) (by decide)).trans (by rw [eR]; rfl)
      have s_5 : wx.cell? ⟨g, k * 9 + 5, none⟩ = some (.int .i64 (x k).row) := (S5.cell hlt (j := 5) (by decide)).trans (by rw [eR]; rfl)
      have s_6 : wx.cell? ⟨g, k * 9 + 6, none⟩ = some (.slice ao6 (x k).rows.1 cap6) := (S5.cell hlt (j := 6) (by decide)).trans (by rw [eR]; rfl)
      have s_7 : wx.cell? ⟨g, k * 9 + 7, none⟩ = some (.slice ao7 (x k).data.1 cap7) := (S5.cell hlt (j := 7) (by decide)).trans (by rw [eR]; rfl)
      have s_8 : wx.cell? ⟨g, k * 9 + 8, none⟩ = some (.slice ao8 (x k).delta.1 cap8) := (S5.cell hlt (j := 8) (by decide)).trans (by rw [eR]; rfl)
      have i1 : (0 : Int) ≤ (k : Int) := by omega
      have i2 : (k : Int) < (n : Int) := by omega
      clear hrw hbl S5 eR
      by_cases hkd : (x k).kind = kd
      · by_cases hsq : (x k).seq = sq
        · have te1 : ((x k).kind != kd) = false := by simpa using hkd
          have te2 : ((x k).seq != sq) = false := by simpa using hsq
          have hpk : (fun i => keepB kd sq (x i)) k = false := by show keepB kd sq (x k) = false; unfold keepB; simp [hkd, hsq]
          have HSK : Hid (keptI (fun i => keepB kd sq (x i)) (k + 1) = keptI (fun i => keepB kd sq (x i)) k) := kept_skip hpk
          have HSE : Hid (∀ i, i < (keptI (fun i => keepB kd sq (x i)) k).length → selF (fun i => keepB kd sq (x i)) (k + 1) i = selF (fun i => keepB kd sq (x i)) k i) := fun i hi => selF_more hi
          clear hpk hkd hsq
          go_wp2
          go_roundw
          case rel =>
            refine ⟨k + 1, ao, c, by omega, by go_num, by rw [HSK.out], ?_, HBL.out⟩
            rw [HSK.out, catN_congr (g := fun i => ce (selF (fun i => keepB kd sq (x i)) k i)) (fun i hi => by rw [HSE.out i hi])]
            exact HRW.out
          case measure => simp [intOf]; omega
        · have te1 : ((x k).kind != kd) = false := by simpa using hkd
          have te2 : ((x k).seq != sq) = true := by simpa using hsq
          have HS : Hid ((x k).seq ≠ sq) := hsq
          have HK : Hid True := trivial
          clear hkd hsq
          skip
          have hpk : (fun i => keepB kd sq (x i)) k = true := by show keepB kd sq (x k) = true; unfold keepB; simp only [Bool.not_eq_true', Bool.and_eq_false_iff]; first | exact .inl (by simpa using HK.out) | exact .inr (by simpa using HS.out)
          have hnext : (keptI (fun i => keepB kd sq (x i)) (k + 1)).length = (keptI (fun i => keepB kd sq (x i)) k).length + 1 := by rw [kept_succ, if_pos hpk]; simp
          have hcat : catN (keptI (fun i => keepB kd sq (x i)) (k + 1)).length (fun i => ce (selF (fun i => keepB kd sq (x i)) (k + 1) i)) = catN (keptI (fun i => keepB kd sq (x i)) k).length (fun i => ce (selF (fun i => keepB kd sq (x i)) k i)) ++ ce k := cat_sel hpk
          have HNX : Hid ((keptI (fun i => keepB kd sq (x i)) (k + 1)).length = (keptI (fun i => keepB kd sq (x i)) k).length + 1) := hnext
          have HCT : Hid (catN (keptI (fun i => keepB kd sq (x i)) (k + 1)).length (fun i => ce (selF (fun i => keepB kd sq (x i)) (k + 1) i)) = catN (keptI (fun i => keepB kd sq (x i)) k).length (fun i => ce (selF (fun i => keepB kd sq (x i)) k i)) ++ ce k) := hcat
          have bB : Below w.heap.size w (wx.alloc (.cells #[.int .i64 (x k).kind, .int .i64 (x k).seq, .string (x k).name, .int .i64 (x k).length, .int .i64 (x k).group, .int .i64 (x k).row, .slice ao6 (x k).rows.1 cap6, .slice ao7 (x k).data.1 cap7, .slice ao8 (x k).delta.1 cap8] 78)) := HBL.out.alloc zx _
          obtain ⟨ao', c', w4, hrun, r4, b4⟩ := run_appendRow el_Rec 94 (HRW.out.alloc (.cells #[.int .i64 (x k).kind, .int .i64 (x k).seq, .string (x k).name, .int .i64 (x k).length, .int .i64 (x k).group, .int .i64 (x k).row, .slice ao6 (x k).rows.1 cap6, .slice ao7 (x k).data.1 cap7, .slice ao8 (x k).delta.1 cap8] 78)) (cs := ce k) (by rw [HCE.out]; rfl) (fun u hu => layRec.own_one (h.out.each k hlt) u hu) wx.heap.size 1 (fun j hj => by rw [HCE.out]; exact cells_new wx [.int .i64 (x k).kind, .int .i64 (x k).seq, .string (x k).name, .int .i64 (x k).length, .int .i64 (x k).group, .int .i64 (x k).row, .slice ao6 (x k).rows.1 cap6, .slice ao7 (x k).data.1 cap7, .slice ao8 (x k).delta.1 cap8] 78 j) (by have := kept_le (fun i => keepB kd sq (x i)) k; omega) (by simp; omega)
          clear hpk hnext hcat
          go_wp2_with (at_builtin; refine wp_run2 rfl (.tmp 32) (.tmp 37) rfl ?_ ?_ hrun ?_; (simp [Act.eval]); (simp [Act.eval]))
          go_roundw
          case rel => exact ⟨k + 1, ao', c', by omega, by go_num, by rw [HNX.out], by rw [HCT.out, HNX.out]; exact r4, bB.trans b4⟩
          case measure => simp [intOf]; omega
      · have te1 : ((x k).kind != kd) = true := by simpa using hkd
        have HK : Hid ((x k).kind ≠ kd) := hkd
        have HS : Hid True := trivial
        clear hkd
        skip
        have hpk : (fun i => keepB kd sq (x i)) k = true := by show keepB kd sq (x k) = true; unfold keepB; simp only [Bool.not_eq_true', Bool.and_eq_false_iff]; first | exact .inl (by simpa using HK.out) | exact .inr (by simpa using HS.out)
        have hnext : (keptI (fun i => keepB kd sq (x i)) (k + 1)).length = (keptI (fun i => keepB kd sq (x i)) k).length + 1 := by rw [kept_succ, if_pos hpk]; simp
        have hcat : catN (keptI (fun i => keepB kd sq (x i)) (k + 1)).length (fun i => ce (selF (fun i => keepB kd sq (x i)) (k + 1) i)) = catN (keptI (fun i => keepB kd sq (x i)) k).length (fun i => ce (selF (fun i => keepB kd sq (x i)) k i)) ++ ce k := cat_sel hpk
        have HNX : Hid ((keptI (fun i => keepB kd sq (x i)) (k + 1)).length = (keptI (fun i => keepB kd sq (x i)) k).length + 1) := hnext
        have HCT : Hid (catN (keptI (fun i => keepB kd sq (x i)) (k + 1)).length (fun i => ce (selF (fun i => keepB kd sq (x i)) (k + 1) i)) = catN (keptI (fun i => keepB kd sq (x i)) k).length (fun i => ce (selF (fun i => keepB kd sq (x i)) k i)) ++ ce k) := hcat
        have bB : Below w.heap.size w (wx.alloc (.cells #[.int .i64 (x k).kind, .int .i64 (x k).seq, .string (x k).name, .int .i64 (x k).length, .int .i64 (x k).group, .int .i64 (x k).row, .slice ao6 (x k).rows.1 cap6, .slice ao7 (x k).data.1 cap7, .slice ao8 (x k).delta.1 cap8] 78)) := HBL.out.alloc zx _
        obtain ⟨ao', c', w4, hrun, r4, b4⟩ := run_appendRow el_Rec 94 (HRW.out.alloc (.cells #[.int .i64 (x k).kind, .int .i64 (x k).seq, .string (x k).name, .int .i64 (x k).length, .int .i64 (x k).group, .int .i64 (x k).row, .slice ao6 (x k).rows.1 cap6, .slice ao7 (x k).data.1 cap7, .slice ao8 (x k).delta.1 cap8] 78)) (cs := ce k) (by rw [HCE.out]; rfl) (fun u hu => layRec.own_one (h.out.each k hlt) u hu) wx.heap.size 1 (fun j hj => by rw [HCE.out]; exact cells_new wx [.int .i64 (x k).kind, .int .i64 (x k).seq, .string (x k).name, .int .i64 (x k).length, .int .i64 (x k).group, .int .i64 (x k).row, .slice ao6 (x k).rows.1 cap6, .slice ao7 (x k).data.1 cap7, .slice ao8 (x k).delta.1 cap8] 78 j) (by have := kept_le (fun i => keepB kd sq (x i)) k; omega) (by simp; omega)
        clear hpk hnext hcat
        go_wp2_with (at_builtin; refine wp_run2 rfl (.tmp 32) (.tmp 37) rfl ?_ ?_ hrun ?_; (simp [Act.eval]); (simp [Act.eval]))
        go_roundw
        case rel => exact ⟨k + 1, ao', c', by omega, by go_num, by rw [HNX.out], by rw [HCT.out, HNX.out]; exact r4, bB.trans b4⟩
        case measure => simp [intOf]; omega
    · obtain rfl : k = n := by omega
      clear hrw hbl
      go_wp2
      go_ret
      exact ⟨ao, c, rfl, HRW.out, HBL.out⟩
end Go.Proofs.YtdgbnongbmgdcaaGreat

namespace Go.Proofs.YtdgbnongbmgdcaaGreat
open Go.RowKit F256
set_option linter.unusedVariables false
set_option linter.unusedSimpArgs false
set_option maxHeartbeats 8000000 in
set_option maxRecDepth 20000 in
theorem struck_any (a0 a1 : Nat) (kd sq : Int) (r0 r1 : Int) (r2 : ByteArray) (r3 r4 r5 : Int) (r6 : Option Addr) (r7 r8 : Nat) (r9 : Option Addr) (r10 r11 : Nat) (r12 : Option Addr) (r13 r14 : Nat) (w : World) (h0 : w.cell? ⟨a0, 0, none⟩ = some (.int .i64 kd)) (h1 : w.cell? ⟨a1, 0, none⟩ = some (.int .i64 sq)) (hl0 : a0 < w.heap.size) (hl1 : a1 < w.heap.size) :
    Calls Tryz.prog 192 #[.agg #[.int .i64 r0, .int .i64 r1, .string r2, .int .i64 r3, .int .i64 r4, .int .i64 r5, .slice r6 r7 r8, .slice r9 r10 r11, .slice r12 r13 r14], .pointer (some ⟨a0, 0, none⟩), .pointer (some ⟨a1, 0, none⟩)] w fun e w' => e = .returned (.bool (r0 == kd && r1 == sq)) ∧ Below w.heap.size w w' := by
  have B := one_new w #[.int .i64 r0, .int .i64 r1, .string r2, .int .i64 r3, .int .i64 r4, .int .i64 r5, .slice r6 r7 r8, .slice r9 r10 r11, .slice r12 r13 r14] 78
  have x0 : (w.alloc (.cells #[.int .i64 r0, .int .i64 r1, .string r2, .int .i64 r3, .int .i64 r4, .int .i64 r5, .slice r6 r7 r8, .slice r9 r10 r11, .slice r12 r13 r14] 78)).cell? ⟨w.heap.size, 0, none⟩ = some (.int .i64 r0) := B.b1.cell 0
  have x1 : (w.alloc (.cells #[.int .i64 r0, .int .i64 r1, .string r2, .int .i64 r3, .int .i64 r4, .int .i64 r5, .slice r6 r7 r8, .slice r9 r10 r11, .slice r12 r13 r14] 78)).cell? ⟨w.heap.size, 1, none⟩ = some (.int .i64 r1) := B.b1.cell 1
  have c0 : (w.alloc (.cells #[.int .i64 r0, .int .i64 r1, .string r2, .int .i64 r3, .int .i64 r4, .int .i64 r5, .slice r6 r7 r8, .slice r9 r10 r11, .slice r12 r13 r14] 78)).cell? ⟨a0, 0, none⟩ = some (.int .i64 kd) := (B.bel.cell (p := ⟨a0, 0, none⟩) hl0).trans h0
  have c1 : (w.alloc (.cells #[.int .i64 r0, .int .i64 r1, .string r2, .int .i64 r3, .int .i64 r4, .int .i64 r5, .slice r6 r7 r8, .slice r9 r10 r11, .slice r12 r13 r14] 78)).cell? ⟨a1, 0, none⟩ = some (.int .i64 sq) := (B.bel.cell (p := ⟨a1, 0, none⟩) hl1).trans h1
  have HB : Hid (Below w.heap.size w (w.alloc (.cells #[.int .i64 r0, .int .i64 r1, .string r2, .int .i64 r3, .int .i64 r4, .int .i64 r5, .slice r6 r7 r8, .slice r9 r10 r11, .slice r12 r13 r14] 78))) := B.bel
  clear h0 h1 B
  by_cases hk : r0 = kd
  · subst hk
    by_cases hs : r1 = sq
    · subst hs
      have e1 : (r0 == r0) = true := by simp
      have e2 : (r1 == r1) = true := by simp
      go_enter Tryz.func192, Tryz.ntmps192
      go_wp2
      go_ret
      exact ⟨by simp, HB.out⟩
    · have e1 : (r0 == r0) = true := by simp
      have e2 : (r1 == sq) = false := by simpa using hs
      clear hs
      go_enter Tryz.func192, Tryz.ntmps192
      go_wp2
      go_ret
      exact ⟨by simp [e2], HB.out⟩
  · have e1 : (r0 == kd) = false := by simpa using hk
    clear hk
    go_enter Tryz.func192, Tryz.ntmps192
    go_wp2
    go_ret
    exact ⟨by simp [e1], HB.out⟩
theorem below_c0 {w w' : World} {B a : Nat} {v : Value} (h : Below B w w') (ha : a < B) (hc : w.cell? ⟨a, 0, none⟩ = some v) : w'.cell? ⟨a, 0, none⟩ = some v := (h.cell (p := ⟨a, 0, none⟩) ha).trans hc
set_option maxHeartbeats 8000000 in
set_option maxRecDepth 20000 in
/-- the first that is struck, or -1 -/
theorem indexStruck (g cap n : Nat) (x : Nat → RecD) (ce : Nat → List Value) (Ls : Nat → List Nat) (a0 a1 : Nat) (kd sq : Int) (w : World) (hO : SlO layRec 78 w g cap n x ce Ls) (h0 : w.cell? ⟨a0, 0, none⟩ = some (.int .i64 kd)) (h1 : w.cell? ⟨a1, 0, none⟩ = some (.int .i64 sq)) (hl0 : a0 < w.heap.size) (hl1 : a1 < w.heap.size) (hn : n ≤ 1048576) :
    Calls Tryz.prog 222 #[.slice (some ⟨g, 0, none⟩) n cap, .func (.func 192) #[] #[.pointer (some ⟨a0, 0, none⟩), .pointer (some ⟨a1, 0, none⟩)]] w fun e w' => ((e = .returned (.int .i64 (-1)) ∧ ∀ i, i < n → (fun i => keepB kd sq (x i)) i = true) ∨ ∃ i : Nat, i < n ∧ e = .returned (.int .i64 (i : Int)) ∧ (fun i => keepB kd sq (x i)) i = false ∧ ∀ t, t < i → (fun i => keepB kd sq (x i)) t = true) ∧ Below w.heap.size w w' := by
  have h : Hid (SlO layRec 78 w g cap n x ce Ls) := hO
  have H0 : Hid (w.cell? ⟨a0, 0, none⟩ = some (.int .i64 kd)) := h0
  have H1 : Hid (w.cell? ⟨a1, 0, none⟩ = some (.int .i64 sq)) := h1
  clear hO h0 h1
  go_enter Tryz.func222, Tryz.ntmps222
  go_wp2
  go_loopw [8] (fun z wr => ∃ k : Nat, k ≤ n ∧ z = .int .i64 k ∧ (∀ t, t < k → (fun i => keepB kd sq (x i)) t = true) ∧ Below w.heap.size w wr) (fun z _ => n - (intOf z).toNat)
  case atStart => exact ⟨0, Nat.zero_le _, rfl, fun t ht => by omega, Below.refl _ _⟩
  case round =>
    obtain ⟨k, hk, rfl, hall, hbl⟩ := hrel
    obtain ⟨wx, rfl⟩ : ∃ y, y = wr := ⟨_, rfl⟩
    have HALL : Hid (∀ t, t < k → (fun i => keepB kd sq (x i)) t = true) := hall
    have HBL : Hid (Below w.heap.size w wx) := hbl
    have zx := hbl.size
    clear hall
    by_cases hlt : k < n
    · obtain ⟨ao6, cap6, ao7, cap7, ao8, cap8, K6, K7, K8, eR, -⟩ := Rec_own (h.out.each k hlt)
      have S5 := h.out.kept (w' := wx) (fun b hb => hbl.block b (h.out.mem_lt b hb))
      have s_0 : wx.cell? ⟨g, k * 9, none⟩ = some (.int .i64 (x k).kind) := (S5.cell hlt (j := 0) (by decide)).trans (by rw [eR]; rfl)
      have s_1 : wx.cell? ⟨g, k * 9 + 1, none⟩ = some (.int .i64 (x k).seq) := (S5.cell hlt (j := 1) (by decide)).trans (by rw [eR]; rfl)
      have s_2 : wx.cell? ⟨g, k * 9 + 2, none⟩ = some (.string (x k).name) := (S5.cell hlt (j := 2) (by decide)).trans (by rw [eR]; rfl)
      have s_3 : wx.cell? ⟨g, k * 9 + 3, none⟩ = some (.int .i64 (x k).length) := (S5.cell hlt (j := 3) (by decide)).trans (by rw [eR]; rfl)
      have s_4 : wx.cell? ⟨g, k * 9 + 4, none⟩ = some (.int .i64 (x k).group) := (S5.cell hlt (j := 4) (by decide)).trans (by rw [eR]; rfl)
      have s_5 : wx.cell? ⟨g, k * 9 + 5, none⟩ = some (.int .i64 (x k).row) := (S5.cell hlt (j := 5) (by decide)).trans (by rw [eR]; rfl)
      have s_6 : wx.cell? ⟨g, k * 9 + 6, none⟩ = some (.slice ao6 (x k).rows.1 cap6) := (S5.cell hlt (j := 6) (by decide)).trans (by rw [eR]; rfl)
      have s_7 : wx.cell? ⟨g, k * 9 + 7, none⟩ = some (.slice ao7 (x k).data.1 cap7) := (S5.cell hlt (j := 7) (by decide)).trans (by rw [eR]; rfl)
      have s_8 : wx.cell? ⟨g, k * 9 + 8, none⟩ = some (.slice ao8 (x k).delta.1 cap8) := (S5.cell hlt (j := 8) (by decide)).trans (by rw [eR]; rfl)
      have i1 : (0 : Int) ≤ (k : Int) := by omega
      have i2 : (k : Int) < (n : Int) := by omega
      have CS := struck_any a0 a1 kd sq (x k).kind (x k).seq (x k).name (x k).length (x k).group (x k).row ao6 (x k).rows.1 cap6 ao7 (x k).data.1 cap7 ao8 (x k).delta.1 cap8 wx (below_c0 hbl hl0 H0.out) (below_c0 hbl hl1 H1.out) (by omega) (by omega)
      obtain ⟨t, ht⟩ : ∃ t, t = ((x k).kind == kd && (x k).seq == sq) := ⟨_, rfl⟩
      rw [← ht] at CS
      have HT : Hid ((fun i => keepB kd sq (x i)) k = !t) := by rw [ht]; rfl
      clear hbl S5 eR ht
      go_wp2_with fail
      refine CS.mono ?_
      rintro e w5 ⟨rfl, b5⟩
      have B5 : Hid (Below w.heap.size w w5) := HBL.out.trans (b5.mono zx)
      clear b5 CS
      cases t with
      | true =>
        go_wp2
        go_ret
        exact ⟨.inr ⟨k, hlt, rfl, HT.out, HALL.out⟩, B5.out⟩
      | false =>
        go_wp2
        go_roundw
        case rel => exact ⟨k + 1, by omega, by go_num, fun t ht => by
                      by_cases c : t = k
                      · rw [c]; exact HT.out
                      · exact HALL.out t (by omega), B5.out⟩
        case measure => simp [intOf]; omega
    · obtain rfl : k = n := by omega
      clear hbl
      go_wp2
      go_ret
      exact ⟨.inl ⟨rfl, HALL.out⟩, HBL.out⟩
/-- the kept ones ahead, the others as they were -/
def mixF {β : Type} (p : Nat → Bool) (j : Nat) (f : Nat → β) : Nat → β := fun m => if m < (keptI p j).length then f (selF p j m) else f m
theorem mix_at {β : Type} {p : Nat → Bool} {j m : Nat} (f : Nat → β) (h : (keptI p j).length ≤ m) : mixF p j f m = f m := by unfold mixF; rw [if_neg (by omega)]
theorem mix_skip {β : Type} {p : Nat → Bool} {j : Nat} (f : Nat → β) (h : p j = false) (m : Nat) : mixF p (j + 1) f m = mixF p j f m := by
  unfold mixF
  rw [kept_skip h]
  by_cases c : m < (keptI p j).length
  · rw [if_pos c, if_pos c, selF_more c]
  · rw [if_neg c, if_neg c]
theorem mix_keep {β : Type} {p : Nat → Bool} {j : Nat} (f : Nat → β) (h : p j = true) (m : Nat) : upd (mixF p j f) (keptI p j).length (f j) m = mixF p (j + 1) f m := by
  have e : (keptI p (j + 1)).length = (keptI p j).length + 1 := by rw [kept_succ, if_pos h]; simp
  unfold mixF
  by_cases c : m = (keptI p j).length
  · subst c
    rw [upd_at, if_pos (by omega), selF_last h]
  · rw [upd_ne _ _ c]
    by_cases c2 : m < (keptI p j).length
    · rw [if_pos c2, if_pos (by omega), selF_more c2]
    · rw [if_neg c2, if_neg (by omega)]
theorem kept_all {p : Nat → Bool} {n : Nat} (h : ∀ i, i < n → p i = true) : keptI p n = List.range n := by
  unfold keptI
  exact List.filter_eq_self.2 (fun i hi => h i (List.mem_range.1 hi))
theorem sel_all {p : Nat → Bool} {n m : Nat} (h : ∀ i, i < n → p i = true) (hm : m < n) : selF p n m = m := by
  unfold selF
  rw [kept_all h, List.getD_eq_getElem?_getD, List.getElem?_range hm]
  rfl
theorem mix_all {β : Type} {p : Nat → Bool} {j : Nat} (f : Nat → β) (h : ∀ i, i < j → p i = true) (m : Nat) : mixF p j f m = f m := by
  unfold mixF
  by_cases c : m < (keptI p j).length
  · rw [if_pos c, sel_all h (by rw [kept_all h] at c; simpa using c)]
  · rw [if_neg c]
theorem kept_less {p : Nat → Bool} {n i : Nat} (hi : i < n) (h : p i = false) : (keptI p n).length < n := by
  induction n with
  | zero => omega
  | succ n ih =>
    by_cases c : i = n
    · subst c
      rw [kept_skip h]
      have := kept_le p i
      omega
    · have := ih (by omega)
      have h2 : (keptI p (n + 1)).length ≤ (keptI p n).length + 1 := by rw [kept_succ]; split <;> simp
      omega
/-- the elements' memory is as it was, wherever they stand -/
theorem mix_own {w wr : World} {g cap n : Nat} {x : Nat → RecD} {ce : Nat → List Value} {Ls : Nat → List Nat} (h : SlO layRec 78 w g cap n x ce Ls) (nd : (g :: catN n Ls).Nodup) (p : Nat → Bool) (j : Nat) (hj : j ≤ n) (hc : ChgL [g] w wr) (hr : wr.ownsRow 0 78 layRec.sz (.slice (some ⟨g, 0, none⟩) n cap) n (catN n (mixF p j ce))) : SlO layRec 78 wr g cap n (mixF p j x) (mixF p j ce) (mixF p j Ls) := by
  refine ⟨hr, fun m hm => ?_⟩
  have key : ∀ i, i < n → layRec.own wr (x i) (ce i) (Ls i) := fun i hi => Lay.own_chgL _ (h.each i hi) hc (fun b hb hbg => by
    simp only [List.mem_singleton] at hbg
    subst hbg
    exact (List.nodup_cons.1 nd).1 (mem_catN.2 ⟨i, hi, hb⟩))
  unfold mixF
  by_cases c : m < (keptI p j).length
  · rw [if_pos c, if_pos c, if_pos c]
    exact key _ (by have := selF_lt c; omega)
  · rw [if_neg c, if_neg c, if_neg c]
    exact key m hm
theorem zero_Rec (w : World) : (zeroValue 78).run Tryz.prog w = .ok (.agg #[.int .i64 0, .int .i64 0, .string ByteArray.empty, .int .i64 0, .int .i64 0, .int .i64 0, .slice none 0 0, .slice none 0 0, .slice none 0 0]) w := by kernel_rfl
theorem zeros_one (n : Nat) : ∀ v, v ∈ (Builtin.zeroCells #[.int .i64 0, .int .i64 0, .string ByteArray.empty, .int .i64 0, .int .i64 0, .int .i64 0, .slice none 0 0, .slice none 0 0, .slice none 0 0] n).toList → v.oneCell' = true := fun v hv => by
  simp only [Builtin.zeroCells, Array.toList_map, List.mem_map] at hv
  obtain ⟨i, _, rfl⟩ := hv
  have hi : i % 9 < 9 := Nat.mod_lt _ (by decide)
  show (#[.int .i64 0, .int .i64 0, .string ByteArray.empty, .int .i64 0, .int .i64 0, .int .i64 0, .slice none 0 0, .slice none 0 0, .slice none 0 0] : Array Value)[i % 9]!.oneCell' = true
  generalize i % 9 = j at hi
  match j, hi with
  | 0, _ => rfl
  | 1, _ => rfl
  | 2, _ => rfl
  | 3, _ => rfl
  | 4, _ => rfl
  | 5, _ => rfl
  | 6, _ => rfl
  | 7, _ => rfl
  | 8, _ => rfl
/-- clear over records: the row's head is as it was -/
theorem run_clearZ (z : Value) (zs : Array Value) (hv : ∀ w, (zeroValue 78).run Tryz.prog w = .ok z w) (hz : z.cells = zs) (h9 : zs.size = 9) (hone : ∀ n v, v ∈ (Builtin.zeroCells zs n).toList → v.oneCell' = true) (w : World) (ty g o n c : Nat) (cur : Array Value) (hg : w.heap[g]? = some (.cells cur 78 (0, 0))) (hn : 0 < n) (hl : o + n * 9 ≤ cur.size) : ∃ row : Array Value, (Builtin.clear_ #[94] ty #[.slice (some ⟨g, o, none⟩) n c]).run Tryz.prog w = .ok (.tuple #[]) (w.setRow g row) ∧ row.size = cur.size ∧ row.toList.take o = cur.toList.take o := by
  obtain ⟨Z, hZ⟩ : ∃ Z, Z = (Builtin.zeroCells zs n).toList := ⟨_, rfl⟩
  have hlen : Z.length = n * 9 := by rw [hZ]; simp [Builtin.zeroCells, h9]
  have hst := run_storeCells_at (P := Tryz.prog) g o 78 Z 0 cur w hg (by rw [hlen]; omega) (by rw [hZ]; exact hone n)
  simp only [Nat.add_zero] at hst
  refine ⟨(cur.toList.take o ++ Z ++ cur.toList.drop (o + Z.length)).toArray, ?_, ?_, ?_⟩
  · obtain ⟨m, rfl⟩ : ∃ m, n = m + 1 := ⟨n - 1, by omega⟩
    simp [Builtin.clear_, run_underlying Tryz.underlying94, hv, hz, ← hZ, hst]
  · simp only [List.size_toArray, List.length_append, List.length_take, List.length_drop, hlen, Array.length_toList]
    omega
  · simp only [List.toList_toArray]
    rw [List.append_assoc, List.take_append_of_le_length (by simp; omega), List.take_take, Nat.min_self]
theorem run_clearR (w : World) (ty g o n c : Nat) (cur : Array Value) (hg : w.heap[g]? = some (.cells cur 78 (0, 0))) (hn : 0 < n) (hl : o + n * 9 ≤ cur.size) : ∃ row : Array Value, (Builtin.clear_ #[94] ty #[.slice (some ⟨g, o, none⟩) n c]).run Tryz.prog w = .ok (.tuple #[]) (w.setRow g row) ∧ row.size = cur.size ∧ row.toList.take o = cur.toList.take o :=
  run_clearZ (.agg #[.int .i64 0, .int .i64 0, .string ByteArray.empty, .int .i64 0, .int .i64 0, .int .i64 0, .slice none 0 0, .slice none 0 0, .slice none 0 0]) #[.int .i64 0, .int .i64 0, .string ByteArray.empty, .int .i64 0, .int .i64 0, .int .i64 0, .slice none 0 0, .slice none 0 0, .slice none 0 0] zero_Rec rfl rfl zeros_one w ty g o n c cur hg hn hl
end Go.Proofs.YtdgbnongbmgdcaaGreat

namespace Go.Proofs.YtdgbnongbmgdcaaGreat
open Go.RowKit F256
set_option linter.unusedVariables false
set_option linter.unusedSimpArgs false
theorem run_rsFrom (g n cap i : Nat) (hi : i < n) (hn : n ≤ cap) (w : World) : (Instr.slice 94 (.slice (some ⟨g, 0, none⟩) n cap) (some (.int .i64 (i : Int))) none none).run Tryz.prog w = .ok (.slice (some ⟨g, i * 9, none⟩) (n - i) (cap - i)) w := by
  have e1 : (i : Int) ≤ (n : Int) := by omega
  have e6 : i ≤ n := by omega
  have e7 : ¬ cap = i := by omega
  simp [Instr.slice, run_underlying Tryz.underlying94, Instr.sliceBounds, Instr.sliceBound, asIntOf, go_sem, e1, e6, e7]
theorem run_rsTo (g n cap i : Nat) (hi : i ≤ cap) (w : World) : (Instr.slice 94 (.slice (some ⟨g, 0, none⟩) n cap) none (some (.int .i64 (i : Int))) none).run Tryz.prog w = .ok (.slice (some ⟨g, 0, none⟩) i cap) w := by
  have e1 : (i : Int) ≤ (cap : Int) := by omega
  simp [Instr.slice, run_underlying Tryz.underlying94, Instr.sliceBounds, Instr.sliceBound, asIntOf, go_sem, e1, hi]
theorem row_short {w : World} {g cap n m s : Nat} {t : TypeId} {xs ys : List Value} (h : w.ownsRow 0 t s (.slice (some ⟨g, 0, none⟩) n cap) n xs) (hm : m ≤ n) (hy : xs.take (m * s) = ys) : w.ownsRow 0 t s (.slice (some ⟨g, 0, none⟩) m cap) m ys := by
  have hl := h.1
  have hms : m * s ≤ n * s := Nat.mul_le_mul_right s hm
  refine ⟨by rw [← hy, List.length_take, hl]; omega, ?_⟩
  rcases h.2 with ⟨hn, _⟩ | ⟨g', cap', cur, he, hbg, hgg, hnc, hcm, hcs, htk⟩
  · cases hn
  · cases he
    refine .inr ⟨g, cap, cur, rfl, hbg, hgg, by omega, hcm, hcs, ?_⟩
    rw [← hy, ← htk, List.take_take, Nat.min_eq_left hms]
theorem catN_take {n m s : Nat} {ce : Nat → List Value} (h : ∀ i, i < n → (ce i).length = s) (hm : m ≤ n) : (catN n ce).take (m * s) = catN m ce := by
  induction n with
  | zero => obtain rfl : m = 0 := by omega
            simp [catN]
  | succ n ih =>
    by_cases c : m = n + 1
    · subst c
      exact List.take_of_length_le (by rw [catN_len h]; exact Nat.le_refl _)
    · have hl : (catN n ce).length = n * s := catN_len (fun i hi => h i (by omega))
      have hms : m * s ≤ n * s := Nat.mul_le_mul_right s (by omega)
      rw [catN_succ, List.take_append_of_le_length (by omega)]
      exact ih (fun i hi => h i (by omega)) (by omega)
set_option maxHeartbeats 32000000 in
set_option maxRecDepth 20000 in
theorem deleteStruck (g cap n : Nat) (x : Nat → RecD) (ce : Nat → List Value) (Ls : Nat → List Nat) (a0 a1 : Nat) (kd sq : Int) (w : World) (hO : SlO layRec 78 w g cap n x ce Ls) (nd : (g :: catN n Ls).Nodup) (h0 : w.cell? ⟨a0, 0, none⟩ = some (.int .i64 kd)) (h1 : w.cell? ⟨a1, 0, none⟩ = some (.int .i64 sq)) (hl0 : a0 < w.heap.size) (hl1 : a1 < w.heap.size) (hg0 : a0 ≠ g) (hg1 : a1 ≠ g) (hn : n ≤ 1048576) :
    Calls Tryz.prog 191 #[.slice (some ⟨g, 0, none⟩) n cap, .func (.func 192) #[] #[.pointer (some ⟨a0, 0, none⟩), .pointer (some ⟨a1, 0, none⟩)]] w fun e w' => e = .returned (.slice (some ⟨g, 0, none⟩) (keptI (fun i => keepB kd sq (x i)) n).length cap) ∧ w'.ownsRow 0 78 layRec.sz (.slice (some ⟨g, 0, none⟩) (keptI (fun i => keepB kd sq (x i)) n).length cap) (keptI (fun i => keepB kd sq (x i)) n).length (catN (keptI (fun i => keepB kd sq (x i)) n).length (fun i => ce (selF (fun i => keepB kd sq (x i)) n i))) ∧ ChgL [g] w w' := by
  have h : Hid (SlO layRec 78 w g cap n x ce Ls) := hO
  have HND : Hid ((g :: catN n Ls).Nodup) := nd
  have H0 : Hid (w.cell? ⟨a0, 0, none⟩ = some (.int .i64 kd)) := h0
  have H1 : Hid (w.cell? ⟨a1, 0, none⟩ = some (.int .i64 sq)) := h1
  have hnc : n ≤ cap := by
    rcases hO.row.2 with ⟨hn, _⟩ | ⟨g', cap', cur, he, hbg, hgg, hnc, _⟩
    · cases hn
    · cases he; exact hnc
  have HNC : Hid (n ≤ cap) := hnc
  have hgl := hO.lt
  have CI := indexStruck g cap n x ce Ls a0 a1 kd sq w hO h0 h1 hl0 hl1 hn
  clear hO nd h0 h1 hnc
  go_enter Tryz.func191, Tryz.ntmps191
  go_wp2_with fail
  refine CI.mono ?_
  rintro e w1 ⟨hcase, b1⟩
  have HB1 : Hid (Below w.heap.size w w1) := b1
  have z1 := b1.size
  clear CI b1
  rcases hcase with ⟨rfl, hall⟩ | ⟨i0, hi0, rfl, hp0, hbef⟩
  · have HALL : Hid (∀ i, i < n → (fun i => keepB kd sq (x i)) i = true) := hall
    clear hall
    have te : ((-1 : Int) == -1) = true := by decide
    go_wp2
    go_ret
    have em : (keptI (fun i => keepB kd sq (x i)) n).length = n := by rw [kept_all HALL.out]; simp
    have er : catN n (fun i => ce (selF (fun i => keepB kd sq (x i)) n i)) = catN n ce := catN_congr (fun i hi => by rw [sel_all HALL.out hi])
    rw [em, er]
    exact ⟨rfl, (h.out.kept (w' := w1) (fun b hb => HB1.out.block b (h.out.mem_lt b hb))).row, ChgL.of_below HB1.out⟩
  have HP0 : Hid ((fun i => keepB kd sq (x i)) i0 = false) := hp0
  have HBEF : Hid (∀ t, t < i0 → (fun i => keepB kd sq (x i)) t = true) := hbef
  clear hp0 hbef
  have te : ((i0 : Int) == -1) = false := beq_eq_false_iff_ne.2 (by omega)
  have zi : IntKind.i64.wrap ((i0 : Int) + 1) = (i0 : Int) + 1 := by rw [IntKind.wrap_i64]; omega
  go_wp2
  go_loopw [5, 6] (fun v z wr => ∃ j : Nat, j ≤ n ∧ i0 < j ∧ z = .int .i64 j ∧ v = .int .i64 ((keptI (fun i => keepB kd sq (x i)) (j)).length : Nat) ∧ wr.ownsRow 0 78 layRec.sz (.slice (some ⟨g, 0, none⟩) n cap) n (catN n (mixF (fun i => keepB kd sq (x i)) (j) ce)) ∧ ChgL [g] w wr) (fun _ z _ => n - (intOf z).toNat)
  case atStart =>
    refine ⟨i0 + 1, by omega, by omega, by simp, ?_, ?_, ChgL.of_below HB1.out⟩
    · rw [kept_skip HP0.out, kept_all HBEF.out]; simp
    · rw [catN_congr (g := ce) (fun m _ => by rw [mix_skip ce HP0.out, mix_all ce HBEF.out])]
      exact (h.out.kept (w' := w1) (fun b hb => HB1.out.block b (h.out.mem_lt b hb))).row
  case round =>
    obtain ⟨j, hj, hij, rfl, rfl, hrow, hch⟩ := hrel
    obtain ⟨wx, rfl⟩ : ∃ y, y = wr := ⟨_, rfl⟩
    have HCH : Hid (ChgL [g] w wx) := hch
    have HRW : Hid (wx.ownsRow 0 78 layRec.sz (.slice (some ⟨g, 0, none⟩) n cap) n (catN n (mixF (fun i => keepB kd sq (x i)) (j) ce))) := hrow
    have zx := hch.size
    have hless : (keptI (fun i => keepB kd sq (x i)) (j)).length < j := kept_less hij HP0.out
    clear hrow hch
    by_cases hlt : j < n
    · obtain ⟨ao6, cap6, ao7, cap7, ao8, cap8, K6, K7, K8, eR, -⟩ := Rec_own (h.out.each j hlt)
      have HCE : Hid (ce j = [.int .i64 (x j).kind, .int .i64 (x j).seq, .string (x j).name, .int .i64 (x j).length, .int .i64 (x j).group, .int .i64 (x j).row, .slice ao6 (x j).rows.1 cap6, .slice ao7 (x j).data.1 cap7, .slice ao8 (x j).delta.1 cap8]) := eR
      have S5 := mix_own h.out HND.out (fun i => keepB kd sq (x i)) j hj HCH.out HRW.out
      have em : (mixF (fun i => keepB kd sq (x i)) (j) ce) j = [.int .i64 (x j).kind, .int .i64 (x j).seq, .string (x j).name, .int .i64 (x j).length, .int .i64 (x j).group, .int .i64 (x j).row, .slice ao6 (x j).rows.1 cap6, .slice ao7 (x j).data.1 cap7, .slice ao8 (x j).delta.1 cap8] := by rw [mix_at ce (Nat.le_of_lt hless)]; exact eR
      have s_0 : wx.cell? ⟨g, j * 9, none⟩ = some (.int .i64 (x j).kind) := (S5.cell hlt (j := 0) (by decide)).trans (by rw [em]; rfl)
      have s_1 : wx.cell? ⟨g, j * 9 + 1, none⟩ = some (.int .i64 (x j).seq) := (S5.cell hlt (j := 1) (by decide)).trans (by rw [em]; rfl)
      have s_2 : wx.cell? ⟨g, j * 9 + 2, none⟩ = some (.string (x j).name) := (S5.cell hlt (j := 2) (by decide)).trans (by rw [em]; rfl)
      have s_3 : wx.cell? ⟨g, j * 9 + 3, none⟩ = some (.int .i64 (x j).length) := (S5.cell hlt (j := 3) (by decide)).trans (by rw [em]; rfl)
      have s_4 : wx.cell? ⟨g, j * 9 + 4, none⟩ = some (.int .i64 (x j).group) := (S5.cell hlt (j := 4) (by decide)).trans (by rw [em]; rfl)
      have s_5 : wx.cell? ⟨g, j * 9 + 5, none⟩ = some (.int .i64 (x j).row) := (S5.cell hlt (j := 5) (by decide)).trans (by rw [em]; rfl)
      have s_6 : wx.cell? ⟨g, j * 9 + 6, none⟩ = some (.slice ao6 (x j).rows.1 cap6) := (S5.cell hlt (j := 6) (by decide)).trans (by rw [em]; rfl)
      have s_7 : wx.cell? ⟨g, j * 9 + 7, none⟩ = some (.slice ao7 (x j).data.1 cap7) := (S5.cell hlt (j := 7) (by decide)).trans (by rw [em]; rfl)
      have s_8 : wx.cell? ⟨g, j * 9 + 8, none⟩ = some (.slice ao8 (x j).delta.1 cap8) := (S5.cell hlt (j := 8) (by decide)).trans (by rw [em]; rfl)
      have i1 : (0 : Int) ≤ (j : Int) := by omega
      have i2 : (j : Int) < (n : Int) := by omega
      have bV : Below wx.heap.size wx (wx.alloc (.cells #[.int .i64 (x j).kind, .int .i64 (x j).seq, .string (x j).name, .int .i64 (x j).length, .int .i64 (x j).group, .int .i64 (x j).row, .slice ao6 (x j).rows.1 cap6, .slice ao7 (x j).data.1 cap7, .slice ao8 (x j).delta.1 cap8] 78)) := (Below.refl _ _).alloc (Nat.le_refl _) _
      have V1 : Box (wx.alloc (.cells #[.int .i64 (x j).kind, .int .i64 (x j).seq, .string (x j).name, .int .i64 (x j).length, .int .i64 (x j).group, .int .i64 (x j).row, .slice ao6 (x j).rows.1 cap6, .slice ao7 (x j).data.1 cap7, .slice ao8 (x j).delta.1 cap8] 78)) wx.heap.size #[.int .i64 (x j).kind, .int .i64 (x j).seq, .string (x j).name, .int .i64 (x j).length, .int .i64 (x j).group, .int .i64 (x j).row, .slice ao6 (x j).rows.1 cap6, .slice ao7 (x j).data.1 cap7, .slice ao8 (x j).delta.1 cap8] 78 := box_new _ _ _
      have HS5 : Hid (SlO layRec 78 wx g cap n (mixF (fun i => keepB kd sq (x i)) (j) x) (mixF (fun i => keepB kd sq (x i)) (j) ce) (mixF (fun i => keepB kd sq (x i)) (j) Ls)) := S5
      clear S5 em eR
      go_upto_region 8 with fail
      obtain ⟨W5, hW5⟩ : ∃ y, y = wx.alloc (.cells #[.int .i64 (x j).kind, .int .i64 (x j).seq, .string (x j).name, .int .i64 (x j).length, .int .i64 (x j).group, .int .i64 (x j).row, .slice ao6 (x j).rows.1 cap6, .slice ao7 (x j).data.1 cap7, .slice ao8 (x j).delta.1 cap8] 78) := ⟨_, rfl⟩
      rw [← hW5] at bV V1 ⊢
      clear hW5 s_0 s_1 s_2 s_3 s_4 s_5 s_6 s_7 s_8
      have z5 := bV.size
      have C5 : ChgL [g] w W5 := HCH.out.trans (ChgL.of_below bV)
      have CS := struck_any a0 a1 kd sq (x j).kind (x j).seq (x j).name (x j).length (x j).group (x j).row ao6 (x j).rows.1 cap6 ao7 (x j).data.1 cap7 ao8 (x j).delta.1 cap8 W5 ((World.cell?_of_block (C5.block a0 hl0 (by simpa using hg0))).trans H0.out) ((World.cell?_of_block (C5.block a1 hl1 (by simpa using hg1))).trans H1.out) (by omega) (by omega)
      obtain ⟨t, ht⟩ : ∃ t, t = ((x j).kind == kd && (x j).seq == sq) := ⟨_, rfl⟩
      rw [← ht] at CS
      have HT : Hid ((fun i => keepB kd sq (x i)) j = !t) := by rw [ht]; rfl
      have HC5 : Hid (ChgL [g] w W5) := C5
      have v_0 : W5.cell? ⟨wx.heap.size, 0, none⟩ = some (.int .i64 (x j).kind) := V1.cell 0
      have v_1 : W5.cell? ⟨wx.heap.size, 1, none⟩ = some (.int .i64 (x j).seq) := V1.cell 1
      have v_2 : W5.cell? ⟨wx.heap.size, 2, none⟩ = some (.string (x j).name) := V1.cell 2
      have v_3 : W5.cell? ⟨wx.heap.size, 3, none⟩ = some (.int .i64 (x j).length) := V1.cell 3
      have v_4 : W5.cell? ⟨wx.heap.size, 4, none⟩ = some (.int .i64 (x j).group) := V1.cell 4
      have v_5 : W5.cell? ⟨wx.heap.size, 5, none⟩ = some (.int .i64 (x j).row) := V1.cell 5
      have v_6 : W5.cell? ⟨wx.heap.size, 6, none⟩ = some (.slice ao6 (x j).rows.1 cap6) := V1.cell 6
      have v_7 : W5.cell? ⟨wx.heap.size, 7, none⟩ = some (.slice ao7 (x j).data.1 cap7) := V1.cell 7
      have v_8 : W5.cell? ⟨wx.heap.size, 8, none⟩ = some (.slice ao8 (x j).delta.1 cap8) := V1.cell 8
      clear ht C5
      go_wp2_with fail
      refine CS.mono ?_
      rintro e w6 ⟨rfl, b6⟩
      have z6 := b6.size
      have V6 := V1.call b6
      have C6 : Hid (ChgL [g] w w6) := HC5.out.trans (ChgL.of_below b6)
      have S6 := (HS5.out.kept (w' := w6) (fun b hb => (b6.block b (by have := HS5.out.mem_lt b hb; omega)).trans (bV.block b (HS5.out.mem_lt b hb))))
      have HS6 : Hid (SlO layRec 78 w6 g cap n (mixF (fun i => keepB kd sq (x i)) (j) x) (mixF (fun i => keepB kd sq (x i)) (j) ce) (mixF (fun i => keepB kd sq (x i)) (j) Ls)) := S6
      clear b6 CS bV V1 v_0 v_1 v_2 v_3 v_4 v_5 v_6 v_7 v_8
      cases t with
      | true =>
        have HR6 : Hid (w6.ownsRow 0 78 layRec.sz (.slice (some ⟨g, 0, none⟩) n cap) n (catN n (mixF (fun i => keepB kd sq (x i)) (j) ce))) := S6.row
        clear S6 V6
        go_wp2
        go_roundw
        case rel =>
          refine ⟨j + 1, by omega, by omega, by go_num, by rw [kept_skip HT.out], ?_, C6.out⟩
          rw [catN_congr (g := (mixF (fun i => keepB kd sq (x i)) (j) ce)) (fun m _ => mix_skip ce HT.out m)]
          exact HR6.out
        case measure => simp [intOf]; omega
      | false =>
        obtain ⟨q, hq⟩ : ∃ q, q = (keptI (fun i => keepB kd sq (x i)) (j)).length := ⟨_, rfl⟩
        have HQ : Hid (q = (keptI (fun i => keepB kd sq (x i)) (j)).length) := hq
        have hqn : q < n := by omega
        rw [← hq]
        have k1 : (0 : Int) ≤ (q : Int) := by omega
        have k2 : (q : Int) < (n : Int) := by omega
        have hqc := S6.lens q hqn
        have hso : ∀ t, t < 9 → ∃ u, w6.cell? ⟨g, q * 9 + t, none⟩ = some u := fun t ht => by
          refine ⟨((mixF (fun i => keepB kd sq (x i)) (j) ce) q)[t]'(by rw [hqc]; exact ht), ?_⟩
          rw [← List.getElem?_eq_getElem]
          exact S6.cell hqn ht
        obtain ⟨u_0, t_0⟩ := hso 0 (by decide)
        obtain ⟨u_1, t_1⟩ := hso 1 (by decide)
        obtain ⟨u_2, t_2⟩ := hso 2 (by decide)
        obtain ⟨u_3, t_3⟩ := hso 3 (by decide)
        obtain ⟨u_4, t_4⟩ := hso 4 (by decide)
        obtain ⟨u_5, t_5⟩ := hso 5 (by decide)
        obtain ⟨u_6, t_6⟩ := hso 6 (by decide)
        obtain ⟨u_7, t_7⟩ := hso 7 (by decide)
        obtain ⟨u_8, t_8⟩ := hso 8 (by decide)
        simp only [Nat.add_zero] at t_0
        have tf_0 : w6.frozen? ⟨g, q * 9, none⟩ = false := S6.frozen _
        have tf_1 : w6.frozen? ⟨g, q * 9 + 1, none⟩ = false := S6.frozen _
        have tf_2 : w6.frozen? ⟨g, q * 9 + 2, none⟩ = false := S6.frozen _
        have tf_3 : w6.frozen? ⟨g, q * 9 + 3, none⟩ = false := S6.frozen _
        have tf_4 : w6.frozen? ⟨g, q * 9 + 4, none⟩ = false := S6.frozen _
        have tf_5 : w6.frozen? ⟨g, q * 9 + 5, none⟩ = false := S6.frozen _
        have tf_6 : w6.frozen? ⟨g, q * 9 + 6, none⟩ = false := S6.frozen _
        have tf_7 : w6.frozen? ⟨g, q * 9 + 7, none⟩ = false := S6.frozen _
        have tf_8 : w6.frozen? ⟨g, q * 9 + 8, none⟩ = false := S6.frozen _
        have v_0 : w6.cell? ⟨wx.heap.size, 0, none⟩ = some (.int .i64 (x j).kind) := V6.cell 0
        have v_1 : w6.cell? ⟨wx.heap.size, 1, none⟩ = some (.int .i64 (x j).seq) := V6.cell 1
        have v_2 : w6.cell? ⟨wx.heap.size, 2, none⟩ = some (.string (x j).name) := V6.cell 2
        have v_3 : w6.cell? ⟨wx.heap.size, 3, none⟩ = some (.int .i64 (x j).length) := V6.cell 3
        have v_4 : w6.cell? ⟨wx.heap.size, 4, none⟩ = some (.int .i64 (x j).group) := V6.cell 4
        have v_5 : w6.cell? ⟨wx.heap.size, 5, none⟩ = some (.int .i64 (x j).row) := V6.cell 5
        have v_6 : w6.cell? ⟨wx.heap.size, 6, none⟩ = some (.slice ao6 (x j).rows.1 cap6) := V6.cell 6
        have v_7 : w6.cell? ⟨wx.heap.size, 7, none⟩ = some (.slice ao7 (x j).data.1 cap7) := V6.cell 7
        have v_8 : w6.cell? ⟨wx.heap.size, 8, none⟩ = some (.slice ao8 (x j).delta.1 cap8) := V6.cell 8
        have hnx : (keptI (fun i => keepB kd sq (x i)) (j + 1)).length = q + 1 := by
          have hpk : (fun i => keepB kd sq (x i)) j = true := HT.out
          rw [hq, kept_succ, if_pos hpk]; simp
        have HNX : Hid ((keptI (fun i => keepB kd sq (x i)) (j + 1)).length = q + 1) := hnx
        have R7 : (stN w6 g (q * layRec.sz) [.int .i64 (x j).kind, .int .i64 (x j).seq, .string (x j).name, .int .i64 (x j).length, .int .i64 (x j).group, .int .i64 (x j).row, .slice ao6 (x j).rows.1 cap6, .slice ao7 (x j).data.1 cap7, .slice ao8 (x j).delta.1 cap8]).ownsRow 0 78 layRec.sz (.slice (some ⟨g, 0, none⟩) n cap) n (catN n (mixF (fun i => keepB kd sq (x i)) (j + 1) ce)) := by
          have hr := row_stN [.int .i64 (x j).kind, .int .i64 (x j).seq, .string (x j).name, .int .i64 (x j).length, .int .i64 (x j).group, .int .i64 (x j).row, .slice ao6 (x j).rows.1 cap6, .slice ao7 (x j).data.1 cap7, .slice ao8 (x j).delta.1 cap8] w6 (q * layRec.sz) _ S6.row
          rw [catN_setL S6.lens hqn rfl] at hr
          rw [catN_congr (g := (mixF (fun i => keepB kd sq (x i)) (j + 1) ce)) (fun m _ => by
            have hpk : (fun i => keepB kd sq (x i)) j = true := HT.out
            have := mix_keep (p := (fun i => keepB kd sq (x i))) (j := j) ce hpk m
            rw [HCE.out, ← hq] at this
            exact this)] at hr
          exact hr
        have HR7 : Hid ((stN w6 g (q * layRec.sz) [.int .i64 (x j).kind, .int .i64 (x j).seq, .string (x j).name, .int .i64 (x j).length, .int .i64 (x j).group, .int .i64 (x j).row, .slice ao6 (x j).rows.1 cap6, .slice ao7 (x j).data.1 cap7, .slice ao8 (x j).delta.1 cap8]).ownsRow 0 78 layRec.sz (.slice (some ⟨g, 0, none⟩) n cap) n (catN n (mixF (fun i => keepB kd sq (x i)) (j + 1) ce))) := R7
        have C7 : Hid (ChgL [g] w (stN w6 g (q * layRec.sz) [.int .i64 (x j).kind, .int .i64 (x j).seq, .string (x j).name, .int .i64 (x j).length, .int .i64 (x j).group, .int .i64 (x j).row, .slice ao6 (x j).rows.1 cap6, .slice ao7 (x j).data.1 cap7, .slice ao8 (x j).delta.1 cap8])) := C6.out.trans ⟨(stN_rest g _ w6 _).1, (stN_rest g _ w6 _).2.1, (stN_rest g _ w6 _).2.2, Nat.le_of_eq (stN_size g _ w6 _).symm, fun b _ hb => stN_heap g b (fun hh => hb (by simp [hh])) _ w6 _⟩
        have zq : IntKind.i64.wrap ((q : Int) + 1) = (q : Int) + 1 := by rw [IntKind.wrap_i64]; omega
        clear S6 V6 hq hso hqc hnx R7
        go_wp2
        go_roundw
        case rel =>
          refine ⟨j + 1, by omega, by omega, by go_num, by rw [HNX.out]; simp, HR7.out, C7.out⟩
        case measure => simp [intOf]; omega
    · obtain rfl : j = n := by omega
      obtain ⟨q, hq⟩ : ∃ q, q = (keptI (fun i => keepB kd sq (x i)) (j)).length := ⟨_, rfl⟩
      have HQ : Hid (q = (keptI (fun i => keepB kd sq (x i)) (j)).length) := hq
      have S5 := mix_own h.out HND.out (fun i => keepB kd sq (x i)) j hj HCH.out HRW.out
      have hlens := S5.lens
      rcases S5.row.2 with ⟨hnn, _⟩ | ⟨g', cap', cur, he, hbg, hgg, hnc', hcm, hcs, htk⟩
      · cases hnn
      cases he
      have hqn : q < j := by omega
      obtain ⟨row, hcl, hrs, hrt⟩ := run_clearR wx 0 g (q * 9) (j - q) (cap - q) cur hgg (by omega) (by
        have h9 : cur.size = cap * 9 := hcs
        have : q * 9 + (j - q) * 9 ≤ cap * 9 := by rw [← Nat.add_mul]; exact Nat.mul_le_mul_right 9 (by omega)
        omega)
      have hf := run_rsFrom g j cap q hqn HNC.out
      have ht := fun w' => run_rsTo g j cap q (by omega) w'
      obtain ⟨W7, hW7⟩ : ∃ y, y = wx.setRow g row := ⟨_, rfl⟩
      rw [← hW7] at hcl
      have R7 : Hid (W7.ownsRow 0 78 layRec.sz (.slice (some ⟨g, 0, none⟩) q cap) q (catN q (fun i => ce (selF (fun i => keepB kd sq (x i)) j i)))) := by
        have hrow0 := row_short S5.row (Nat.le_of_lt hqn) (catN_take hlens (Nat.le_of_lt hqn))
        have e1 : catN q (mixF (fun i => keepB kd sq (x i)) (j) ce) = catN q (fun i => ce (selF (fun i => keepB kd sq (x i)) j i)) := catN_congr (fun i hi => by
          show mixF _ j ce i = _
          unfold mixF
          rw [if_pos (by rw [← hq]; exact hi)])
        rw [e1] at hrow0
        refine ⟨hrow0.1, ?_⟩
        rcases hrow0.2 with ⟨hnn, _⟩ | ⟨g2, cap2, cur2, he2, hb2, hg2, hn2, hm2, hs2, ht2⟩
        · cases hnn
        cases he2
        rw [hgg] at hg2
        cases hg2
        refine .inr ⟨g, cap, row, rfl, hb2, by rw [hW7]; exact setRow_heap wx g cur row 78 (0, 0) hgg, hn2, hm2, by rw [hrs]; exact hs2, ?_⟩
        rw [← ht2]
        exact hrt
      have C7 : Hid (ChgL [g] w W7) := by
        rw [hW7]
        exact HCH.out.trans (chgL_setRow g row)
      clear S5 hlens hgg htk hcs hcm hnc' hbg hrs hrt hW7 hless
      rw [← hq]
      clear hq
      go_wp2_with (simp only [hcl])
      go_ret
      rw [← HQ.out]
      exact ⟨rfl, R7.out, C7.out⟩
end Go.Proofs.YtdgbnongbmgdcaaGreat

namespace Go.Proofs.YtdgbnongbmgdcaaGreat
open Go.RowKit F256
set_option linter.unusedVariables false
set_option linter.unusedSimpArgs false
theorem own_none {w : World} {x y : Nat → RecD} {v : Value} {K : List Nat} (h : (layRec.slice 78).own w (0, x) [v] K) : (layRec.slice 78).own w (0, y) [v] K := by
  obtain ⟨v', ce, Ls, e, eK, hr, _⟩ := h
  exact ⟨v', ce, Ls, e, eK, hr, fun i hi => by cases hi⟩
theorem strike_none {p : Nat × (Nat → RecD)} (h : p.1 = 0) (kd sq : Int) : (strikeL p kd sq).1 = 0 := by
  show (keptI _ p.1).length = 0
  rw [h]
  rfl
theorem row_base {w : World} {lo m s : Nat} {t : TypeId} {v : Value} {xs : List Value} (h : w.ownsRow lo t s v m xs) : w.ownsRow 0 t s v m xs := by
  refine ⟨h.1, ?_⟩
  rcases h.2 with hn | ⟨g, cap, cur, e, _, rest⟩
  · exact .inl hn
  · exact .inr ⟨g, cap, cur, e, Nat.zero_le _, rest⟩
set_option maxHeartbeats 8000000 in
set_option maxRecDepth 20000 in
theorem deleteNone (ao : Option Addr) (cap : Nat) (fv : Value) (w : World) :
    Calls Tryz.prog 191 #[.slice ao 0 cap, fv] w fun e w' => e = .returned (.slice ao 0 cap) ∧ w' = w := by
  have CI : Calls Tryz.prog 222 #[.slice ao 0 cap, fv] w fun e w' => e = .returned (.int .i64 (-1)) ∧ w' = w := by
    go_enter Tryz.func222, Tryz.ntmps222
    go_wp2
    go_loop [8] (fun z => z = .int .i64 0) (fun _ => 0)
    case atStart => rfl
    case round =>
      subst hrel
      go_wp2
      go_ret
      exact ⟨rfl, rfl⟩
  have te : ((-1 : Int) == -1) = true := by decide
  go_enter Tryz.func191, Tryz.ntmps191
  go_wp2_with fail
  refine CI.mono ?_
  rintro e w1 ⟨rfl, e1⟩
  obtain rfl := e1.symm
  go_wp2
  go_ret
  exact ⟨rfl, rfl⟩
set_option maxHeartbeats 8000000 in
set_option maxRecDepth 20000 in
theorem strikeNone (ao : Option Addr) (cap : Nat) (kd sq : Int) (w : World) :
    Calls Tryz.prog 131 #[.slice ao 0 cap, .int .i64 kd, .int .i64 sq] w fun e w' => e = .returned (.slice (some ⟨w.heap.size, 0, none⟩) 0 0) ∧ w' = w.alloc (.cells #[] 78) := by
  go_enter Tryz.func131, Tryz.ntmps131
  go_wp2
  go_loopw [7, 8] (fun v z wr => z = .int .i64 0 ∧ v = .slice (some ⟨w.heap.size, 0, none⟩) 0 0 ∧ wr = w.alloc (.cells #[] 78)) (fun _ _ _ => 0)
  case atStart => exact ⟨rfl, rfl, rfl⟩
  case round =>
    obtain ⟨rfl, rfl, rfl⟩ := hrel
    go_wp2
    go_ret
    exact ⟨rfl, rfl⟩
/-- slices.DeleteFunc over an owned list of records -/
theorem delete_own {w : World} {p : Nat × (Nat → RecD)} {ao : Option Addr} {cap : Nat} {K : List Nat} (h : (layRec.slice 78).own w p [.slice ao p.1 cap] K) (nd : K.Nodup) (hn : p.1 ≤ 1048576) (a0 a1 : Nat) (kd sq : Int) (h0 : w.cell? ⟨a0, 0, none⟩ = some (.int .i64 kd)) (h1 : w.cell? ⟨a1, 0, none⟩ = some (.int .i64 sq)) (hl0 : a0 < w.heap.size) (hl1 : a1 < w.heap.size) (hk0 : a0 ∉ K) (hk1 : a1 ∉ K) :
    Calls Tryz.prog 191 #[.slice ao p.1 cap, .func (.func 192) #[] #[.pointer (some ⟨a0, 0, none⟩), .pointer (some ⟨a1, 0, none⟩)]] w fun e w' => ∃ ao' cap' K', e = .returned (.slice ao' (strikeL p kd sq).1 cap') ∧ Turn (layRec.slice 78) w K w' (strikeL p kd sq) [.slice ao' (strikeL p kd sq).1 cap'] K' := by
  by_cases h0' : p.1 = 0
  · obtain ⟨n, x⟩ := p
    simp only at h0'
    subst h0'
    refine (deleteNone ao cap _ w).mono ?_
    rintro e w' ⟨rfl, rfl⟩
    exact ⟨ao, cap, K, rfl, own_none h, nd, fun b hb => .inl hb, ChgL.refl _ _⟩
  · obtain ⟨g, cap', ce, Ls, e, eK, S⟩ := slice_form h h0'
    simp only [List.cons.injEq, Value.slice.injEq, and_true, true_and] at e
    obtain ⟨rfl, rfl⟩ := e
    subst eK
    refine (deleteStruck g cap p.1 p.2 ce Ls a0 a1 kd sq w S nd h0 h1 hl0 hl1 (fun hh => hk0 (by rw [hh]; exact List.mem_cons_self ..)) (fun hh => hk1 (by rw [hh]; exact List.mem_cons_self ..)) hn).mono ?_
    rintro e w' ⟨rfl, hr, hc⟩
    obtain ⟨s1, s2, s3⟩ := S.select nd (p := (fun i => keepB kd sq (p.2 i))) hr (fun b hb => .inl (by simpa [Value.ownBlock] using hb.symm)) (fun b hb => hc.block b (S.mem_lt b (List.mem_cons_of_mem _ hb)) (fun hm => by
      simp only [List.mem_singleton] at hm
      subst hm
      exact (List.nodup_cons.1 nd).1 hb))
    exact ⟨_, cap, _, rfl, s1, s2, s3, hc.mono (fun b hb => by simp only [List.mem_singleton] at hb; rw [hb]; exact List.mem_cons_self ..)⟩
/-- l5Strike over an owned list of records -/
theorem strike_own {w : World} {p : Nat × (Nat → RecD)} {ao : Option Addr} {cap : Nat} {K : List Nat} (h : (layRec.slice 78).own w p [.slice ao p.1 cap] K) (nd : K.Nodup) (hn : p.1 ≤ 1048576) (kd sq : Int) :
    Calls Tryz.prog 131 #[.slice ao p.1 cap, .int .i64 kd, .int .i64 sq] w fun e w' => ∃ ao' cap' K', e = .returned (.slice ao' (strikeL p kd sq).1 cap') ∧ Turn (layRec.slice 78) w K w' (strikeL p kd sq) [.slice ao' (strikeL p kd sq).1 cap'] K' := by
  by_cases h0' : p.1 = 0
  · obtain ⟨n, x⟩ := p
    simp only at h0'
    subst h0'
    refine (strikeNone ao cap kd sq w).mono ?_
    rintro e w' ⟨rfl, rfl⟩
    have hr := World.ownsRow_lit (base := 0) (e := 78) (size := layRec.sz) w #[] 0 (Nat.zero_le _) (Nat.zero_le _) (by simp)
    refine ⟨some ⟨w.heap.size, 0, none⟩, 0, [w.heap.size], rfl, ⟨_, fun _ => [], fun _ => [], rfl, by simp [Value.ownBlock, strikeL, keptI, catN_zero], ?_, fun i hi => by cases hi⟩, by simp, fun b hb => .inr ?_, ChgL.of_below ((Below.refl _ _).alloc (Nat.le_refl _) _)⟩
    · simpa [strikeL, keptI, catN_zero] using hr
    · simp only [List.mem_singleton] at hb
      subst hb
      simp
  · obtain ⟨g, cap', ce, Ls, e, eK, S⟩ := slice_form h h0'
    simp only [List.cons.injEq, Value.slice.injEq, and_true, true_and] at e
    obtain ⟨rfl, rfl⟩ := e
    subst eK
    refine (l5Strike_any g cap p.1 p.2 ce Ls kd sq w S hn).mono ?_
    rintro e w' ⟨ao', c', rfl, hr, hb⟩
    obtain ⟨s1, s2, s3⟩ := S.select nd (p := (fun i => keepB kd sq (p.2 i))) (row_base hr) (fun b hb' => .inr (hr.lt b hb').1) (fun b hb' => hb.block b (S.mem_lt b (List.mem_cons_of_mem _ hb')))
    exact ⟨ao', c', _, rfl, s1, s2, s3, ChgL.of_below hb⟩
/-- a tape whose records are struck -/
theorem tape_struck {w w1 : World} {d : TapeD} {ao ao' : Option Addr} {cap cap' : Nat} {K K' : List Nat} {kd sq : Int} {cs : List Value} (hc : cs = [.bool d.wiped, .slice ao d.recs.1 cap]) (ht : Turn (layRec.slice 78) w K w1 (strikeL d.recs kd sq) [.slice ao' (strikeL d.recs kd sq).1 cap'] K') : Turn layTape w K w1 (struckT d kd sq) (cs.set 1 (.slice ao' (strikeL d.recs kd sq).1 cap')) K' := by
  subst hc
  exact ⟨Tape_mk (struckT d kd sq) ht.own, ht.nd, ht.sub, ht.chg⟩
end Go.Proofs.YtdgbnongbmgdcaaGreat

namespace Go.Proofs.YtdgbnongbmgdcaaGreat
open Go.RowKit F256
set_option linter.unusedVariables false
set_option linter.unusedSimpArgs false
def strikeW (d : WorldD) (T : Nat) (kd sq : Int) : WorldD := { d with tapes := (d.tapes.1, upd d.tapes.2 T (struckT (d.tapes.2 T) kd sq)) }
set_option maxHeartbeats 16000000 in
set_option maxRecDepth 20000 in
theorem strikeChange (E : Nat) (d : WorldD) (cs : List Value) (K : List Nat) (q0 q1 q2 T : Nat) (kd sq : Int) (hT : T < d.tapes.1) (hn : (d.tapes.2 T).recs.1 ≤ 1048576) (w : World) (hX : Box w E (([.int .i32 1, .int .u32 0, .int .u32 0, .int .i32 0, .int .u32 0] : List Value) ++ cs).toArray 166) (hO : EncO w E d cs K) (h0 : w.cell? ⟨q0, 0, none⟩ = some (.int .i64 (T : Int))) (h1 : w.cell? ⟨q1, 0, none⟩ = some (.int .i64 kd)) (h2 : w.cell? ⟨q2, 0, none⟩ = some (.int .i64 sq)) (l0 : q0 < w.heap.size ∧ q0 ∉ K) (l1 : q1 < w.heap.size ∧ q1 ∉ K) (l2 : q2 < w.heap.size ∧ q2 ∉ K) :
    Calls Tryz.prog 190 #[.pointer (some ⟨E, 5, none⟩), .pointer (some ⟨q0, 0, none⟩), .pointer (some ⟨q1, 0, none⟩), .pointer (some ⟨q2, 0, none⟩)] w fun e w' => e = .returned (.tuple #[]) ∧ ∃ cs' K', Box w' E (([.int .i32 1, .int .u32 0, .int .u32 0, .int .i32 0, .int .u32 0] : List Value) ++ cs').toArray 166 ∧ EncO w' E (strikeW d T kd sq) cs' K' ∧ (∀ b, b ∈ K' → b ∈ K ∨ w.heap.size ≤ b) ∧ ChgL (E :: K) w w' := by
  have hmf : ∀ (fn : Fn) (first cap : Array Value) (w : World), (Instr.makeFunc fn first cap).run Tryz.prog w = .ok (.func fn first cap) w := fun _ _ _ _ => rfl
  have O0 : EncO w.drew E d cs K := hO.chg (ChgL.refl [E] _).drew
  obtain ⟨p1, c1, p2, c2, p3, c3, K1, K2, K3, rfl, rfl, WO⟩ := O0.open
  obtain ⟨gt, cap, ce, Ls, e3, eL, S3⟩ := slice_form WO.t (by omega)
  simp only [List.cons.injEq, Value.slice.injEq, and_true, true_and] at e3
  obtain ⟨rfl, rfl⟩ := e3
  subst eL
  have nd3 : (gt :: catN d.tapes.1 Ls).Nodup := (List.nodup_append.1 (List.nodup_append.1 WO.nd).2.1).2.1
  obtain ⟨ao9, cap9, K9, e9, eK9, o9⟩ := Tape_own (S3.each T hT)
  have in9 : ∀ b, b ∈ K9 → b ∈ gt :: catN d.tapes.1 Ls := fun b hb => SlO.sub T hT b (by rw [eK9]; exact hb)
  have inK : ∀ b, b ∈ gt :: catN d.tapes.1 Ls → b ∈ K1 ++ (K2 ++ (gt :: catN d.tapes.1 Ls)) := fun b hb => List.mem_append_right _ (List.mem_append_right _ hb)
  have hE9 : E ∉ K9 := fun hb => hO.ne (inK _ (in9 _ hb))
  have hgt : gt ∉ K9 := fun hb => (List.nodup_cons.1 nd3).1 (mem_catN.2 ⟨T, hT, by rw [eK9]; exact hb⟩)
  have x16 : w.cell? ⟨E, 16, none⟩ = some (.slice (some ⟨gt, 0, none⟩) d.tapes.1 c3) := hX.cell 16
  have y1 : w.drew.cell? ⟨gt, T * 2 + 1, none⟩ = some (.slice ao9 (d.tapes.2 T).recs.1 cap9) := (S3.cell hT (j := 1) (by decide)).trans (by rw [e9]; rfl)
  have hEl := hX.lt
  have hgl : gt < w.drew.heap.size := S3.lt
  have KS : ∀ w', ChgL K9 w.drew w' → (w'.cell? ⟨E, 16, none⟩ = some (.slice (some ⟨gt, 0, none⟩) d.tapes.1 c3) ∧ w'.cell? ⟨q0, 0, none⟩ = some (.int .i64 (T : Int)) ∧ w'.cell? ⟨gt, T * 2 + 1, none⟩ = some (.slice ao9 (d.tapes.2 T).recs.1 cap9)) := fun w' hc => ⟨(World.cell?_of_block (hc.block E hEl hE9)).trans x16, (World.cell?_of_block (hc.block q0 l0.1 (fun hb => l0.2 (inK _ (in9 _ hb))))).trans h0, (World.cell?_of_block (hc.block gt hgl hgt)).trans y1⟩
  have CC := delete_own o9 (by rw [← eK9]; exact catN_each (List.nodup_cons.1 nd3).2 hT) hn q1 q2 kd sq h1 h2 l1.1 l2.1 (fun hb => l1.2 (inK _ (in9 _ hb))) (fun hb => l2.2 (inK _ (in9 _ hb)))
  have i1 : (0 : Int) ≤ (T : Int) := by omega
  have i2 : (T : Int) < (d.tapes.1 : Int) := by omega
  have HX : Hid (Box w.drew E #[.int .i32 1, .int .u32 0, .int .u32 0, .int .i32 0, .int .u32 0, .int .i64 (d.shape 0), .int .i64 (d.shape 1), .int .i64 (d.shape 2), .int .i64 (d.shape 3), .int .i64 (d.shape 4), .int .i64 (d.shape 5), .int .i64 (d.shape 6), .int .i64 (d.shape 7), .int .i64 (d.shape 8), .slice p1 d.groups.1 c1, .slice p2 d.on.1 c2, .slice (some ⟨gt, 0, none⟩) d.tapes.1 c3, .int .i64 d.writes, .int .i64 d.stop, .bool d.down] 166) := hX
  have HNE : Hid (E ∉ K1 ++ (K2 ++ (gt :: catN d.tapes.1 Ls))) := hO.ne
  clear hX hO O0
  go_enter Tryz.func190, Tryz.ntmps190
  go_upto_region 0 with fail
  refine wp_region_L 17 (fun w' => w'.cell? ⟨E, 16, none⟩ = some (.slice (some ⟨gt, 0, none⟩) d.tapes.1 c3) ∧ w'.cell? ⟨q0, 0, none⟩ = some (.int .i64 (T : Int)) ∧ w'.cell? ⟨gt, T * 2 + 1, none⟩ = some (.slice ao9 (d.tapes.2 T).recs.1 cap9)) (by kernel_rfl) (KS _ (ChgL.refl _ _)) (fun hHeld => ?_)
  refine wpAnyL_take (i := 0) (oi := _) (v := ?_) 16 rfl (by kernel_rfl) (fun _ _ _ h => h) (Or.inl ⟨by rfl, ?_⟩) (by assumption) ?_
  rotate_left
  · intro w' hSw
    try dsimp only at hSw
    obtain ⟨hq0, hq1, hq2⟩ := hSw
    go_simp
    try with_reducible rfl
  try simp only [Act.put, List.setIfInBounds_toArray, List.set_cons_zero, List.set_cons_succ]
  refine wpAnyL_take (i := 1) (oi := _) (v := ?_) 16 rfl (by kernel_rfl) (fun _ _ _ h => h) (Or.inl ⟨by rfl, ?_⟩) (by assumption) ?_
  rotate_left
  · intro w' hSw
    try dsimp only at hSw
    obtain ⟨hq0, hq1, hq2⟩ := hSw
    go_simp
    try with_reducible rfl
  try simp only [Act.put, List.setIfInBounds_toArray, List.set_cons_zero, List.set_cons_succ]
  refine wpAnyL_take (i := 2) (oi := _) (v := ?_) 16 rfl (by kernel_rfl) (fun _ _ _ h => h) (Or.inl ⟨by rfl, ?_⟩) (by assumption) ?_
  rotate_left
  · intro w' hSw
    try dsimp only at hSw
    obtain ⟨hq0, hq1, hq2⟩ := hSw
    go_simp
    try with_reducible rfl
  try simp only [Act.put, List.setIfInBounds_toArray, List.set_cons_zero, List.set_cons_succ]
  refine wpAnyL_take (i := 3) (oi := _) (v := ?_) 16 rfl (by kernel_rfl) (fun _ _ _ h => h) (Or.inl ⟨by rfl, ?_⟩) (by assumption) ?_
  rotate_left
  · intro w' hSw
    try dsimp only at hSw
    obtain ⟨hq0, hq1, hq2⟩ := hSw
    go_simp
    try with_reducible rfl
  try simp only [Act.put, List.setIfInBounds_toArray, List.set_cons_zero, List.set_cons_succ]
  refine wpAnyL_take (i := 4) (oi := _) (v := ?_) 16 rfl (by kernel_rfl) (fun _ _ _ h => h) (Or.inl ⟨by rfl, ?_⟩) (by assumption) ?_
  rotate_left
  · intro w' hSw
    try dsimp only at hSw
    obtain ⟨hq0, hq1, hq2⟩ := hSw
    go_simp
    try with_reducible rfl
  try simp only [Act.put, List.setIfInBounds_toArray, List.set_cons_zero, List.set_cons_succ]
  refine wpAnyL_take (i := 5) (oi := _) (v := ?_) 16 rfl (by kernel_rfl) (fun _ _ _ h => h) (Or.inl ⟨by rfl, ?_⟩) (by assumption) ?_
  rotate_left
  · intro w' hSw
    try dsimp only at hSw
    obtain ⟨hq0, hq1, hq2⟩ := hSw
    go_simp
    try with_reducible rfl
  try simp only [Act.put, List.setIfInBounds_toArray, List.set_cons_zero, List.set_cons_succ]
  refine wpAnyL_take (i := 6) (oi := _) (v := ?_) 16 rfl (by kernel_rfl) (fun _ _ _ h => h) (Or.inl ⟨by rfl, ?_⟩) (by assumption) ?_
  rotate_left
  · intro w' hSw
    try dsimp only at hSw
    obtain ⟨hq0, hq1, hq2⟩ := hSw
    go_simp
    try with_reducible rfl
  try simp only [Act.put, List.setIfInBounds_toArray, List.set_cons_zero, List.set_cons_succ]
  refine wpAnyL_take (i := 7) (oi := _) (v := ?_) 16 rfl (by kernel_rfl) (fun _ _ _ h => h) (Or.inl ⟨by rfl, ?_⟩) (by assumption) ?_
  rotate_left
  · intro w' hSw
    try dsimp only at hSw
    obtain ⟨hq0, hq1, hq2⟩ := hSw
    go_simp
    try with_reducible rfl
  try simp only [Act.put, List.setIfInBounds_toArray, List.set_cons_zero, List.set_cons_succ]
  refine wpAnyL_take (i := 8) (oi := _) (v := ?_) 16 rfl (by kernel_rfl) (fun _ _ _ h => h) (Or.inl ⟨by rfl, ?_⟩) (by assumption) ?_
  rotate_left
  · intro w' hSw
    try dsimp only at hSw
    obtain ⟨hq0, hq1, hq2⟩ := hSw
    go_simp
    try with_reducible rfl
  try simp only [Act.put, List.setIfInBounds_toArray, List.set_cons_zero, List.set_cons_succ]
  refine wpAnyL_take (i := 9) (oi := _) (v := ?_) 16 rfl (by kernel_rfl) (fun _ _ _ h => h) (Or.inl ⟨by rfl, ?_⟩) (by assumption) ?_
  rotate_left
  · intro w' hSw
    try dsimp only at hSw
    obtain ⟨hq0, hq1, hq2⟩ := hSw
    go_simp
    try with_reducible rfl
  try simp only [Act.put, List.setIfInBounds_toArray, List.set_cons_zero, List.set_cons_succ]
  refine wpAnyL_take (i := 10) (oi := _) (v := ?_) 16 rfl (by kernel_rfl) (fun _ _ _ h => h) (Or.inl ⟨by rfl, ?_⟩) (by assumption) ?_
  rotate_left
  · intro w' hSw
    try dsimp only at hSw
    obtain ⟨hq0, hq1, hq2⟩ := hSw
    go_simp
    try with_reducible rfl
  try simp only [Act.put, List.setIfInBounds_toArray, List.set_cons_zero, List.set_cons_succ]
  refine wpAnyL_take (i := 11) (oi := _) (v := ?_) 16 rfl (by kernel_rfl) (fun _ _ _ h => h) (Or.inl ⟨by rfl, ?_⟩) (by assumption) ?_
  rotate_left
  · intro w' hSw
    try dsimp only at hSw
    obtain ⟨hq0, hq1, hq2⟩ := hSw
    go_simp
    try with_reducible rfl
  try simp only [Act.put, List.setIfInBounds_toArray, List.set_cons_zero, List.set_cons_succ]
  refine wpAnyL_take (i := 12) (oi := _) (v := ?_) 16 rfl (by kernel_rfl) (fun _ _ _ h => h) (Or.inl ⟨by rfl, ?_⟩) (by assumption) ?_
  rotate_left
  · intro w' hSw
    try dsimp only at hSw
    obtain ⟨hq0, hq1, hq2⟩ := hSw
    go_simp
    try with_reducible rfl
  try simp only [Act.put, List.setIfInBounds_toArray, List.set_cons_zero, List.set_cons_succ]
  refine wpAnyL_take (i := 13) (oi := _) (v := ?_) 16 rfl (by kernel_rfl) (fun _ _ _ h => h) (Or.inl ⟨by rfl, ?_⟩) (by assumption) ?_
  rotate_left
  · intro w' hSw
    try dsimp only at hSw
    obtain ⟨hq0, hq1, hq2⟩ := hSw
    go_simp
    try with_reducible rfl
  try simp only [Act.put, List.setIfInBounds_toArray, List.set_cons_zero, List.set_cons_succ]
  refine wpAnyL_one (i := 14) (o := _) rfl (by kernel_rfl) (fun KC hKC => ?_)
  refine step_call rfl 191 _ _ rfl #[.slice ao9 (d.tapes.2 T).recs.1 cap9, .func (.func 192) #[] #[.pointer (some ⟨q1, 0, none⟩), .pointer (some ⟨q2, 0, none⟩)]] ?_ Tryz.func191 (by kernel_rfl) (by kernel_rfl) CC ?_; (simp [Act.eval, Act.put]); rintro ee w5 ⟨ao', cap', K', rfl, TT⟩; have k1 := KS w5 TT.chg; have f1 : w5.frozen? ⟨gt, T * 2 + 1, none⟩ = false := (World.frozen?_of_block (a := ⟨gt, T * 2 + 1, none⟩) (TT.chg.block gt S3.lt hgt)).trans (S3.frozen _); have t1 : w5.cell? ⟨gt, T * 2 + 1, none⟩ = some (.slice ao9 (d.tapes.2 T).recs.1 cap9) := k1.2.2; refine ⟨_, rfl, ?_⟩
  refine hKC.out _ _ (k1) (fun hHeld => ?_)
  clear hKC KC
  try simp only [Act.put, List.setIfInBounds_toArray, List.set_cons_zero, List.set_cons_succ]
  refine wpAnyL_take (i := 15) (oi := _) (v := ?_) 16 rfl (by kernel_rfl) (fun _ _ _ h => h) (Or.inl ⟨by rfl, ?_⟩) (by assumption) ?_
  rotate_left
  · intro w' hSw
    try dsimp only at hSw
    obtain ⟨hq0, hq1, hq2⟩ := hSw
    go_simp
    try with_reducible rfl
  try simp only [Act.put, List.setIfInBounds_toArray, List.set_cons_zero, List.set_cons_succ]
  refine wpAnyL_take (i := 16) (oi := _) (v := ?_) 16 rfl (by kernel_rfl) (fun _ _ _ h => h) (Or.inl ⟨by rfl, ?_⟩) (by assumption) ?_
  rotate_left
  · intro w' hSw
    try dsimp only at hSw
    obtain ⟨hq0, hq1, hq2⟩ := hSw
    go_simp
    try with_reducible rfl
  try simp only [Act.put, List.setIfInBounds_toArray, List.set_cons_zero, List.set_cons_succ]
  refine wpAnyL_last (o := _) rfl (by kernel_rfl) (fun KC hKC => ?_)
  go_simp
  refine hKC.out _ _ ?_
  clear hKC KC
  try simp only [Act.put, List.setIfInBounds_toArray, List.set_cons_zero, List.set_cons_succ]
  refine wpAnyL_done (by kernel_rfl) ?_ _
  have TK := tape_struck e9 TT
  rw [← eK9] at TK
  obtain ⟨T7, -⟩ := S3.turn_cell nd3 hT (j := 1) (by decide) _ TK (w' := w5.setCell ⟨gt, T * layTape.sz + 1, none⟩ (.slice ao' (strikeL (d.tapes.2 T).recs kd sq).1 cap')) rfl
  have WO7 := WO.tapes (Nat.le_refl _) (Nat.zero_le _) T7
  have hin : ∀ b, b ∈ gt :: catN d.tapes.1 Ls → b ≠ E := fun b hb he => HNE.out (by rw [← he]; exact inK b hb)
  have X7 := HX.out.chgl T7.chg (fun hb => hin E hb rfl)
  have sub7 : ∀ b, b ∈ K1 ++ (K2 ++ (gt :: catN d.tapes.1 (upd Ls T K'))) → b ∈ K1 ++ (K2 ++ (gt :: catN d.tapes.1 Ls)) ∨ w.heap.size ≤ b := fun b hb => by
    rcases List.mem_append.1 hb with h | h
    · exact .inl (List.mem_append_left _ h)
    · rcases List.mem_append.1 h with h | h
      · exact .inl (List.mem_append_right _ (List.mem_append_left _ h))
      · rcases T7.sub b h with h | h
        · exact .inl (inK b h)
        · exact .inr h.1
  have hE7 : E ∉ K1 ++ (K2 ++ (gt :: catN d.tapes.1 (upd Ls T K'))) := fun hm => by
    rcases sub7 E hm with h | h
    · exact HNE.out h
    · omega
  have O7 := WO7.encO hE7
  have C7 : ChgL (E :: (K1 ++ (K2 ++ (gt :: catN d.tapes.1 Ls)))) w (w5.setCell ⟨gt, T * layTape.sz + 1, none⟩ (.slice ao' (strikeL (d.tapes.2 T).recs kd sq).1 cap')) := ((ChgL.refl _ w).drew).trans (T7.chg.mono (fun b hb => List.mem_cons_of_mem _ (inK b hb)))
  have HX7 : Hid (Box (w5.setCell ⟨gt, T * layTape.sz + 1, none⟩ (.slice ao' (strikeL (d.tapes.2 T).recs kd sq).1 cap')) E #[.int .i32 1, .int .u32 0, .int .u32 0, .int .i32 0, .int .u32 0, .int .i64 (d.shape 0), .int .i64 (d.shape 1), .int .i64 (d.shape 2), .int .i64 (d.shape 3), .int .i64 (d.shape 4), .int .i64 (d.shape 5), .int .i64 (d.shape 6), .int .i64 (d.shape 7), .int .i64 (d.shape 8), .slice p1 d.groups.1 c1, .slice p2 d.on.1 c2, .slice (some ⟨gt, 0, none⟩) d.tapes.1 c3, .int .i64 d.writes, .int .i64 d.stop, .bool d.down] 166) := X7
  have HS : Hid (∀ b, b ∈ K1 ++ (K2 ++ ((gt :: catN d.tapes.1 (upd Ls T K')) ++ [])) → b ∈ K1 ++ (K2 ++ (gt :: catN d.tapes.1 Ls)) ∨ w.heap.size ≤ b) := fun b hb => sub7 b (by simpa using hb)
  have HO7 : Hid (EncO (w5.setCell ⟨gt, T * layTape.sz + 1, none⟩ (.slice ao' (strikeL (d.tapes.2 T).recs kd sq).1 cap')) E (strikeW d T kd sq) [.int .i64 (d.shape 0), .int .i64 (d.shape 1), .int .i64 (d.shape 2), .int .i64 (d.shape 3), .int .i64 (d.shape 4), .int .i64 (d.shape 5), .int .i64 (d.shape 6), .int .i64 (d.shape 7), .int .i64 (d.shape 8), .slice p1 d.groups.1 c1, .slice p2 d.on.1 c2, .slice (some ⟨gt, 0, none⟩) d.tapes.1 c3, .int .i64 d.writes, .int .i64 d.stop, .bool d.down] (K1 ++ (K2 ++ ((gt :: catN d.tapes.1 (upd Ls T K')) ++ [])))) := O7
  have HC7 : Hid (ChgL (E :: (K1 ++ (K2 ++ (gt :: catN d.tapes.1 Ls)))) w (w5.setCell ⟨gt, T * layTape.sz + 1, none⟩ (.slice ao' (strikeL (d.tapes.2 T).recs kd sq).1 cap'))) := C7
  clear O7 C7 X7 WO7 T7 TK TT WO S3 CC KS sub7 hE7 hin
  go_wp2
  go_end0
  exact ⟨rfl, _, _, HX7.out, HO7.out, HS.out, HC7.out⟩
set_option maxRecDepth 100000 in
set_option maxHeartbeats 8000000 in
theorem rawWrite_strike (E : Nat) (v0 v1 v2 v3 v4 v5 v6 v7 v8 vp0 vl0 vq0 vp1 vl1 vq1 vp2 vl2 vq2 v9 v10 vb : _) (d d' : WorldD) (K : List Nat) (q0 q1 q2 : Nat) (w : World) (hX : Box w E #[.int .i32 0, .int .u32 0, .int .u32 0, .int .i32 0, .int .u32 0, .int .i64 v0, .int .i64 v1, .int .i64 v2, .int .i64 v3, .int .i64 v4, .int .i64 v5, .int .i64 v6, .int .i64 v7, .int .i64 v8, .slice vp0 vl0 vq0, .slice vp1 vl1 vq1, .slice vp2 vl2 vq2, .int .i64 v9, .int .i64 v10, .bool vb] 166) (hO : EncO w E d [.int .i64 v0, .int .i64 v1, .int .i64 v2, .int .i64 v3, .int .i64 v4, .int .i64 v5, .int .i64 v6, .int .i64 v7, .int .i64 v8, .slice vp0 vl0 vq0, .slice vp1 vl1 vq1, .slice vp2 vl2 vq2, .int .i64 v9, .int .i64 v10, .bool vb] K) (hpw : ¬ (v10 ≠ -1 ∧ v10 ≤ v9)) (hwr : -9223372036854775808 ≤ d'.writes ∧ d'.writes + 1 ≤ 9223372036854775807)
    (hch : ∀ W, Box W E #[.int .i32 1, .int .u32 0, .int .u32 0, .int .i32 0, .int .u32 0, .int .i64 v0, .int .i64 v1, .int .i64 v2, .int .i64 v3, .int .i64 v4, .int .i64 v5, .int .i64 v6, .int .i64 v7, .int .i64 v8, .slice vp0 vl0 vq0, .slice vp1 vl1 vq1, .slice vp2 vl2 vq2, .int .i64 v9, .int .i64 v10, .bool vb] 166 → EncO W E d [.int .i64 v0, .int .i64 v1, .int .i64 v2, .int .i64 v3, .int .i64 v4, .int .i64 v5, .int .i64 v6, .int .i64 v7, .int .i64 v8, .slice vp0 vl0 vq0, .slice vp1 vl1 vq1, .slice vp2 vl2 vq2, .int .i64 v9, .int .i64 v10, .bool vb] K → ChgL [E] w W → Calls Tryz.prog 190 #[.pointer (some ⟨E, 5, none⟩), .pointer (some ⟨q0, 0, none⟩), .pointer (some ⟨q1, 0, none⟩), .pointer (some ⟨q2, 0, none⟩)] W fun e w' => e = .returned (.tuple #[]) ∧ ∃ cs' K', Box w' E ([.int .i32 1, .int .u32 0, .int .u32 0, .int .i32 0, .int .u32 0] ++ cs').toArray 166 ∧ EncO w' E d' cs' K' ∧ (∀ b, b ∈ K' → b ∈ K ∨ W.heap.size ≤ b) ∧ ChgL (E :: K) W w') :
    Calls Tryz.prog 154 #[.pointer (some ⟨E, 0, none⟩), .func (.func 190) #[] #[.pointer (some ⟨q0, 0, none⟩), .pointer (some ⟨q1, 0, none⟩), .pointer (some ⟨q2, 0, none⟩)]] w fun e w' => e = .returned (.tuple #[]) ∧ ∃ cs' K', Box w' E ([.int .i32 0, .int .u32 0, .int .u32 0, .int .i32 0, .int .u32 0] ++ cs').toArray 166 ∧ EncO w' E { d' with writes := d'.writes + 1 } cs' K' ∧ (∀ b, b ∈ K' → b ∈ K ∨ w.heap.size ≤ b) ∧ ChgL (E :: K) w w' := by
  have HWR : Hid (-9223372036854775808 ≤ d'.writes ∧ d'.writes + 1 ≤ 9223372036854775807) := hwr
  have CH : Hid (∀ W, Box W E #[.int .i32 1, .int .u32 0, .int .u32 0, .int .i32 0, .int .u32 0, .int .i64 v0, .int .i64 v1, .int .i64 v2, .int .i64 v3, .int .i64 v4, .int .i64 v5, .int .i64 v6, .int .i64 v7, .int .i64 v8, .slice vp0 vl0 vq0, .slice vp1 vl1 vq1, .slice vp2 vl2 vq2, .int .i64 v9, .int .i64 v10, .bool vb] 166 → EncO W E d [.int .i64 v0, .int .i64 v1, .int .i64 v2, .int .i64 v3, .int .i64 v4, .int .i64 v5, .int .i64 v6, .int .i64 v7, .int .i64 v8, .slice vp0 vl0 vq0, .slice vp1 vl1 vq1, .slice vp2 vl2 vq2, .int .i64 v9, .int .i64 v10, .bool vb] K → ChgL [E] w W → Calls Tryz.prog 190 #[.pointer (some ⟨E, 5, none⟩), .pointer (some ⟨q0, 0, none⟩), .pointer (some ⟨q1, 0, none⟩), .pointer (some ⟨q2, 0, none⟩)] W fun e w' => e = .returned (.tuple #[]) ∧ ∃ cs' K', Box w' E ([.int .i32 1, .int .u32 0, .int .u32 0, .int .i32 0, .int .u32 0] ++ cs').toArray 166 ∧ EncO w' E d' cs' K' ∧ (∀ b, b ∈ K' → b ∈ K ∨ W.heap.size ≤ b) ∧ ChgL (E :: K) W w') := hch
  have hO' : Hid (EncO w E d [.int .i64 v0, .int .i64 v1, .int .i64 v2, .int .i64 v3, .int .i64 v4, .int .i64 v5, .int .i64 v6, .int .i64 v7, .int .i64 v8, .slice vp0 vl0 vq0, .slice vp1 vl1 vq1, .slice vp2 vl2 vq2, .int .i64 v9, .int .i64 v10, .bool vb] K) := hO
  by_cases hs : v10 = -1
  · have d1 : (v10 != -1) = false := by simpa using hs
    clear hpw hwr hch hO hs
    have hE : E < w.heap.size := hX.lt
    have hmf : ∀ (fn : Fn) (first cap : Array Value) (w : World), (Instr.makeFunc fn first cap).run Tryz.prog w = .ok (.func fn first cap) w := fun _ _ _ _ => rfl
    have bA : Below w.heap.size w (w.alloc (.cells #[.pointer (some ⟨E, 0, none⟩)] 104)) := (Below.refl _ _).alloc (Nat.le_refl _) _
    have P1 : Box (w.alloc (.cells #[.pointer (some ⟨E, 0, none⟩)] 104)) w.heap.size #[.pointer (some ⟨E, 0, none⟩)] 104 := box_new _ _ _
    have X1 := hX.below bA hE
    go_enter_defers Tryz.func154, Tryz.ntmps154
    go_upto_region 1 with fail
    obtain ⟨W1, hW1⟩ : ∃ x, x = w.alloc (.cells #[.pointer (some ⟨E, 0, none⟩)] 104) := ⟨_, rfl⟩
    rw [← hW1] at bA P1 X1 ⊢
    have zW : W1.heap.size = w.heap.size + 1 := by rw [hW1]; simp
    clear hW1
    have hp1 : W1.cell? ⟨w.heap.size, 0, none⟩ = some (.pointer (some ⟨E, 0, none⟩)) := P1.cell 0
    have c0 : W1.cell? ⟨E, 0, none⟩ = some (.int .i32 0) := X1.cell 0
    have f0 : W1.frozen? ⟨E, 0, none⟩ = false := X1.frozen 0
    have X2 : Box (W1.setCell ⟨E, 0, none⟩ (.int .i32 1)) E #[.int .i32 1, .int .u32 0, .int .u32 0, .int .i32 0, .int .u32 0, .int .i64 v0, .int .i64 v1, .int .i64 v2, .int .i64 v3, .int .i64 v4, .int .i64 v5, .int .i64 v6, .int .i64 v7, .int .i64 v8, .slice vp0 vl0 vq0, .slice vp1 vl1 vq1, .slice vp2 vl2 vq2, .int .i64 v9, .int .i64 v10, .bool vb] 166 := X1.setc 0 _
    have P2 : Box (W1.setCell ⟨E, 0, none⟩ (.int .i32 1)) w.heap.size #[.pointer (some ⟨E, 0, none⟩)] 104 := P1.seto 0 _ (by omega)
    have C2' : ChgL [E] w (W1.setCell ⟨E, 0, none⟩ (.int .i32 1)) := (ChgL.of_below bA).st _ 0 _ (by simp)
    go_upto_region 2 with (go_at_call 198; refine (lock_one ⟨E, 0, none⟩ _ c0 f0).mono ?_; rintro e w' ⟨rfl, rfl⟩)
    obtain ⟨W2, hW2⟩ : ∃ x, x = W1.setCell ⟨E, 0, none⟩ (.int .i32 1) := ⟨_, rfl⟩
    rw [← hW2] at X2 P2 C2' ⊢
    have z2 : W2.heap.size = w.heap.size + 1 := by rw [hW2]; simpa using zW
    clear hW2 hp1 c0 f0 X1 P1 bA hX
    have hp2 : W2.cell? ⟨w.heap.size, 0, none⟩ = some (.pointer (some ⟨E, 0, none⟩)) := P2.cell 0
    have x17 : W2.cell? ⟨E, 17, none⟩ = some (.int .i64 v9) := X2.cell 17
    have x18 : W2.cell? ⟨E, 18, none⟩ = some (.int .i64 v10) := X2.cell 18
    go_upto_region 3 with fail
    go_quiet (fail)
    go_upto_region 6 with fail
    obtain ⟨W3, hW3⟩ : ∃ x, x = W2.drewN nq := ⟨_, rfl⟩
    rw [← hW3]
    have X3 : Box W3 E #[.int .i32 1, .int .u32 0, .int .u32 0, .int .i32 0, .int .u32 0, .int .i64 v0, .int .i64 v1, .int .i64 v2, .int .i64 v3, .int .i64 v4, .int .i64 v5, .int .i64 v6, .int .i64 v7, .int .i64 v8, .slice vp0 vl0 vq0, .slice vp1 vl1 vq1, .slice vp2 vl2 vq2, .int .i64 v9, .int .i64 v10, .bool vb] 166 := by rw [hW3]; exact X2
    have P3 : Box W3 w.heap.size #[.pointer (some ⟨E, 0, none⟩)] 104 := by rw [hW3]; exact P2
    have C3' : ChgL [E] w W3 := by rw [hW3]; exact ⟨C2'.os, C2'.tape, C2'.output, C2'.size, C2'.block⟩
    have z3 : W3.heap.size = w.heap.size + 1 := by rw [hW3]; exact z2
    have hp3 : W3.cell? ⟨w.heap.size, 0, none⟩ = some (.pointer (some ⟨E, 0, none⟩)) := P3.cell 0
    clear hW3 X2 P2 C2' z2 hp2 x17 x18
    have O3 := hO'.out.chg C3'
    have CC := (CH.out W3 X3 O3 C3').mono (R' := fun e w' => e = .returned (.tuple #[]) ∧ ∃ y0 y1 y2 y3 y4 y5 y6 y7 y8 yp0 yl0 yq0 yp1 yl1 yq1 yp2 yl2 yq2 y9 y10 yb K', Box w' E #[.int .i32 1, .int .u32 0, .int .u32 0, .int .i32 0, .int .u32 0, .int .i64 y0, .int .i64 y1, .int .i64 y2, .int .i64 y3, .int .i64 y4, .int .i64 y5, .int .i64 y6, .int .i64 y7, .int .i64 y8, .slice yp0 yl0 yq0, .slice yp1 yl1 yq1, .slice yp2 yl2 yq2, .int .i64 y9, .int .i64 y10, .bool yb] 166 ∧ EncO w' E d' [.int .i64 y0, .int .i64 y1, .int .i64 y2, .int .i64 y3, .int .i64 y4, .int .i64 y5, .int .i64 y6, .int .i64 y7, .int .i64 y8, .slice yp0 yl0 yq0, .slice yp1 yl1 yq1, .slice yp2 yl2 yq2, .int .i64 y9, .int .i64 y10, .bool yb] K' ∧ (∀ b, b ∈ K' → b ∈ K ∨ W3.heap.size ≤ b) ∧ ChgL (E :: K) W3 w') (fun e w' ⟨he, cs', K', hX', hO', hs', hC'⟩ => by
      obtain ⟨y0, y1, y2, y3, y4, y5, y6, y7, y8, yp0, yl0, yq0, yp1, yl1, yq1, yp2, yl2, yq2, y9, y10, yb, rfl⟩ := world15L hO'.own
      exact ⟨he, y0, y1, y2, y3, y4, y5, y6, y7, y8, yp0, yl0, yq0, yp1, yl1, yq1, yp2, yl2, yq2, y9, y10, yb, K', hX', hO', hs', hC'⟩)
    have hKl : ∀ b, b ∈ K → b < w.heap.size := fun b hb => layWorld.own_lt hO'.out.own b hb
    go_wp2_with (go_at_call 190; refine CC.mono ?_; rintro e w5 ⟨rfl, y0, y1, y2, y3, y4, y5, y6, y7, y8, yp0, yl0, yq0, yp1, yl1, yq1, yp2, yl2, yq2, y9, y10, yb, K5, X5, O5, s5, C5⟩; have P5 := P3.chgl C5 (by intro hm; rcases List.mem_cons.1 hm with h | h; omega; have := hKl _ h; omega); have hp5 : w5.cell? ⟨w.heap.size, 0, none⟩ = some (.pointer (some ⟨E, 0, none⟩)) := P5.cell 0; have x17 : w5.cell? ⟨E, 17, none⟩ = some (.int .i64 y9) := X5.cell 17; have f17 : w5.frozen? ⟨E, 17, none⟩ = false := X5.frozen 17; have HY9 : Hid (y9 = d'.writes) := writes_of O5.own; have zz : IntKind.i64.wrap (y9 + 1) = y9 + 1 := by rw [IntKind.wrap_i64]; have := HWR.out; have := HY9.out; omega)
    refine leaves_cons (f := 199) (args := #[.pointer (some ⟨E, 0, none⟩)]) (by simp) (by simp [go_sem]) ?_
    have X6 : Box (w5.setCell ⟨E, 17, none⟩ (.int .i64 (y9 + 1))) E #[.int .i32 1, .int .u32 0, .int .u32 0, .int .i32 0, .int .u32 0, .int .i64 y0, .int .i64 y1, .int .i64 y2, .int .i64 y3, .int .i64 y4, .int .i64 y5, .int .i64 y6, .int .i64 y7, .int .i64 y8, .slice yp0 yl0 yq0, .slice yp1 yl1 yq1, .slice yp2 yl2 yq2, .int .i64 (y9 + 1), .int .i64 y10, .bool yb] 166 := X5.setc 17 _
    refine (unlock_door ⟨E, 0, none⟩ _ _ (X6.cell 0) (X6.frozen 0)).mono ?_
    rintro e u' w'' ⟨rfl, rfl, rfl⟩
    have X7 : Box ((w5.setCell ⟨E, 17, none⟩ (.int .i64 (y9 + 1))).setCell ⟨E, 0, none⟩ (.int .i32 0)) E #[.int .i32 0, .int .u32 0, .int .u32 0, .int .i32 0, .int .u32 0, .int .i64 y0, .int .i64 y1, .int .i64 y2, .int .i64 y3, .int .i64 y4, .int .i64 y5, .int .i64 y6, .int .i64 y7, .int .i64 y8, .slice yp0 yl0 yq0, .slice yp1 yl1 yq1, .slice yp2 yl2 yq2, .int .i64 (y9 + 1), .int .i64 y10, .bool yb] 166 := X6.setc 0 _
    have C7 : ChgL [E] w5 ((w5.setCell ⟨E, 17, none⟩ (.int .i64 (y9 + 1))).setCell ⟨E, 0, none⟩ (.int .i32 0)) := ((ChgL.refl _ _).st _ 17 _ (by simp)).st _ 0 _ (by simp)
    have O7 : EncO w5 E { d' with writes := d'.writes + 1 } [.int .i64 y0, .int .i64 y1, .int .i64 y2, .int .i64 y3, .int .i64 y4, .int .i64 y5, .int .i64 y6, .int .i64 y7, .int .i64 y8, .slice yp0 yl0 yq0, .slice yp1 yl1 yq1, .slice yp2 yl2 yq2, .int .i64 (y9 + 1), .int .i64 y10, .bool yb] K5 := by
      rw [← HY9.out]
      exact ⟨own_writesK (y9 + 1) (by have := HWR.out; have := HY9.out; omega) O5.own, O5.nd, O5.ne⟩
    simp only [Leaves, settle]
    refine ⟨_, results_none rfl _ _ _, rfl, _, K5, X7, O7.chg C7, fun b hb => ?_, ?_⟩
    · rcases s5 b hb with h | h
      · exact .inl h
      · exact .inr (by omega)
    · exact (C3'.mono (fun b hb => by simp at hb; simp [hb])).trans (C5.trans (C7.mono (fun b hb => by simp at hb; simp [hb])))
  · have d1 : (v10 != -1) = true := by simpa using hs
    have d2 : decide (v10 ≤ v9) = false := by
      simp only [decide_eq_false_iff_not]
      exact fun h => hpw ⟨hs, h⟩
    clear hpw hwr hch hO hs
    have hE : E < w.heap.size := hX.lt
    have hmf : ∀ (fn : Fn) (first cap : Array Value) (w : World), (Instr.makeFunc fn first cap).run Tryz.prog w = .ok (.func fn first cap) w := fun _ _ _ _ => rfl
    have bA : Below w.heap.size w (w.alloc (.cells #[.pointer (some ⟨E, 0, none⟩)] 104)) := (Below.refl _ _).alloc (Nat.le_refl _) _
    have P1 : Box (w.alloc (.cells #[.pointer (some ⟨E, 0, none⟩)] 104)) w.heap.size #[.pointer (some ⟨E, 0, none⟩)] 104 := box_new _ _ _
    have X1 := hX.below bA hE
    go_enter_defers Tryz.func154, Tryz.ntmps154
    go_upto_region 1 with fail
    obtain ⟨W1, hW1⟩ : ∃ x, x = w.alloc (.cells #[.pointer (some ⟨E, 0, none⟩)] 104) := ⟨_, rfl⟩
    rw [← hW1] at bA P1 X1 ⊢
    have zW : W1.heap.size = w.heap.size + 1 := by rw [hW1]; simp
    clear hW1
    have hp1 : W1.cell? ⟨w.heap.size, 0, none⟩ = some (.pointer (some ⟨E, 0, none⟩)) := P1.cell 0
    have c0 : W1.cell? ⟨E, 0, none⟩ = some (.int .i32 0) := X1.cell 0
    have f0 : W1.frozen? ⟨E, 0, none⟩ = false := X1.frozen 0
    have X2 : Box (W1.setCell ⟨E, 0, none⟩ (.int .i32 1)) E #[.int .i32 1, .int .u32 0, .int .u32 0, .int .i32 0, .int .u32 0, .int .i64 v0, .int .i64 v1, .int .i64 v2, .int .i64 v3, .int .i64 v4, .int .i64 v5, .int .i64 v6, .int .i64 v7, .int .i64 v8, .slice vp0 vl0 vq0, .slice vp1 vl1 vq1, .slice vp2 vl2 vq2, .int .i64 v9, .int .i64 v10, .bool vb] 166 := X1.setc 0 _
    have P2 : Box (W1.setCell ⟨E, 0, none⟩ (.int .i32 1)) w.heap.size #[.pointer (some ⟨E, 0, none⟩)] 104 := P1.seto 0 _ (by omega)
    have C2' : ChgL [E] w (W1.setCell ⟨E, 0, none⟩ (.int .i32 1)) := (ChgL.of_below bA).st _ 0 _ (by simp)
    go_upto_region 2 with (go_at_call 198; refine (lock_one ⟨E, 0, none⟩ _ c0 f0).mono ?_; rintro e w' ⟨rfl, rfl⟩)
    obtain ⟨W2, hW2⟩ : ∃ x, x = W1.setCell ⟨E, 0, none⟩ (.int .i32 1) := ⟨_, rfl⟩
    rw [← hW2] at X2 P2 C2' ⊢
    have z2 : W2.heap.size = w.heap.size + 1 := by rw [hW2]; simpa using zW
    clear hW2 hp1 c0 f0 X1 P1 bA hX
    have hp2 : W2.cell? ⟨w.heap.size, 0, none⟩ = some (.pointer (some ⟨E, 0, none⟩)) := P2.cell 0
    have x17 : W2.cell? ⟨E, 17, none⟩ = some (.int .i64 v9) := X2.cell 17
    have x18 : W2.cell? ⟨E, 18, none⟩ = some (.int .i64 v10) := X2.cell 18
    go_upto_region 3 with fail
    go_quiet (fail)
    go_upto_region 6 with fail
    obtain ⟨W3, hW3⟩ : ∃ x, x = W2.drewN nq := ⟨_, rfl⟩
    rw [← hW3]
    have X3 : Box W3 E #[.int .i32 1, .int .u32 0, .int .u32 0, .int .i32 0, .int .u32 0, .int .i64 v0, .int .i64 v1, .int .i64 v2, .int .i64 v3, .int .i64 v4, .int .i64 v5, .int .i64 v6, .int .i64 v7, .int .i64 v8, .slice vp0 vl0 vq0, .slice vp1 vl1 vq1, .slice vp2 vl2 vq2, .int .i64 v9, .int .i64 v10, .bool vb] 166 := by rw [hW3]; exact X2
    have P3 : Box W3 w.heap.size #[.pointer (some ⟨E, 0, none⟩)] 104 := by rw [hW3]; exact P2
    have C3' : ChgL [E] w W3 := by rw [hW3]; exact ⟨C2'.os, C2'.tape, C2'.output, C2'.size, C2'.block⟩
    have z3 : W3.heap.size = w.heap.size + 1 := by rw [hW3]; exact z2
    have hp3 : W3.cell? ⟨w.heap.size, 0, none⟩ = some (.pointer (some ⟨E, 0, none⟩)) := P3.cell 0
    clear hW3 X2 P2 C2' z2 hp2 x17 x18
    have O3 := hO'.out.chg C3'
    have CC := (CH.out W3 X3 O3 C3').mono (R' := fun e w' => e = .returned (.tuple #[]) ∧ ∃ y0 y1 y2 y3 y4 y5 y6 y7 y8 yp0 yl0 yq0 yp1 yl1 yq1 yp2 yl2 yq2 y9 y10 yb K', Box w' E #[.int .i32 1, .int .u32 0, .int .u32 0, .int .i32 0, .int .u32 0, .int .i64 y0, .int .i64 y1, .int .i64 y2, .int .i64 y3, .int .i64 y4, .int .i64 y5, .int .i64 y6, .int .i64 y7, .int .i64 y8, .slice yp0 yl0 yq0, .slice yp1 yl1 yq1, .slice yp2 yl2 yq2, .int .i64 y9, .int .i64 y10, .bool yb] 166 ∧ EncO w' E d' [.int .i64 y0, .int .i64 y1, .int .i64 y2, .int .i64 y3, .int .i64 y4, .int .i64 y5, .int .i64 y6, .int .i64 y7, .int .i64 y8, .slice yp0 yl0 yq0, .slice yp1 yl1 yq1, .slice yp2 yl2 yq2, .int .i64 y9, .int .i64 y10, .bool yb] K' ∧ (∀ b, b ∈ K' → b ∈ K ∨ W3.heap.size ≤ b) ∧ ChgL (E :: K) W3 w') (fun e w' ⟨he, cs', K', hX', hO', hs', hC'⟩ => by
      obtain ⟨y0, y1, y2, y3, y4, y5, y6, y7, y8, yp0, yl0, yq0, yp1, yl1, yq1, yp2, yl2, yq2, y9, y10, yb, rfl⟩ := world15L hO'.own
      exact ⟨he, y0, y1, y2, y3, y4, y5, y6, y7, y8, yp0, yl0, yq0, yp1, yl1, yq1, yp2, yl2, yq2, y9, y10, yb, K', hX', hO', hs', hC'⟩)
    have hKl : ∀ b, b ∈ K → b < w.heap.size := fun b hb => layWorld.own_lt hO'.out.own b hb
    go_wp2_with (go_at_call 190; refine CC.mono ?_; rintro e w5 ⟨rfl, y0, y1, y2, y3, y4, y5, y6, y7, y8, yp0, yl0, yq0, yp1, yl1, yq1, yp2, yl2, yq2, y9, y10, yb, K5, X5, O5, s5, C5⟩; have P5 := P3.chgl C5 (by intro hm; rcases List.mem_cons.1 hm with h | h; omega; have := hKl _ h; omega); have hp5 : w5.cell? ⟨w.heap.size, 0, none⟩ = some (.pointer (some ⟨E, 0, none⟩)) := P5.cell 0; have x17 : w5.cell? ⟨E, 17, none⟩ = some (.int .i64 y9) := X5.cell 17; have f17 : w5.frozen? ⟨E, 17, none⟩ = false := X5.frozen 17; have HY9 : Hid (y9 = d'.writes) := writes_of O5.own; have zz : IntKind.i64.wrap (y9 + 1) = y9 + 1 := by rw [IntKind.wrap_i64]; have := HWR.out; have := HY9.out; omega)
    refine leaves_cons (f := 199) (args := #[.pointer (some ⟨E, 0, none⟩)]) (by simp) (by simp [go_sem]) ?_
    have X6 : Box (w5.setCell ⟨E, 17, none⟩ (.int .i64 (y9 + 1))) E #[.int .i32 1, .int .u32 0, .int .u32 0, .int .i32 0, .int .u32 0, .int .i64 y0, .int .i64 y1, .int .i64 y2, .int .i64 y3, .int .i64 y4, .int .i64 y5, .int .i64 y6, .int .i64 y7, .int .i64 y8, .slice yp0 yl0 yq0, .slice yp1 yl1 yq1, .slice yp2 yl2 yq2, .int .i64 (y9 + 1), .int .i64 y10, .bool yb] 166 := X5.setc 17 _
    refine (unlock_door ⟨E, 0, none⟩ _ _ (X6.cell 0) (X6.frozen 0)).mono ?_
    rintro e u' w'' ⟨rfl, rfl, rfl⟩
    have X7 : Box ((w5.setCell ⟨E, 17, none⟩ (.int .i64 (y9 + 1))).setCell ⟨E, 0, none⟩ (.int .i32 0)) E #[.int .i32 0, .int .u32 0, .int .u32 0, .int .i32 0, .int .u32 0, .int .i64 y0, .int .i64 y1, .int .i64 y2, .int .i64 y3, .int .i64 y4, .int .i64 y5, .int .i64 y6, .int .i64 y7, .int .i64 y8, .slice yp0 yl0 yq0, .slice yp1 yl1 yq1, .slice yp2 yl2 yq2, .int .i64 (y9 + 1), .int .i64 y10, .bool yb] 166 := X6.setc 0 _
    have C7 : ChgL [E] w5 ((w5.setCell ⟨E, 17, none⟩ (.int .i64 (y9 + 1))).setCell ⟨E, 0, none⟩ (.int .i32 0)) := ((ChgL.refl _ _).st _ 17 _ (by simp)).st _ 0 _ (by simp)
    have O7 : EncO w5 E { d' with writes := d'.writes + 1 } [.int .i64 y0, .int .i64 y1, .int .i64 y2, .int .i64 y3, .int .i64 y4, .int .i64 y5, .int .i64 y6, .int .i64 y7, .int .i64 y8, .slice yp0 yl0 yq0, .slice yp1 yl1 yq1, .slice yp2 yl2 yq2, .int .i64 (y9 + 1), .int .i64 y10, .bool yb] K5 := by
      rw [← HY9.out]
      exact ⟨own_writesK (y9 + 1) (by have := HWR.out; have := HY9.out; omega) O5.own, O5.nd, O5.ne⟩
    simp only [Leaves, settle]
    refine ⟨_, results_none rfl _ _ _, rfl, _, K5, X7, O7.chg C7, fun b hb => ?_, ?_⟩
    · rcases s5 b hb with h | h
      · exact .inl h
      · exact .inr (by omega)
    · exact (C3'.mono (fun b hb => by simp at hb; simp [hb])).trans (C5.trans (C7.mono (fun b hb => by simp at hb; simp [hb])))
end Go.Proofs.YtdgbnongbmgdcaaGreat

namespace Go.Proofs.YtdgbnongbmgdcaaGreat
open Go.RowKit F256
set_option linter.unusedVariables false
set_option linter.unusedSimpArgs false
set_option maxHeartbeats 8000000 in
set_option maxRecDepth 20000 in
theorem strike_ok (E : Nat) (v0 v1 v2 v3 v4 v5 v6 v7 v8 vp0 vl0 vq0 vp1 vl1 vq1 vp2 vl2 vq2 v9 v10 vb : _) (d : WorldD) (K : List Nat) (T : Nat) (kd sq : Int) (w : World) (hX : Box w E #[.int .i32 0, .int .u32 0, .int .u32 0, .int .i32 0, .int .u32 0, .int .i64 v0, .int .i64 v1, .int .i64 v2, .int .i64 v3, .int .i64 v4, .int .i64 v5, .int .i64 v6, .int .i64 v7, .int .i64 v8, .slice vp0 vl0 vq0, .slice vp1 vl1 vq1, .slice vp2 vl2 vq2, .int .i64 v9, .int .i64 v10, .bool vb] 166) (hO : EncO w E d [.int .i64 v0, .int .i64 v1, .int .i64 v2, .int .i64 v3, .int .i64 v4, .int .i64 v5, .int .i64 v6, .int .i64 v7, .int .i64 v8, .slice vp0 vl0 vq0, .slice vp1 vl1 vq1, .slice vp2 vl2 vq2, .int .i64 v9, .int .i64 v10, .bool vb] K) (hT : T < d.tapes.1) (hn : (d.tapes.2 T).recs.1 ≤ 1048576) (hpw : ¬ (v10 ≠ -1 ∧ v10 ≤ v9)) (hwr : -9223372036854775808 ≤ d.writes ∧ d.writes + 1 ≤ 9223372036854775807) :
    Calls Tryz.prog 133 #[.pointer (some ⟨E, 0, none⟩), .int .i64 (T : Int), .int .i64 kd, .int .i64 sq] w fun e w' => e = .returned (.tuple #[]) ∧ ∃ cs' K', Box w' E (([.int .i32 0, .int .u32 0, .int .u32 0, .int .i32 0, .int .u32 0] : List Value) ++ cs').toArray 166 ∧ EncO w' E { strikeW d T kd sq with writes := d.writes + 1 } cs' K' ∧ (∀ b, b ∈ K' → b ∈ K ∨ w.heap.size ≤ b) ∧ ChgL (E :: K) w w' := by
  have hmf : ∀ (fn : Fn) (first cap : Array Value) (w : World), (Instr.makeFunc fn first cap).run Tryz.prog w = .ok (.func fn first cap) w := fun _ _ _ _ => rfl
  have hE : E < w.heap.size := hX.lt
  have TB := three_newb w #[.int .i64 (T : Int)] #[.int .i64 kd] #[.int .i64 sq] 2 2 2
  have X1 := hX.below TB.bel hE
  go_enter Tryz.func133, Tryz.ntmps133
  go_upto_region 1 with fail
  obtain ⟨W, hW⟩ : ∃ x, x = (((w.alloc (.cells #[.int .i64 (T : Int)] 2)).alloc (.cells #[.int .i64 kd] 2)).alloc (.cells #[.int .i64 sq] 2)) := ⟨_, rfl⟩
  rw [← hW] at TB X1 ⊢
  have zW : w.heap.size ≤ W.heap.size := TB.bel.size
  clear hW hX
  have O1 : EncO W E d [.int .i64 v0, .int .i64 v1, .int .i64 v2, .int .i64 v3, .int .i64 v4, .int .i64 v5, .int .i64 v6, .int .i64 v7, .int .i64 v8, .slice vp0 vl0 vq0, .slice vp1 vl1 vq1, .slice vp2 vl2 vq2, .int .i64 v9, .int .i64 v10, .bool vb] K := ⟨Lay.own_kept _ hO.own (fun b hb => TB.bel.block b (layWorld.own_lt hO.own b hb)), hO.nd, hO.ne⟩
  have CR := rawWrite_strike E v0 v1 v2 v3 v4 v5 v6 v7 v8 vp0 vl0 vq0 vp1 vl1 vq1 vp2 vl2 vq2 v9 v10 vb d (strikeW d T kd sq) K w.heap.size (w.heap.size + 1) (w.heap.size + 1 + 1) W X1 O1 hpw hwr (fun W' hX' hO' hC' => strikeChange E d _ K _ _ _ T kd sq hT hn W' hX' hO' ((World.cell?_of_block (hC'.block (w.heap.size) TB.b1.lt (by simp; omega))).trans (TB.b1.cell 0)) ((World.cell?_of_block (hC'.block (w.heap.size + 1) TB.b2.lt (by simp; omega))).trans (TB.b2.cell 0)) ((World.cell?_of_block (hC'.block (w.heap.size + 1 + 1) TB.b3.lt (by simp; omega))).trans (TB.b3.cell 0)) ⟨by have := hC'.size; have := TB.b3.lt; omega, fun hb => by have := layWorld.own_lt hO.own _ hb; omega⟩ ⟨by have := hC'.size; have := TB.b3.lt; omega, fun hb => by have := layWorld.own_lt hO.own _ hb; omega⟩ ⟨by have := hC'.size; have := TB.b3.lt; omega, fun hb => by have := layWorld.own_lt hO.own _ hb; omega⟩)
  have HCR := CR
  clear CR hO hpw hwr O1 X1
  go_wp2_with (go_at_call 154; refine HCR.mono ?_; rintro e w5 ⟨rfl, cs', K', X5, O5, s5, C5⟩)
  go_end0
  exact ⟨rfl, cs', K', X5, O5, fun b hb => (s5 b hb).imp id (fun h => by omega), (ChgL.of_below TB.bel).trans C5⟩
set_option maxHeartbeats 8000000 in
set_option maxRecDepth 20000 in
theorem strike_fail (E : Nat) (v0 v1 v2 v3 v4 v5 v6 v7 v8 vp0 vl0 vq0 vp1 vl1 vq1 vp2 vl2 vq2 v9 v10 vb : _) (d : WorldD) (K : List Nat) (T : Nat) (kd sq : Int) (w : World) (hX : Box w E #[.int .i32 0, .int .u32 0, .int .u32 0, .int .i32 0, .int .u32 0, .int .i64 v0, .int .i64 v1, .int .i64 v2, .int .i64 v3, .int .i64 v4, .int .i64 v5, .int .i64 v6, .int .i64 v7, .int .i64 v8, .slice vp0 vl0 vq0, .slice vp1 vl1 vq1, .slice vp2 vl2 vq2, .int .i64 v9, .int .i64 v10, .bool vb] 166) (h1 : ∀ x, x ∈ ([.int .i64 v0, .int .i64 v1, .int .i64 v2, .int .i64 v3, .int .i64 v4, .int .i64 v5, .int .i64 v6, .int .i64 v7, .int .i64 v8, .slice vp0 vl0 vq0, .slice none 0 0, .slice vp2 vl2 vq2, .int .i64 v9, .int .i64 v10, .bool true] : List Value) → x.oneCell' = true) (hs : v10 ≠ -1) (hw : v10 ≤ v9) :
    Calls Tryz.prog 133 #[.pointer (some ⟨E, 0, none⟩), .int .i64 (T : Int), .int .i64 kd, .int .i64 sq] w fun e w' => e = .panicked [{ v := .iface 199 (.agg #[]), recovered := false }] ∧ Box w' E #[.int .i32 0, .int .u32 0, .int .u32 1, .int .i32 0, .int .u32 0, .int .i64 v0, .int .i64 v1, .int .i64 v2, .int .i64 v3, .int .i64 v4, .int .i64 v5, .int .i64 v6, .int .i64 v7, .int .i64 v8, .slice vp0 vl0 vq0, .slice none 0 0, .slice vp2 vl2 vq2, .int .i64 v9, .int .i64 v10, .bool true] 166 ∧ ChgL [E] w w' := by
  have hmf : ∀ (fn : Fn) (first cap : Array Value) (w : World), (Instr.makeFunc fn first cap).run Tryz.prog w = .ok (.func fn first cap) w := fun _ _ _ _ => rfl
  have hE : E < w.heap.size := hX.lt
  have TB := three_newb w #[.int .i64 (T : Int)] #[.int .i64 kd] #[.int .i64 sq] 2 2 2
  have X1 := hX.below TB.bel hE
  go_enter Tryz.func133, Tryz.ntmps133
  go_upto_region 1 with fail
  obtain ⟨W, hW⟩ : ∃ x, x = (((w.alloc (.cells #[.int .i64 (T : Int)] 2)).alloc (.cells #[.int .i64 kd] 2)).alloc (.cells #[.int .i64 sq] 2)) := ⟨_, rfl⟩
  rw [← hW] at TB X1 ⊢
  have zW : w.heap.size ≤ W.heap.size := TB.bel.size
  clear hW hX
  have CR := fun fv => rawWrite_fail E v0 v1 v2 v3 v4 v5 v6 v7 v8 vp0 vl0 vq0 vp1 vl1 vq1 vp2 vl2 vq2 v9 v10 vb fv W X1 h1 hs hw
  clear h1 hs hw X1
  go_wp2_with (go_at_call 154; refine (CR _).mono ?_; rintro e w5 ⟨rfl, X5, C5⟩)
  exact ⟨rfl, rfl, X5, (ChgL.of_below TB.bel).trans C5⟩
set_option maxHeartbeats 8000000 in
theorem strikeWork_ok (E : Nat) (v0 v1 v2 v3 v4 v5 v6 v7 v8 vp0 vl0 vq0 vp1 vl1 vq1 vp2 vl2 vq2 v9 v10 vb : _) (d : WorldD) (K : List Nat) (T : Nat) (kd sq : Int) (w : World) (hX : Box w E #[.int .i32 0, .int .u32 0, .int .u32 0, .int .i32 0, .int .u32 0, .int .i64 v0, .int .i64 v1, .int .i64 v2, .int .i64 v3, .int .i64 v4, .int .i64 v5, .int .i64 v6, .int .i64 v7, .int .i64 v8, .slice vp0 vl0 vq0, .slice vp1 vl1 vq1, .slice vp2 vl2 vq2, .int .i64 v9, .int .i64 v10, .bool vb] 166) (a0 a1 a2 : Nat) (h0 : w.cell? ⟨a0, 0, none⟩ = some (.int .i64 (T : Int))) (h01 : w.cell? ⟨a1, 0, none⟩ = some (.int .i64 kd)) (h02 : w.cell? ⟨a2, 0, none⟩ = some (.int .i64 sq)) (hO : EncO w E d [.int .i64 v0, .int .i64 v1, .int .i64 v2, .int .i64 v3, .int .i64 v4, .int .i64 v5, .int .i64 v6, .int .i64 v7, .int .i64 v8, .slice vp0 vl0 vq0, .slice vp1 vl1 vq1, .slice vp2 vl2 vq2, .int .i64 v9, .int .i64 v10, .bool vb] K) (hT : T < d.tapes.1) (hn : (d.tapes.2 T).recs.1 ≤ 1048576) (hpw : ¬ (v10 ≠ -1 ∧ v10 ≤ v9)) (hwr : -9223372036854775808 ≤ d.writes ∧ d.writes + 1 ≤ 9223372036854775807) :
    Calls Tryz.prog 132 #[.pointer (some ⟨E, 0, none⟩), .pointer (some ⟨a0, 0, none⟩), .pointer (some ⟨a1, 0, none⟩), .pointer (some ⟨a2, 0, none⟩)] w fun e w' => e = .returned (.tuple #[]) ∧ ∃ cs' K', Box w' E (([.int .i32 0, .int .u32 0, .int .u32 0, .int .i32 0, .int .u32 0] : List Value) ++ cs').toArray 166 ∧ EncO w' E { strikeW d T kd sq with writes := d.writes + 1 } cs' K' ∧ (∀ b, b ∈ K' → b ∈ K ∨ w.heap.size ≤ b) ∧ ChgL (E :: K) w w' := by
  have CR := strike_ok E v0 v1 v2 v3 v4 v5 v6 v7 v8 vp0 vl0 vq0 vp1 vl1 vq1 vp2 vl2 vq2 v9 v10 vb d K T kd sq w hX hO hT hn hpw hwr
  clear hX hO hT hn hpw hwr
  go_enter Tryz.func132, Tryz.ntmps132
  go_wp2_with (go_at_call 133; refine CR.mono ?_; rintro e w5 ⟨rfl, cs', K', X5, O5, s5, C5⟩)
  go_end0
  exact ⟨rfl, cs', K', X5, O5, s5, C5⟩
set_option maxHeartbeats 8000000 in
theorem strikeWork_fail (E : Nat) (v0 v1 v2 v3 v4 v5 v6 v7 v8 vp0 vl0 vq0 vp1 vl1 vq1 vp2 vl2 vq2 v9 v10 vb : _) (d : WorldD) (K : List Nat) (T : Nat) (kd sq : Int) (w : World) (hX : Box w E #[.int .i32 0, .int .u32 0, .int .u32 0, .int .i32 0, .int .u32 0, .int .i64 v0, .int .i64 v1, .int .i64 v2, .int .i64 v3, .int .i64 v4, .int .i64 v5, .int .i64 v6, .int .i64 v7, .int .i64 v8, .slice vp0 vl0 vq0, .slice vp1 vl1 vq1, .slice vp2 vl2 vq2, .int .i64 v9, .int .i64 v10, .bool vb] 166) (a0 a1 a2 : Nat) (h0 : w.cell? ⟨a0, 0, none⟩ = some (.int .i64 (T : Int))) (h01 : w.cell? ⟨a1, 0, none⟩ = some (.int .i64 kd)) (h02 : w.cell? ⟨a2, 0, none⟩ = some (.int .i64 sq)) (h1 : ∀ x, x ∈ ([.int .i64 v0, .int .i64 v1, .int .i64 v2, .int .i64 v3, .int .i64 v4, .int .i64 v5, .int .i64 v6, .int .i64 v7, .int .i64 v8, .slice vp0 vl0 vq0, .slice none 0 0, .slice vp2 vl2 vq2, .int .i64 v9, .int .i64 v10, .bool true] : List Value) → x.oneCell' = true) (hs : v10 ≠ -1) (hw : v10 ≤ v9) :
    Calls Tryz.prog 132 #[.pointer (some ⟨E, 0, none⟩), .pointer (some ⟨a0, 0, none⟩), .pointer (some ⟨a1, 0, none⟩), .pointer (some ⟨a2, 0, none⟩)] w fun e w' => e = .panicked [{ v := .iface 199 (.agg #[]), recovered := false }] ∧ Box w' E #[.int .i32 0, .int .u32 0, .int .u32 1, .int .i32 0, .int .u32 0, .int .i64 v0, .int .i64 v1, .int .i64 v2, .int .i64 v3, .int .i64 v4, .int .i64 v5, .int .i64 v6, .int .i64 v7, .int .i64 v8, .slice vp0 vl0 vq0, .slice none 0 0, .slice vp2 vl2 vq2, .int .i64 v9, .int .i64 v10, .bool true] 166 ∧ ChgL [E] w w' := by
  have CR := strike_fail E v0 v1 v2 v3 v4 v5 v6 v7 v8 vp0 vl0 vq0 vp1 vl1 vq1 vp2 vl2 vq2 v9 v10 vb d K T kd sq w hX h1 hs hw
  clear hX h1 hs hw
  go_enter Tryz.func132, Tryz.ntmps132
  go_wp2_with (go_at_call 133; refine CR.mono ?_; rintro e w5 ⟨rfl, X5, C5⟩)
  exact ⟨rfl, rfl, X5, C5⟩
set_option maxHeartbeats 16000000 in
set_option maxRecDepth 100000 in
theorem power_strike (d : WorldD) (cs : List Value) (hi : Nat) (T : Nat) (kd sq : Int) (a0 a1 a2 : Nat) (w : World) (h : layWorld.rd w hi d cs) (hhi : hi ≤ w.heap.size) (hsz : szWorldD d ≤ 1048576) (hc0 : w.cell? ⟨a0, 0, none⟩ = some (.int .i64 (T : Int))) (hl0 : a0 < w.heap.size) (hc1 : w.cell? ⟨a1, 0, none⟩ = some (.int .i64 kd)) (hl1 : a1 < w.heap.size) (hc2 : w.cell? ⟨a2, 0, none⟩ = some (.int .i64 sq)) (hl2 : a2 < w.heap.size) (hT : T < d.tapes.1) (hn : (d.tapes.2 T).recs.1 ≤ 1048576) (hwr : -9223372036854775808 ≤ d.writes ∧ d.writes + 1 ≤ 9223372036854775807) (P : WorldResultD → Prop) (hPf : d.stop ≠ -1 ∧ d.stop ≤ d.writes → P ⟨9, cutW d⟩) (hPo : ¬ (d.stop ≠ -1 ∧ d.stop ≤ d.writes) → P ⟨0, { strikeW d T kd sq with writes := d.writes + 1 }⟩) :
    Calls Tryz.prog 87 #[.agg cs.toArray, .func (.func 132) #[] #[.pointer (some ⟨a0, 0, none⟩), .pointer (some ⟨a1, 0, none⟩), .pointer (some ⟨a2, 0, none⟩)]] w (ResPost P w) := by
  obtain ⟨v0, v1, v2, v3, v4, v5, v6, v7, v8, vp0, vl0, vq0, vp1, vl1, vq1, vp2, vl2, vq2, v9, v10, vb, rfl⟩ := world15 h
  have hmf : ∀ (fn : Fn) (first cap : Array Value) (w : World), (Instr.makeFunc fn first cap).run Tryz.prog w = .ok (.func fn first cap) w := fun _ _ _ _ => rfl
  have T0 := two_newb w #[.int .i64 v0, .int .i64 v1, .int .i64 v2, .int .i64 v3, .int .i64 v4, .int .i64 v5, .int .i64 v6, .int .i64 v7, .int .i64 v8, .slice vp0 vl0 vq0, .slice vp1 vl1 vq1, .slice vp2 vl2 vq2, .int .i64 v9, .int .i64 v10, .bool vb] #[.int .i64 0, .int .i64 0, .int .i64 0, .int .i64 0, .int .i64 0, .int .i64 0, .int .i64 0, .int .i64 0, .int .i64 0, .int .i64 0, .slice none 0 0, .slice none 0 0, .slice none 0 0, .int .i64 0, .int .i64 0, .bool false] 30 34
  have CC := fun w' (hb : Below w.heap.size w w') => copyWorld_is [.int .i64 v0, .int .i64 v1, .int .i64 v2, .int .i64 v3, .int .i64 v4, .int .i64 v5, .int .i64 v6, .int .i64 v7, .int .i64 v8, .slice vp0 vl0 vq0, .slice vp1 vl1 vq1, .slice vp2 vl2 vq2, .int .i64 v9, .int .i64 v10, .bool vb] d hi w' (layWorld.rd_below h hb hhi) (Nat.le_trans hhi hb.size) hsz
  clear h
  go_enter_defers Tryz.func87, Tryz.ntmps87
  go_wp2_with (refine wp_loadBox 30 (.tmp 2) rfl rfl (w.heap.size) rfl (cs := [.int .i64 v0, .int .i64 v1, .int .i64 v2, .int .i64 v3, .int .i64 v4, .int .i64 v5, .int .i64 v6, .int .i64 v7, .int .i64 v8, .slice vp0 vl0 vq0, .slice vp1 vl1 vq1, .slice vp2 vl2 vq2, .int .i64 v9, .int .i64 v10, .bool vb]) (T0.b1) Tryz.underlying30 size_W rfl ?_)
  refine (CC _ T0.bel).mono ?_
  rintro e w2 ⟨c2, rfl, o2, b2⟩
  obtain ⟨u0, u1, u2, u3, u4, u5, u6, u7, u8, up0, ul0, uq0, up1, ul1, uq1, up2, ul2, uq2, u9, u10, ub, rfl⟩ := world15O o2
  have T2 := T0.call b2
  have z2 : w.heap.size + 1 < w2.heap.size := T2.b2.lt
  have TB := two_newb w2 #[.int .i32 0, .int .u32 0, .int .u32 0, .int .i32 0, .int .u32 0, .int .i64 u0, .int .i64 u1, .int .i64 u2, .int .i64 u3, .int .i64 u4, .int .i64 u5, .int .i64 u6, .int .i64 u7, .int .i64 u8, .slice up0 ul0 uq0, .slice up1 ul1 uq1, .slice up2 ul2 uq2, .int .i64 u9, .int .i64 u10, .bool ub] #[.pointer (some ⟨w2.heap.size, 0, none⟩)] 166 104
  obtain ⟨K, hk1, hk2, hk3⟩ := o2
  have hkz : ∀ b, b ∈ K → w.heap.size ≤ b ∧ b < w2.heap.size := fun b hb => ⟨by have := hk3 b hb; simp at this; omega, (hk3 b hb).2⟩
  go_upto_region 2 with fail
  obtain ⟨W3, hW3⟩ : ∃ x, x = (w2.alloc (.cells #[.int .i32 0, .int .u32 0, .int .u32 0, .int .i32 0, .int .u32 0, .int .i64 u0, .int .i64 u1, .int .i64 u2, .int .i64 u3, .int .i64 u4, .int .i64 u5, .int .i64 u6, .int .i64 u7, .int .i64 u8, .slice up0 ul0 uq0, .slice up1 ul1 uq1, .slice up2 ul2 uq2, .int .i64 u9, .int .i64 u10, .bool ub] 166)).alloc (.cells #[.pointer (some ⟨w2.heap.size, 0, none⟩)] 104) := ⟨_, rfl⟩
  rw [← hW3] at TB ⊢
  clear hW3
  have T3 := T2.call TB.bel
  have O3 : EncO W3 w2.heap.size d [.int .i64 u0, .int .i64 u1, .int .i64 u2, .int .i64 u3, .int .i64 u4, .int .i64 u5, .int .i64 u6, .int .i64 u7, .int .i64 u8, .slice up0 ul0 uq0, .slice up1 ul1 uq1, .slice up2 ul2 uq2, .int .i64 u9, .int .i64 u10, .bool ub] K := ⟨Lay.own_kept _ hk1 (fun b hb => TB.bel.block b (hkz b hb).2), hk2, fun hb => by have := hkz _ hb; omega⟩
  have z3 : w2.heap.size + 1 < W3.heap.size := TB.b2.lt
  have hst := stop_of hk1
  have hwt := writes_of hk1
  have q0 : W3.cell? ⟨a0, 0, none⟩ = some (.int .i64 (T : Int)) := (T3.bel.cell (p := ⟨a0, 0, none⟩) hl0).trans hc0
  have q1 : W3.cell? ⟨a1, 0, none⟩ = some (.int .i64 kd) := (T3.bel.cell (p := ⟨a1, 0, none⟩) hl1).trans hc1
  have q2 : W3.cell? ⟨a2, 0, none⟩ = some (.int .i64 sq) := (T3.bel.cell (p := ⟨a2, 0, none⟩) hl2).trans hc2
  have x5 : W3.cell? ⟨w2.heap.size + 1, 0, none⟩ = some (.pointer (some ⟨w2.heap.size, 0, none⟩)) := TB.b2.cell 0
  by_cases hf : u10 ≠ -1 ∧ u10 ≤ u9
  · have hP : P ⟨9, cutW d⟩ := hPf (by rw [← hst, ← hwt]; exact hf)
    obtain ⟨KC, kc1, kc2, kc3⟩ := own_cutK hk1 hk2
    have CF := strikeWork_fail w2.heap.size u0 u1 u2 u3 u4 u5 u6 u7 u8 up0 ul0 uq0 up1 ul1 uq1 up2 ul2 uq2 u9 u10 ub d K T kd sq W3 TB.b1 a0 a1 a2 q0 q1 q2 (fun x hx => layWorld.own_one kc1 x hx) hf.1 hf.2
    have HS : Hid (u10 = d.stop ∧ u9 = d.writes) := ⟨hst, hwt⟩
    clear hst hwt hf hPf hPo
    go_wp2_with (go_at_call 132; refine CF.mono ?_; rintro e w5 ⟨rfl, X5, C5⟩)
    have hR5 := T3.b2.chgl C5 (by simp; omega)
    have P5 := TB.b2.chgl C5 (by simp)
    refine leaves_cons (f := 153) (args := #[.pointer (some ⟨w.heap.size + 1, 0, none⟩), .pointer (some ⟨w2.heap.size + 1, 0, none⟩)]) (by simp) (by simp [go_sem]) ?_
    refine (tell_panic _ _ (w.heap.size + 1) (w2.heap.size + 1) w2.heap.size 0 1 0 _ _ _ _ _ _ _ _ _ _ _ _ _ _ _ _ _ _ _ _ _ _ hR5 (P5.cell 0) X5 (by omega) (by omega)).mono ?_
    rintro e u' w7 ⟨rfl, rfl, R7, C7⟩
    simp only [settle, Leaves, List.dropWhile]
    have z5 := C5.size
    have z7 := C7.size
    have B5 : Below w.heap.size w w5 := T3.bel.trans (C5.bel (fun b hb => by simp at hb; omega) T3.bel.size)
    have B7 : Below w.heap.size w w7 := B5.trans (C7.bel (fun b hb => by simp at hb; omega) B5.size)
    have O7 : OwnT layWorld w7 w.heap.size w7.heap.size (cutW d) [.int .i64 u0, .int .i64 u1, .int .i64 u2, .int .i64 u3, .int .i64 u4, .int .i64 u5, .int .i64 u6, .int .i64 u7, .int .i64 u8, .slice up0 ul0 uq0, .slice none 0 0, .slice up2 ul2 uq2, .int .i64 u9, .int .i64 u10, .bool true] := by
      refine ⟨KC, ?_, kc2, fun b hb => ⟨(hkz b (kc3 b hb)).1, by have := hkz b (kc3 b hb); omega⟩⟩
      refine Lay.own_chgL _ (Lay.own_chgL _ (Lay.own_kept _ kc1 (fun b hb => TB.bel.block b (hkz b (kc3 b hb)).2)) C5 (fun b hb hm => ?_)) C7 (fun b hb hm => ?_)
      · simp at hm; have := hkz b (kc3 b hb); omega
      · simp at hm; have := hk3 b (kc3 b hb); have := T0.b2.lt; omega
    have hT : ResPost P w (.returned (.agg #[.int .i64 9, .int .i64 u0, .int .i64 u1, .int .i64 u2, .int .i64 u3, .int .i64 u4, .int .i64 u5, .int .i64 u6, .int .i64 u7, .int .i64 u8, .slice up0 ul0 uq0, .slice none 0 0, .slice up2 ul2 uq2, .int .i64 u9, .int .i64 u10, .bool true])) w7 := by
      refine ⟨⟨9, _⟩, [.int .i64 9, .int .i64 u0, .int .i64 u1, .int .i64 u2, .int .i64 u3, .int .i64 u4, .int .i64 u5, .int .i64 u6, .int .i64 u7, .int .i64 u8, .slice up0 ul0 uq0, .slice none 0 0, .slice up2 ul2 uq2, .int .i64 u9, .int .i64 u10, .bool true], rfl, hP, ?_, B7⟩
      exact own_resOf 9 (by decide) O7
    exact ⟨_, results_cell_row Tryz.results87 _ w7 (w.heap.size + 1) 34 #[.int .i64 9, .int .i64 u0, .int .i64 u1, .int .i64 u2, .int .i64 u3, .int .i64 u4, .int .i64 u5, .int .i64 u6, .int .i64 u7, .int .i64 u8, .slice up0 ul0 uq0, .slice none 0 0, .slice up2 ul2 uq2, .int .i64 u9, .int .i64 u10, .bool true] (0, 0) (.struct _) rfl R7 Tryz.underlying34 rfl (by rw [size_WR]; rfl), hT⟩
  · have hP : P ⟨0, { strikeW d T kd sq with writes := d.writes + 1 }⟩ := hPo (by rw [← hst, ← hwt]; exact hf)
    have CF := (strikeWork_ok w2.heap.size u0 u1 u2 u3 u4 u5 u6 u7 u8 up0 ul0 uq0 up1 ul1 uq1 up2 ul2 uq2 u9 u10 ub d K T kd sq W3 TB.b1 a0 a1 a2 q0 q1 q2 O3 hT hn hf hwr).mono (R' := fun e w' => e = .returned (.tuple #[]) ∧ ∃ y0 y1 y2 y3 y4 y5 y6 y7 y8 yp0 yl0 yq0 yp1 yl1 yq1 yp2 yl2 yq2 y9 y10 yb K', Box w' w2.heap.size #[.int .i32 0, .int .u32 0, .int .u32 0, .int .i32 0, .int .u32 0, .int .i64 y0, .int .i64 y1, .int .i64 y2, .int .i64 y3, .int .i64 y4, .int .i64 y5, .int .i64 y6, .int .i64 y7, .int .i64 y8, .slice yp0 yl0 yq0, .slice yp1 yl1 yq1, .slice yp2 yl2 yq2, .int .i64 y9, .int .i64 y10, .bool yb] 166 ∧ EncO w' w2.heap.size { strikeW d T kd sq with writes := d.writes + 1 } [.int .i64 y0, .int .i64 y1, .int .i64 y2, .int .i64 y3, .int .i64 y4, .int .i64 y5, .int .i64 y6, .int .i64 y7, .int .i64 y8, .slice yp0 yl0 yq0, .slice yp1 yl1 yq1, .slice yp2 yl2 yq2, .int .i64 y9, .int .i64 y10, .bool yb] K' ∧ (∀ b, b ∈ K' → b ∈ K ∨ W3.heap.size ≤ b) ∧ ChgL (w2.heap.size :: K) W3 w') (fun e w' ⟨he, cs', K', hX', hO', hs', hC'⟩ => by
      obtain ⟨y0, y1, y2, y3, y4, y5, y6, y7, y8, yp0, yl0, yq0, yp1, yl1, yq1, yp2, yl2, yq2, y9, y10, yb, rfl⟩ := world15L hO'.own
      exact ⟨he, y0, y1, y2, y3, y4, y5, y6, y7, y8, yp0, yl0, yq0, yp1, yl1, yq1, yp2, yl2, yq2, y9, y10, yb, K', hX', hO', hs', hC'⟩)
    have hRK : w.heap.size + 1 ∉ w2.heap.size :: K := fun hm => by
      rcases List.mem_cons.1 hm with h | h
      · omega
      · have := hk3 _ h; have := T0.b2.lt; omega
    clear hst hwt hf hPf hPo
    go_wp2_with (first | (go_at_call 132; refine CF.mono ?_; rintro e w5 ⟨rfl, y0, y1, y2, y3, y4, y5, y6, y7, y8, yp0, yl0, yq0, yp1, yl1, yq1, yp2, yl2, yq2, y9, y10, yb, K5, X5, O5, s5, C5⟩; have hR5 := T3.b2.chgl C5 hRK) | (refine wp_loadBox 34 (.tmp 4) rfl rfl (w.heap.size + 1) rfl (cs := [.int .i64 0, .int .i64 0, .int .i64 0, .int .i64 0, .int .i64 0, .int .i64 0, .int .i64 0, .int .i64 0, .int .i64 0, .int .i64 0, .slice none 0 0, .slice none 0 0, .slice none 0 0, .int .i64 0, .int .i64 0, .bool false]) (hR5) Tryz.underlying34 size_WR rfl ?_) | (refine wp_storeBox 34 _ _ rfl rfl (w.heap.size + 1) rfl (cs := [.int .i64 0, .int .i64 0, .int .i64 0, .int .i64 0, .int .i64 0, .int .i64 0, .int .i64 0, .int .i64 0, .int .i64 0, .int .i64 0, .slice none 0 0, .slice none 0 0, .slice none 0 0, .int .i64 0, .int .i64 0, .bool false]) (old := [.int .i64 0, .int .i64 0, .int .i64 0, .int .i64 0, .int .i64 0, .int .i64 0, .int .i64 0, .int .i64 0, .int .i64 0, .int .i64 0, .slice none 0 0, .slice none 0 0, .slice none 0 0, .int .i64 0, .int .i64 0, .bool false]) rfl hR5 size_WR rfl rfl (code_one 0 (by decide) w) ?_; intro w6 R6 C6 z6))
    have z5 := C5.size
    have P5 := TB.b2.chgl C5 (fun hm => by
      rcases List.mem_cons.1 hm with h | h
      · omega
      · have := hkz _ h; omega)
    have P6 := P5.chgl C6 (by simp; omega)
    have X6 := X5.chgl C6 (by simp; omega)
    refine leaves_cons (f := 153) (args := #[.pointer (some ⟨w.heap.size + 1, 0, none⟩), .pointer (some ⟨w2.heap.size + 1, 0, none⟩)]) (by simp) (by simp [go_sem]) ?_
    refine (tell_idle (w.heap.size + 1) (w2.heap.size + 1) w2.heap.size 0 0 0 _ _ _ _ _ _ _ _ _ _ _ _ _ _ _ _ _ _ _ _ _ _ R6 (P6.cell 0) X6 (by omega) (by omega)).mono ?_
    rintro e u' w7 ⟨rfl, rfl, R7, C7⟩
    simp only [settle, Leaves]
    have z7 := C7.size
    have hK5 : ∀ b, b ∈ K5 → w.heap.size ≤ b ∧ b ≠ w.heap.size + 1 := fun b hb => by
      rcases s5 b hb with h | h
      · exact ⟨(hkz b h).1, fun e => hRK (by rw [← e]; exact List.mem_cons_of_mem _ h)⟩
      · omega
    have B5 : Below w.heap.size w w5 := T3.bel.trans (C5.bel (fun b hb => by
      rcases List.mem_cons.1 hb with h | h
      · omega
      · exact (hkz b h).1) T3.bel.size)
    have B6 : Below w.heap.size w w6 := B5.trans (C6.bel (fun b hb => by simp at hb; omega) B5.size)
    have B7 : Below w.heap.size w w7 := B6.trans (C7.bel (fun b hb => by simp at hb; omega) B6.size)
    have O7 : OwnT layWorld w7 w.heap.size w7.heap.size { strikeW d T kd sq with writes := d.writes + 1 } [.int .i64 y0, .int .i64 y1, .int .i64 y2, .int .i64 y3, .int .i64 y4, .int .i64 y5, .int .i64 y6, .int .i64 y7, .int .i64 y8, .slice yp0 yl0 yq0, .slice yp1 yl1 yq1, .slice yp2 yl2 yq2, .int .i64 y9, .int .i64 y10, .bool yb] := by
      have h5 := fun b hb => layWorld.own_lt O5.own b hb
      refine ⟨K5, ?_, O5.nd, fun b hb => ⟨(hK5 b hb).1, by have := h5 b hb; omega⟩⟩
      exact Lay.own_chgL _ (Lay.own_chgL _ O5.own C6 (fun b hb hm => by simp at hm; exact (hK5 b hb).2 hm)) C7 (fun b hb hm => by simp at hm; exact (hK5 b hb).2 hm)
    have hT : ResPost P w (.returned (.agg #[.int .i64 0, .int .i64 y0, .int .i64 y1, .int .i64 y2, .int .i64 y3, .int .i64 y4, .int .i64 y5, .int .i64 y6, .int .i64 y7, .int .i64 y8, .slice yp0 yl0 yq0, .slice yp1 yl1 yq1, .slice yp2 yl2 yq2, .int .i64 y9, .int .i64 y10, .bool yb])) w7 := by
      refine ⟨⟨0, _⟩, [.int .i64 0, .int .i64 y0, .int .i64 y1, .int .i64 y2, .int .i64 y3, .int .i64 y4, .int .i64 y5, .int .i64 y6, .int .i64 y7, .int .i64 y8, .slice yp0 yl0 yq0, .slice yp1 yl1 yq1, .slice yp2 yl2 yq2, .int .i64 y9, .int .i64 y10, .bool yb], rfl, hP, ?_, B7⟩
      exact own_resOf 0 (by decide) O7
    exact ⟨_, results_cell_row Tryz.results87 _ w7 (w.heap.size + 1) 34 #[.int .i64 0, .int .i64 y0, .int .i64 y1, .int .i64 y2, .int .i64 y3, .int .i64 y4, .int .i64 y5, .int .i64 y6, .int .i64 y7, .int .i64 y8, .slice yp0 yl0 yq0, .slice yp1 yl1 yq1, .slice yp2 yl2 yq2, .int .i64 y9, .int .i64 y10, .bool yb] (0, 0) (.struct _) rfl R7 Tryz.underlying34 rfl (by rw [size_WR]; rfl), hT⟩
end Go.Proofs.YtdgbnongbmgdcaaGreat

namespace Go.Proofs.YtdgbnongbmgdcaaGreat
open Go.RowKit F256
set_option linter.unusedVariables false
set_option linter.unusedSimpArgs false
set_option maxHeartbeats 8000000 in
set_option maxRecDepth 20000 in
theorem l5Raw_fail (b : Nat) (v0 v1 v2 v3 v4 v5 v6 v7 v8 vp0 vl0 vq0 vp1 vl1 vq1 vp2 vl2 vq2 v9 v10 vb : _) (w : World) (hB : Box w b #[.int .i64 v0, .int .i64 v1, .int .i64 v2, .int .i64 v3, .int .i64 v4, .int .i64 v5, .int .i64 v6, .int .i64 v7, .int .i64 v8, .slice vp0 vl0 vq0, .slice vp1 vl1 vq1, .slice vp2 vl2 vq2, .int .i64 v9, .int .i64 v10, .bool vb] 30) (hd : vb = false) (hs : v10 ≠ -1) (hw : v10 ≤ v9) :
    Calls Tryz.prog 101 #[.pointer (some ⟨b, 0, none⟩)] w fun e w' => e = .returned (.bool false) ∧ Box w' b #[.int .i64 v0, .int .i64 v1, .int .i64 v2, .int .i64 v3, .int .i64 v4, .int .i64 v5, .int .i64 v6, .int .i64 v7, .int .i64 v8, .slice vp0 vl0 vq0, .slice none 0 0, .slice vp2 vl2 vq2, .int .i64 v9, .int .i64 v10, .bool true] 30 ∧ ChgL [b] w w' := by
  subst hd
  have d1 : (v10 != -1) = true := by simpa using hs
  have d2 : decide (v10 ≤ v9) = true := by simpa using hw
  have x12 : w.cell? ⟨b, 12, none⟩ = some (.int .i64 v9) := hB.cell 12
  have x13 : w.cell? ⟨b, 13, none⟩ = some (.int .i64 v10) := hB.cell 13
  have x14 : w.cell? ⟨b, 14, none⟩ = some (.bool false) := hB.cell 14
  clear hs hw
  go_enter Tryz.func101, Tryz.ntmps101
  go_upto_region 3 with fail
  go_quiet (fail)
  go_upto_region 4 with fail
  obtain ⟨W, hW⟩ : ∃ x, x = w.drewN nq := ⟨_, rfl⟩
  rw [← hW]
  have X1 : Box W b #[.int .i64 v0, .int .i64 v1, .int .i64 v2, .int .i64 v3, .int .i64 v4, .int .i64 v5, .int .i64 v6, .int .i64 v7, .int .i64 v8, .slice vp0 vl0 vq0, .slice vp1 vl1 vq1, .slice vp2 vl2 vq2, .int .i64 v9, .int .i64 v10, .bool false] 30 := by rw [hW]; exact hB
  have C1 : ChgL [b] w W := by rw [hW]; exact ⟨rfl, rfl, rfl, Nat.le_refl _, fun _ _ _ => rfl⟩
  clear hW x12 x13 x14 hB
  have y0 : W.cell? ⟨b, 14, none⟩ = some (.bool false) := X1.cell 14
  have yf0 : W.frozen? ⟨b, 14, none⟩ = false := X1.frozen 14
  have X2 : Box (W.setCell ⟨b, 14, none⟩ (.bool true)) b #[.int .i64 v0, .int .i64 v1, .int .i64 v2, .int .i64 v3, .int .i64 v4, .int .i64 v5, .int .i64 v6, .int .i64 v7, .int .i64 v8, .slice vp0 vl0 vq0, .slice vp1 vl1 vq1, .slice vp2 vl2 vq2, .int .i64 v9, .int .i64 v10, .bool true] 30 := X1.setc 14 _
  have y1 : (W.setCell ⟨b, 14, none⟩ (.bool true)).cell? ⟨b, 10, none⟩ = some (.slice vp1 vl1 vq1) := X2.cell 10
  have yf1 : (W.setCell ⟨b, 14, none⟩ (.bool true)).frozen? ⟨b, 10, none⟩ = false := X2.frozen 10
  have X3 : Box ((W.setCell ⟨b, 14, none⟩ (.bool true)).setCell ⟨b, 10, none⟩ (.slice none 0 0)) b #[.int .i64 v0, .int .i64 v1, .int .i64 v2, .int .i64 v3, .int .i64 v4, .int .i64 v5, .int .i64 v6, .int .i64 v7, .int .i64 v8, .slice vp0 vl0 vq0, .slice none 0 0, .slice vp2 vl2 vq2, .int .i64 v9, .int .i64 v10, .bool true] 30 := X2.setc 10 _
  have C3 : ChgL [b] w ((W.setCell ⟨b, 14, none⟩ (.bool true)).setCell ⟨b, 10, none⟩ (.slice none 0 0)) := (C1.st _ 14 _ (by simp)).st _ 10 _ (by simp)
  clear X1 X2 C1
  go_wp2
  go_ret
  exact ⟨rfl, X3, C3⟩
set_option maxHeartbeats 8000000 in
set_option maxRecDepth 20000 in
theorem l5Raw_ok1 (b : Nat) (v0 v1 v2 v3 v4 v5 v6 v7 v8 vp0 vl0 vq0 vp1 vl1 vq1 vp2 vl2 vq2 v9 v10 vb : _) (w : World) (hB : Box w b #[.int .i64 v0, .int .i64 v1, .int .i64 v2, .int .i64 v3, .int .i64 v4, .int .i64 v5, .int .i64 v6, .int .i64 v7, .int .i64 v8, .slice vp0 vl0 vq0, .slice vp1 vl1 vq1, .slice vp2 vl2 vq2, .int .i64 v9, .int .i64 v10, .bool vb] 30) (hd : vb = false) (d1 : (v10 != -1) = false) (hwr : -9223372036854775808 ≤ v9 ∧ v9 + 1 ≤ 9223372036854775807) :
    Calls Tryz.prog 101 #[.pointer (some ⟨b, 0, none⟩)] w fun e w' => e = .returned (.bool true) ∧ Box w' b #[.int .i64 v0, .int .i64 v1, .int .i64 v2, .int .i64 v3, .int .i64 v4, .int .i64 v5, .int .i64 v6, .int .i64 v7, .int .i64 v8, .slice vp0 vl0 vq0, .slice vp1 vl1 vq1, .slice vp2 vl2 vq2, .int .i64 (v9 + 1), .int .i64 v10, .bool vb] 30 ∧ ChgL [b] w w' := by
  have HD : Hid (vb = false) := hd
  obtain ⟨vc, hvc⟩ : ∃ x : Bool, x = vb := ⟨_, rfl⟩
  have zz : IntKind.i64.wrap (v9 + 1) = v9 + 1 := by rw [IntKind.wrap_i64]; omega
  have x12 : w.cell? ⟨b, 12, none⟩ = some (.int .i64 v9) := hB.cell 12
  have x13 : w.cell? ⟨b, 13, none⟩ = some (.int .i64 v10) := hB.cell 13
  have x14 : w.cell? ⟨b, 14, none⟩ = some (.bool false) := by rw [← HD.out]; exact hB.cell 14
  clear hwr hd
  go_enter Tryz.func101, Tryz.ntmps101
  go_upto_region 3 with fail
  go_quiet (fail)
  go_upto_region 7 with fail
  obtain ⟨W, hW⟩ : ∃ x, x = w.drewN nq := ⟨_, rfl⟩
  rw [← hW]
  have X1 : Box W b #[.int .i64 v0, .int .i64 v1, .int .i64 v2, .int .i64 v3, .int .i64 v4, .int .i64 v5, .int .i64 v6, .int .i64 v7, .int .i64 v8, .slice vp0 vl0 vq0, .slice vp1 vl1 vq1, .slice vp2 vl2 vq2, .int .i64 v9, .int .i64 v10, .bool vb] 30 := by rw [hW]; exact hB
  have C1 : ChgL [b] w W := by rw [hW]; exact ⟨rfl, rfl, rfl, Nat.le_refl _, fun _ _ _ => rfl⟩
  clear hW x12 x13 x14 hB
  have y0 : W.cell? ⟨b, 12, none⟩ = some (.int .i64 v9) := X1.cell 12
  have yf0 : W.frozen? ⟨b, 12, none⟩ = false := X1.frozen 12
  have X2 : Box (W.setCell ⟨b, 12, none⟩ (.int .i64 (v9 + 1))) b #[.int .i64 v0, .int .i64 v1, .int .i64 v2, .int .i64 v3, .int .i64 v4, .int .i64 v5, .int .i64 v6, .int .i64 v7, .int .i64 v8, .slice vp0 vl0 vq0, .slice vp1 vl1 vq1, .slice vp2 vl2 vq2, .int .i64 (v9 + 1), .int .i64 v10, .bool vb] 30 := X1.setc 12 _
  have C2' : ChgL [b] w (W.setCell ⟨b, 12, none⟩ (.int .i64 (v9 + 1))) := C1.st _ 12 _ (by simp)
  clear X1 C1
  go_wp2
  go_ret
  exact ⟨rfl, X2, C2'⟩
set_option maxHeartbeats 8000000 in
set_option maxRecDepth 20000 in
theorem l5Raw_ok2 (b : Nat) (v0 v1 v2 v3 v4 v5 v6 v7 v8 vp0 vl0 vq0 vp1 vl1 vq1 vp2 vl2 vq2 v9 v10 vb : _) (w : World) (hB : Box w b #[.int .i64 v0, .int .i64 v1, .int .i64 v2, .int .i64 v3, .int .i64 v4, .int .i64 v5, .int .i64 v6, .int .i64 v7, .int .i64 v8, .slice vp0 vl0 vq0, .slice vp1 vl1 vq1, .slice vp2 vl2 vq2, .int .i64 v9, .int .i64 v10, .bool vb] 30) (hd : vb = false) (d1 : (v10 != -1) = true) (d2 : decide (v10 ≤ v9) = false) (hwr : -9223372036854775808 ≤ v9 ∧ v9 + 1 ≤ 9223372036854775807) :
    Calls Tryz.prog 101 #[.pointer (some ⟨b, 0, none⟩)] w fun e w' => e = .returned (.bool true) ∧ Box w' b #[.int .i64 v0, .int .i64 v1, .int .i64 v2, .int .i64 v3, .int .i64 v4, .int .i64 v5, .int .i64 v6, .int .i64 v7, .int .i64 v8, .slice vp0 vl0 vq0, .slice vp1 vl1 vq1, .slice vp2 vl2 vq2, .int .i64 (v9 + 1), .int .i64 v10, .bool vb] 30 ∧ ChgL [b] w w' := by
  have HD : Hid (vb = false) := hd
  obtain ⟨vc, hvc⟩ : ∃ x : Bool, x = vb := ⟨_, rfl⟩
  have zz : IntKind.i64.wrap (v9 + 1) = v9 + 1 := by rw [IntKind.wrap_i64]; omega
  have x12 : w.cell? ⟨b, 12, none⟩ = some (.int .i64 v9) := hB.cell 12
  have x13 : w.cell? ⟨b, 13, none⟩ = some (.int .i64 v10) := hB.cell 13
  have x14 : w.cell? ⟨b, 14, none⟩ = some (.bool false) := by rw [← HD.out]; exact hB.cell 14
  clear hwr hd
  go_enter Tryz.func101, Tryz.ntmps101
  go_upto_region 3 with fail
  go_quiet (fail)
  go_upto_region 7 with fail
  obtain ⟨W, hW⟩ : ∃ x, x = w.drewN nq := ⟨_, rfl⟩
  rw [← hW]
  have X1 : Box W b #[.int .i64 v0, .int .i64 v1, .int .i64 v2, .int .i64 v3, .int .i64 v4, .int .i64 v5, .int .i64 v6, .int .i64 v7, .int .i64 v8, .slice vp0 vl0 vq0, .slice vp1 vl1 vq1, .slice vp2 vl2 vq2, .int .i64 v9, .int .i64 v10, .bool vb] 30 := by rw [hW]; exact hB
  have C1 : ChgL [b] w W := by rw [hW]; exact ⟨rfl, rfl, rfl, Nat.le_refl _, fun _ _ _ => rfl⟩
  clear hW x12 x13 x14 hB
  have y0 : W.cell? ⟨b, 12, none⟩ = some (.int .i64 v9) := X1.cell 12
  have yf0 : W.frozen? ⟨b, 12, none⟩ = false := X1.frozen 12
  have X2 : Box (W.setCell ⟨b, 12, none⟩ (.int .i64 (v9 + 1))) b #[.int .i64 v0, .int .i64 v1, .int .i64 v2, .int .i64 v3, .int .i64 v4, .int .i64 v5, .int .i64 v6, .int .i64 v7, .int .i64 v8, .slice vp0 vl0 vq0, .slice vp1 vl1 vq1, .slice vp2 vl2 vq2, .int .i64 (v9 + 1), .int .i64 v10, .bool vb] 30 := X1.setc 12 _
  have C2' : ChgL [b] w (W.setCell ⟨b, 12, none⟩ (.int .i64 (v9 + 1))) := C1.st _ 12 _ (by simp)
  clear X1 C1
  go_wp2
  go_ret
  exact ⟨rfl, X2, C2'⟩
theorem l5Raw_ok (b : Nat) (v0 v1 v2 v3 v4 v5 v6 v7 v8 vp0 vl0 vq0 vp1 vl1 vq1 vp2 vl2 vq2 v9 v10 vb : _) (w : World) (hB : Box w b #[.int .i64 v0, .int .i64 v1, .int .i64 v2, .int .i64 v3, .int .i64 v4, .int .i64 v5, .int .i64 v6, .int .i64 v7, .int .i64 v8, .slice vp0 vl0 vq0, .slice vp1 vl1 vq1, .slice vp2 vl2 vq2, .int .i64 v9, .int .i64 v10, .bool vb] 30) (hd : vb = false) (hpw : ¬ (v10 ≠ -1 ∧ v10 ≤ v9)) (hwr : -9223372036854775808 ≤ v9 ∧ v9 + 1 ≤ 9223372036854775807) :
    Calls Tryz.prog 101 #[.pointer (some ⟨b, 0, none⟩)] w fun e w' => e = .returned (.bool true) ∧ Box w' b #[.int .i64 v0, .int .i64 v1, .int .i64 v2, .int .i64 v3, .int .i64 v4, .int .i64 v5, .int .i64 v6, .int .i64 v7, .int .i64 v8, .slice vp0 vl0 vq0, .slice vp1 vl1 vq1, .slice vp2 vl2 vq2, .int .i64 (v9 + 1), .int .i64 v10, .bool vb] 30 ∧ ChgL [b] w w' := by
  by_cases hs : v10 = -1
  · exact l5Raw_ok1 b v0 v1 v2 v3 v4 v5 v6 v7 v8 vp0 vl0 vq0 vp1 vl1 vq1 vp2 vl2 vq2 v9 v10 vb w hB hd (by simpa using hs) hwr
  · exact l5Raw_ok2 b v0 v1 v2 v3 v4 v5 v6 v7 v8 vp0 vl0 vq0 vp1 vl1 vq1 vp2 vl2 vq2 v9 v10 vb w hB hd (by simpa using hs) (by simp only [decide_eq_false_iff_not]; exact fun h => hpw ⟨hs, h⟩) hwr
end Go.Proofs.YtdgbnongbmgdcaaGreat

namespace Go.Proofs.YtdgbnongbmgdcaaGreat
open Go.RowKit F256
set_option linter.unusedVariables false
set_option linter.unusedSimpArgs false
def FailsP (d : WorldD) : Prop := d.stop ≠ -1 ∧ d.stop ≤ d.writes
def trustedW (d : WorldD) (G k : Nat) : WorldD := { trustW d G k with writes := d.writes + 1 }
def TrustAns (d : WorldD) (g k : Int) (r : WorldResultD) : Prop := (∃ x, x ≠ 0 ∧ AskAns d x ∧ r = ⟨x, zeroW⟩) ∨ (AskAns d 0 ∧ ((¬ DriveP d.shape g k ∧ r = ⟨3, zeroW⟩) ∨ (DriveP d.shape g k ∧ ((¬ HasP d.on.1 d.on.2 g ∧ r = ⟨8, zeroW⟩) ∨ (HasP d.on.1 d.on.2 g ∧ ((FailsP d ∧ r = ⟨9, cutW d⟩) ∨ (¬ FailsP d ∧ r = ⟨0, trustedW d g.toNat k.toNat⟩)))))))
theorem TrustAns.one {d : WorldD} {g k : Int} {r q : WorldResultD} (h : TrustAns d g k r) (l : TrustAns d g k q) : r = q := by
  rcases h with ⟨x, h1, h2, rfl⟩ | ⟨h1, h⟩ <;> rcases l with ⟨y, k1, k2, rfl⟩ | ⟨k1, l⟩
  · rw [h2.one k2]
  · exact absurd (h2.one k1) h1
  · exact absurd (k2.one h1) k1
  · rcases h with ⟨h2, rfl⟩ | ⟨h2, h⟩ <;> rcases l with ⟨k2, rfl⟩ | ⟨k2, l⟩
    · rfl
    · exact absurd k2 h2
    · exact absurd h2 k2
    · rcases h with ⟨h3, rfl⟩ | ⟨h3, h⟩ <;> rcases l with ⟨k3, rfl⟩ | ⟨k3, l⟩
      · rfl
      · exact absurd k3 h3
      · exact absurd h3 k3
      · rcases h with ⟨h4, rfl⟩ | ⟨h4, rfl⟩ <;> rcases l with ⟨k4, rfl⟩ | ⟨k4, rfl⟩
        · rfl
        · exact absurd h4 k4
        · exact absurd k4 h4
        · rfl
theorem ask_up {d : WorldD} (h : AskAns d 0) : d.down = false := by
  rcases h with ⟨h, _⟩ | ⟨_, ⟨_, h⟩ | ⟨h, _⟩⟩
  · exact absurd rfl h
  · cases h
  · exact h
theorem WOpen.writes {w : World} {lo hi : Nat} {d : WorldD} {v1 v2 v3 : Value} {K1 K2 K3 : List Nat} (h : WOpen w lo hi d v1 v2 v3 K1 K2 K3) (n : Int) (hn : -9223372036854775808 ≤ n ∧ n ≤ 9223372036854775807) : WOpen w lo hi { d with writes := n } v1 v2 v3 K1 K2 K3 := ⟨h.g, h.o, h.t, h.nd, h.inn, h.k0, hn, h.k5⟩
theorem count_in {d : WorldD} (h : OkWorld d) : -9223372036854775808 ≤ d.writes ∧ d.writes + 1 ≤ 9223372036854775807 := by
  have hc := h.count
  unfold CountP InP at hc
  omega
end Go.Proofs.YtdgbnongbmgdcaaGreat

namespace Go.Proofs.YtdgbnongbmgdcaaGreat
open Go.RowKit F256
set_option linter.unusedVariables false
set_option linter.unusedSimpArgs false
def struckW (d : WorldD) (T : Nat) (kd sq : Int) : WorldD := { strikeW d T kd sq with writes := d.writes + 1 }
def StrikeAns (d : WorldD) (t kd sq : Int) (r : WorldResultD) : Prop := (∃ x, x ≠ 0 ∧ AskAns d x ∧ r = ⟨x, zeroW⟩) ∨ (AskAns d 0 ∧ ((¬ InP t 0 1 ∧ r = ⟨3, zeroW⟩) ∨ (InP t 0 1 ∧ ((FailsP d ∧ r = ⟨9, cutW d⟩) ∨ (¬ FailsP d ∧ r = ⟨0, struckW d t.toNat kd sq⟩)))))
theorem StrikeAns.one {d : WorldD} {t kd sq : Int} {r q : WorldResultD} (h : StrikeAns d t kd sq r) (l : StrikeAns d t kd sq q) : r = q := by
  rcases h with ⟨x, h1, h2, rfl⟩ | ⟨h1, h⟩ <;> rcases l with ⟨y, k1, k2, rfl⟩ | ⟨k1, l⟩
  · rw [h2.one k2]
  · exact absurd (h2.one k1) h1
  · exact absurd (k2.one h1) k1
  · rcases h with ⟨h2, rfl⟩ | ⟨h2, h⟩ <;> rcases l with ⟨k2, rfl⟩ | ⟨k2, l⟩
    · rfl
    · exact absurd k2 h2
    · exact absurd h2 k2
    · rcases h with ⟨h4, rfl⟩ | ⟨h4, rfl⟩ <;> rcases l with ⟨k4, rfl⟩ | ⟨k4, rfl⟩
      · rfl
      · exact absurd h4 k4
      · exact absurd k4 h4
      · rfl
theorem tape_at {d : WorldD} (h : OkWorld d) {t : Int} (hp : InP t 0 1) : ∃ T : Nat, t = T ∧ T < d.tapes.1 ∧ (d.tapes.2 T).recs.1 ≤ 1048576 := by
  have h2 := h.form.2.2
  unfold InP at hp
  have hT : t.toNat < d.tapes.1 := by omega
  exact ⟨t.toNat, by omega, hT, by have := h.few _ hT; omega⟩
end Go.Proofs.YtdgbnongbmgdcaaGreat

namespace Go.Proofs.YtdgbnongbmgdcaaGreat
open Go.RowKit F256
set_option linter.unusedVariables false
set_option linter.unusedSimpArgs false
/-- a world's box, two numbers' boxes, the result's -/
structure Cap2 (w wc : World) (c1 : Array Value) (x y : Int) (c4 : Array Value) (t1 t4 : TypeId) : Prop where
  b1 : Box wc w.heap.size c1 t1
  b2 : Box wc (w.heap.size + 1) #[.int .i64 x] 2
  b3 : Box wc (w.heap.size + 1 + 1) #[.int .i64 y] 2
  b4 : Box wc (w.heap.size + 1 + 1 + 1) c4 t4
  bel : Below w.heap.size w wc
theorem cap2_new (w : World) (c1 c4 : Array Value) (x y : Int) (t1 t4 : TypeId) : Cap2 w ((((w.alloc (.cells c1 t1)).alloc (.cells #[.int .i64 x] 2)).alloc (.cells #[.int .i64 y] 2)).alloc (.cells c4 t4)) c1 x y c4 t1 t4 := by
  have A := two_newb w c1 #[.int .i64 x] t1 2
  have B := two_newb ((w.alloc (.cells c1 t1)).alloc (.cells #[.int .i64 x] 2)) #[.int .i64 y] c4 2 t4
  have e : ((w.alloc (.cells c1 t1)).alloc (.cells #[.int .i64 x] 2)).heap.size = w.heap.size + 1 + 1 := by simp
  have A' := A.call B.bel
  obtain ⟨B1, B2, _⟩ := B
  rw [e] at B1 B2
  exact ⟨A'.b1, A'.b2, B1, B2, A'.bel⟩
theorem Cap2.call {w wc w' : World} {c1 c4 : Array Value} {x y : Int} {t1 t4 : TypeId} (h : Cap2 w wc c1 x y c4 t1 t4) (hb : Below wc.heap.size wc w') : Cap2 w w' c1 x y c4 t1 t4 := ⟨h.b1.call hb, h.b2.call hb, h.b3.call hb, h.b4.call hb, h.bel.trans (hb.mono h.bel.size)⟩
theorem post_codeR {P : WorldResultD → Prop} {w wc w9 : World} {x : Int} {r : Nat} (hr : w.heap.size ≤ r) (hx : -9223372036854775808 ≤ x ∧ x ≤ 9223372036854775807) (hb : Below w.heap.size w wc) (hc : ChgL [r] wc w9) (hP : P ⟨x, zeroW⟩) : ResPost P w (.returned (.agg #[.int .i64 x, .int .i64 0, .int .i64 0, .int .i64 0, .int .i64 0, .int .i64 0, .int .i64 0, .int .i64 0, .int .i64 0, .int .i64 0, .slice none 0 0, .slice none 0 0, .slice none 0 0, .int .i64 0, .int .i64 0, .bool false])) w9 :=
  ⟨⟨x, zeroW⟩, [.int .i64 x, .int .i64 0, .int .i64 0, .int .i64 0, .int .i64 0, .int .i64 0, .int .i64 0, .int .i64 0, .int .i64 0, .int .i64 0, .slice none 0 0, .slice none 0 0, .slice none 0 0, .int .i64 0, .int .i64 0, .bool false], rfl, hP, own_resCode _ x hx _ _, hb.trans (hc.bel (fun b hb => by simp at hb; omega) hb.size)⟩
end Go.Proofs.YtdgbnongbmgdcaaGreat

namespace Go.Proofs.YtdgbnongbmgdcaaGreat
open Go.RowKit F256
set_option linter.unusedVariables false
set_option linter.unusedSimpArgs false
theorem isTape_c {t : Int} {b : Bool} (hb : b = true ↔ InP t 0 1) (w : World) : Calls Tryz.prog 127 #[.int .i64 t] w fun e w' => e = .returned (.bool b) ∧ w' = w := by
  have CI := fun w' => inBounds_b (show (0 : Int) ≤ 1 by decide) hb w'
  clear hb
  go_enter Tryz.func127, Tryz.ntmps127
  go_wp2_with fail
  refine (CI _).mono ?_
  rintro e w1 ⟨rfl, e1⟩
  obtain rfl := e1.symm
  go_wp2
  go_ret
  exact ⟨rfl, rfl⟩
end Go.Proofs.YtdgbnongbmgdcaaGreat

namespace Go.Proofs.YtdgbnongbmgdcaaGreat
open Go.RowKit F256
set_option linter.unusedVariables false
set_option linter.unusedSimpArgs false
set_option maxHeartbeats 32000000 in
set_option maxRecDepth 20000 in
theorem specStrike_any (d : WorldD) (t : Int) (kd : Int) (sq : Int) (cs : List Value) (hi : Nat) (w : World) (h : layWorld.rd w hi d cs) (hhi : hi ≤ w.heap.size) (hsz : szWorldD d ≤ 1048576) (ht : -9223372036854775808 ≤ t ∧ t ≤ 9223372036854775807) (hkd : -9223372036854775808 ≤ kd ∧ kd ≤ 9223372036854775807) (hsq : -9223372036854775808 ≤ sq ∧ sq ≤ 9223372036854775807) :
    Calls Tryz.prog 53 #[.agg cs.toArray, .int .i64 t, .int .i64 kd, .int .i64 sq] w (ResPost (StrikeAns d t kd sq) w) := by
  have h' := h
  obtain ⟨ao1, cap1, ao2, cap2, ao3, cap3, rfl, g1, g2, g3, k0, k4, k5⟩ := World_rd h'
  have HRD : Hid (layWorld.rd w hi d [.int .i64 (d.shape 0), .int .i64 (d.shape 1), .int .i64 (d.shape 2), .int .i64 (d.shape 3), .int .i64 (d.shape 4), .int .i64 (d.shape 5), .int .i64 (d.shape 6), .int .i64 (d.shape 7), .int .i64 (d.shape 8), .slice ao1 d.groups.1 cap1, .slice ao2 d.on.1 cap2, .slice ao3 d.tapes.1 cap3, .int .i64 d.writes, .int .i64 d.stop, .bool d.down]) := h
  have HSZ : Hid (szWorldD d ≤ 1048576) := hsz
  have Ht : Hid (-9223372036854775808 ≤ t ∧ t ≤ 9223372036854775807) := ht
  have Hkd : Hid (-9223372036854775808 ≤ kd ∧ kd ≤ 9223372036854775807) := hkd
  have Hsq : Hid (-9223372036854775808 ≤ sq ∧ sq ≤ 9223372036854775807) := hsq
  clear h h' hsz g1 g2 g3 k0 k4 k5 ht hkd hsq
  have T0 := two_newb w #[.int .i64 (d.shape 0), .int .i64 (d.shape 1), .int .i64 (d.shape 2), .int .i64 (d.shape 3), .int .i64 (d.shape 4), .int .i64 (d.shape 5), .int .i64 (d.shape 6), .int .i64 (d.shape 7), .int .i64 (d.shape 8), .slice ao1 d.groups.1 cap1, .slice ao2 d.on.1 cap2, .slice ao3 d.tapes.1 cap3, .int .i64 d.writes, .int .i64 d.stop, .bool d.down] #[.int .i64 0, .int .i64 0, .int .i64 0, .int .i64 0, .int .i64 0, .int .i64 0, .int .i64 0, .int .i64 0, .int .i64 0, .int .i64 0, .slice none 0 0, .slice none 0 0, .slice none 0 0, .int .i64 0, .int .i64 0, .bool false] 30 34
  go_enter Tryz.func53, Tryz.ntmps53
  go_wp2_with (refine wp_loadBox 30 (.tmp 4) rfl rfl (w.heap.size) rfl (cs := [.int .i64 (d.shape 0), .int .i64 (d.shape 1), .int .i64 (d.shape 2), .int .i64 (d.shape 3), .int .i64 (d.shape 4), .int .i64 (d.shape 5), .int .i64 (d.shape 6), .int .i64 (d.shape 7), .int .i64 (d.shape 8), .slice ao1 d.groups.1 cap1, .slice ao2 d.on.1 cap2, .slice ao3 d.tapes.1 cap3, .int .i64 d.writes, .int .i64 d.stop, .bool d.down]) (T0.b1) Tryz.underlying30 size_W rfl ?_)
  refine (l5Asked_any d _ hi _ (layWorld.rd_below HRD.out T0.bel hhi) (Nat.le_trans hhi T0.bel.size) HSZ.out).mono ?_
  rintro e w1 ⟨x, rfl, hx, b1⟩
  have HT1 : Hid (Two w w1 #[.int .i64 (d.shape 0), .int .i64 (d.shape 1), .int .i64 (d.shape 2), .int .i64 (d.shape 3), .int .i64 (d.shape 4), .int .i64 (d.shape 5), .int .i64 (d.shape 6), .int .i64 (d.shape 7), .int .i64 (d.shape 8), .slice ao1 d.groups.1 cap1, .slice ao2 d.on.1 cap2, .slice ao3 d.tapes.1 cap3, .int .i64 d.writes, .int .i64 d.stop, .bool d.down] #[.int .i64 0, .int .i64 0, .int .i64 0, .int .i64 0, .int .i64 0, .int .i64 0, .int .i64 0, .int .i64 0, .int .i64 0, .int .i64 0, .slice none 0 0, .slice none 0 0, .slice none 0 0, .int .i64 0, .int .i64 0, .bool false] 30 34) := T0.call b1
  have HX : Hid (AskAns d x) := hx
  have z1 : w.heap.size + 1 < w1.heap.size := HT1.out.b2.lt
  clear b1 T0 hx
  by_cases hx0 : x = 0
  case neg =>
    have hne : (x != 0) = true := by simp [hx0]
    go_wp2_with (refine wp_storeBox 34 _ _ rfl rfl (w.heap.size + 1) rfl (cs := [.int .i64 x, .int .i64 0, .int .i64 0, .int .i64 0, .int .i64 0, .int .i64 0, .int .i64 0, .int .i64 0, .int .i64 0, .int .i64 0, .slice none 0 0, .slice none 0 0, .slice none 0 0, .int .i64 0, .int .i64 0, .bool false]) (old := [.int .i64 0, .int .i64 0, .int .i64 0, .int .i64 0, .int .i64 0, .int .i64 0, .int .i64 0, .int .i64 0, .int .i64 0, .int .i64 0, .slice none 0 0, .slice none 0 0, .slice none 0 0, .int .i64 0, .int .i64 0, .bool false]) rfl (HT1.out.b2) size_WR rfl rfl (code_one _ (ask_small HX.out) w) ?_; intro w9 X9 C9 z9)
    refine ret_box Tryz.results53 rfl X9 Tryz.underlying34 size_WR rfl rfl ?_
    exact post_code (ask_small HX.out) HT1.out.bel C9 (.inl ⟨x, hx0, HX.out, rfl⟩)
  subst hx0
  have HOK : Hid (OkWorld d) := ask_ok HX.out
  obtain ⟨b, hb⟩ := exB (InP t 0 1)
  have Hb : Hid (b = true ↔ InP t 0 1) := hb
  have CI := fun w' => l1In_b hb w'
  clear hb
  go_wp2_with fail
  refine (CI _).mono ?_
  rintro e w1' ⟨rfl, e1⟩
  obtain rfl := e1.symm
  clear CI
  cases b with
  | false =>
    go_wp2_with (refine wp_storeBox 34 _ _ rfl rfl (w.heap.size + 1) rfl (cs := [.int .i64 3, .int .i64 0, .int .i64 0, .int .i64 0, .int .i64 0, .int .i64 0, .int .i64 0, .int .i64 0, .int .i64 0, .int .i64 0, .slice none 0 0, .slice none 0 0, .slice none 0 0, .int .i64 0, .int .i64 0, .bool false]) (old := [.int .i64 0, .int .i64 0, .int .i64 0, .int .i64 0, .int .i64 0, .int .i64 0, .int .i64 0, .int .i64 0, .int .i64 0, .int .i64 0, .slice none 0 0, .slice none 0 0, .slice none 0 0, .int .i64 0, .int .i64 0, .bool false]) rfl (HT1.out.b2) size_WR rfl rfl (code_one _ (by decide) w) ?_; intro w9 X9 C9 z9)
    refine ret_box Tryz.results53 rfl X9 Tryz.underlying34 size_WR rfl rfl ?_
    exact post_code (by decide) HT1.out.bel C9 (.inr ⟨HX.out, .inl ⟨fun h => (by have := Hb.out.2 h; cases this), rfl⟩⟩)
  | true =>
  have HIN : Hid (InP t 0 1) := Hb.out.1 (by simp)
  go_wp2_with (refine wp_loadBox 30 (.tmp 4) rfl rfl (w.heap.size) rfl (cs := [.int .i64 (d.shape 0), .int .i64 (d.shape 1), .int .i64 (d.shape 2), .int .i64 (d.shape 3), .int .i64 (d.shape 4), .int .i64 (d.shape 5), .int .i64 (d.shape 6), .int .i64 (d.shape 7), .int .i64 (d.shape 8), .slice ao1 d.groups.1 cap1, .slice ao2 d.on.1 cap2, .slice ao3 d.tapes.1 cap3, .int .i64 d.writes, .int .i64 d.stop, .bool d.down]) (HT1.out.b1) Tryz.underlying30 size_W rfl ?_)
  refine (l5Copy_is _ d hi _ (layWorld.rd_below HRD.out HT1.out.bel hhi) (Nat.le_trans hhi HT1.out.bel.size) HSZ.out).mono ?_
  rintro e w2 ⟨c2, rfl, o2, b2⟩
  obtain ⟨p1, c1, p2, c2, p3, c3, K1, K2, K3, rfl, WO2⟩ := world_open o2
  have z2 : w1.heap.size ≤ w2.heap.size := b2.size
  go_upto_region 7 with (refine wp_allocStore 30 10 (.tmp 22) [.int .i64 (d.shape 0), .int .i64 (d.shape 1), .int .i64 (d.shape 2), .int .i64 (d.shape 3), .int .i64 (d.shape 4), .int .i64 (d.shape 5), .int .i64 (d.shape 6), .int .i64 (d.shape 7), .int .i64 (d.shape 8), .slice p1 d.groups.1 c1, .slice p2 d.on.1 c2, .slice p3 d.tapes.1 c3, .int .i64 d.writes, .int .i64 d.stop, .bool d.down] _ 15 rfl rfl rfl rfl rfl rfl rfl rfl info_W rfl rfl o2.one ?_)
  have bA : Below w2.heap.size w2 (w2.alloc (.cells #[.int .i64 (d.shape 0), .int .i64 (d.shape 1), .int .i64 (d.shape 2), .int .i64 (d.shape 3), .int .i64 (d.shape 4), .int .i64 (d.shape 5), .int .i64 (d.shape 6), .int .i64 (d.shape 7), .int .i64 (d.shape 8), .slice p1 d.groups.1 c1, .slice p2 d.on.1 c2, .slice p3 d.tapes.1 c3, .int .i64 d.writes, .int .i64 d.stop, .bool d.down] 30)) := (Below.refl _ _).alloc (Nat.le_refl _) _
  have X3 : Box (w2.alloc (.cells #[.int .i64 (d.shape 0), .int .i64 (d.shape 1), .int .i64 (d.shape 2), .int .i64 (d.shape 3), .int .i64 (d.shape 4), .int .i64 (d.shape 5), .int .i64 (d.shape 6), .int .i64 (d.shape 7), .int .i64 (d.shape 8), .slice p1 d.groups.1 c1, .slice p2 d.on.1 c2, .slice p3 d.tapes.1 c3, .int .i64 d.writes, .int .i64 d.stop, .bool d.down] 30)) w2.heap.size #[.int .i64 (d.shape 0), .int .i64 (d.shape 1), .int .i64 (d.shape 2), .int .i64 (d.shape 3), .int .i64 (d.shape 4), .int .i64 (d.shape 5), .int .i64 (d.shape 6), .int .i64 (d.shape 7), .int .i64 (d.shape 8), .slice p1 d.groups.1 c1, .slice p2 d.on.1 c2, .slice p3 d.tapes.1 c3, .int .i64 d.writes, .int .i64 d.stop, .bool d.down] 30 := box_new _ _ _
  obtain ⟨W3, hW3⟩ : ∃ x, x = w2.alloc (.cells #[.int .i64 (d.shape 0), .int .i64 (d.shape 1), .int .i64 (d.shape 2), .int .i64 (d.shape 3), .int .i64 (d.shape 4), .int .i64 (d.shape 5), .int .i64 (d.shape 6), .int .i64 (d.shape 7), .int .i64 (d.shape 8), .slice p1 d.groups.1 c1, .slice p2 d.on.1 c2, .slice p3 d.tapes.1 c3, .int .i64 d.writes, .int .i64 d.stop, .bool d.down] 30) := ⟨_, rfl⟩
  rw [← hW3] at bA X3 ⊢
  have T3 := (HT1.out.call b2).call bA
  have WO := WO2.below bA (Nat.le_refl _)
  have z3 : w2.heap.size < W3.heap.size := X3.lt
  clear bA hW3 o2 b2 WO2
  have hup := ask_up HX.out
  by_cases hf : FailsP d
  · have HF : Hid (FailsP d) := hf
    have CR := l5Raw_fail w2.heap.size _ _ _ _ _ _ _ _ _ _ _ _ _ _ _ _ _ _ _ _ _ W3 X3 hup hf.1 hf.2
    have O3 := own_cut WO.own
    clear hf hup
    go_wp2_with fail
    refine CR.mono ?_
    rintro e w5 ⟨rfl, X5, C5⟩
    have T5 := T3.chgK C5 (fun b hb => by simp at hb; omega)
    have O5 := O3.chgk C5 (fun b hb => by simp at hb; omega)
    have z5 := C5.size
    clear X3 T3 WO O3 C5 CR
    go_wp2_with (first | (refine wp_loadBox 30 (.tmp 10) rfl rfl (w2.heap.size) rfl (cs := [.int .i64 (d.shape 0), .int .i64 (d.shape 1), .int .i64 (d.shape 2), .int .i64 (d.shape 3), .int .i64 (d.shape 4), .int .i64 (d.shape 5), .int .i64 (d.shape 6), .int .i64 (d.shape 7), .int .i64 (d.shape 8), .slice p1 d.groups.1 c1, .slice none 0 0, .slice p3 d.tapes.1 c3, .int .i64 d.writes, .int .i64 d.stop, .bool true]) (X5) Tryz.underlying30 size_W rfl ?_) | (refine wp_storeBox 34 _ _ rfl rfl (w.heap.size + 1) rfl (cs := [.int .i64 9, .int .i64 (d.shape 0), .int .i64 (d.shape 1), .int .i64 (d.shape 2), .int .i64 (d.shape 3), .int .i64 (d.shape 4), .int .i64 (d.shape 5), .int .i64 (d.shape 6), .int .i64 (d.shape 7), .int .i64 (d.shape 8), .slice p1 d.groups.1 c1, .slice none 0 0, .slice p3 d.tapes.1 c3, .int .i64 d.writes, .int .i64 d.stop, .bool true]) (old := [.int .i64 0, .int .i64 0, .int .i64 0, .int .i64 0, .int .i64 0, .int .i64 0, .int .i64 0, .int .i64 0, .int .i64 0, .int .i64 0, .slice none 0 0, .slice none 0 0, .slice none 0 0, .int .i64 0, .int .i64 0, .bool false]) rfl (T5.b2) size_WR rfl rfl ((own_resOf 9 (by decide) O5).one) ?_; intro w9 X9 C9 z9))
    refine ret_box Tryz.results53 rfl X9 Tryz.underlying34 size_WR rfl rfl ?_
    exact post_world (by decide) T5.bel C9 O5 (by omega) (by omega) (.inr ⟨HX.out, .inr ⟨HIN.out, .inl ⟨HF.out, rfl⟩⟩⟩)
  have HF : Hid (¬ FailsP d) := hf
  have CR := l5Raw_ok w2.heap.size _ _ _ _ _ _ _ _ _ _ _ _ _ _ _ _ _ _ _ _ _ W3 X3 hup hf (count_in HOK.out)
  clear hf hup
  go_upto_region 8 with fail
  all_goals skip
  refine CR.mono ?_
  rintro e w5 ⟨rfl, X5, C5⟩
  have T5 := T3.chgK C5 (fun b hb => by simp at hb; omega)
  have WO5 := WO.chgn C5 (fun b hb hm => by simp at hb; have := WO.inn b hm; omega)
  have z5 := C5.size
  clear X3 T3 WO C5 CR
  obtain ⟨T, rfl, hT, hn⟩ := tape_at HOK.out HIN.out
  go_upto_region 9 with fail
  have WO0 : WOpen w5.drew w1.heap.size w2.heap.size d _ _ _ K1 K2 K3 := WO5.chgn (K := []) ((ChgL.refl _ _).drew) (fun b hb => by cases hb)
  obtain ⟨gt, cap, ce, Ls, e3, eL, S3⟩ := slice_form WO0.t (by omega)
  simp only [List.cons.injEq, Value.slice.injEq, and_true, true_and] at e3
  obtain ⟨rfl, rfl⟩ := e3
  subst eL
  have nd3 : (gt :: catN d.tapes.1 Ls).Nodup := (List.nodup_append.1 (List.nodup_append.1 WO0.nd).2.1).2.1
  obtain ⟨ao9, cap9, K9, e9, eK9, o9⟩ := Tape_own (S3.each T hT)
  have in3 : ∀ b, b ∈ gt :: catN d.tapes.1 Ls → w1.heap.size ≤ b ∧ b < w2.heap.size := fun b hb => WO0.inn b (List.mem_append_right _ (List.mem_append_right _ hb))
  have in9 : ∀ b, b ∈ K9 → w1.heap.size ≤ b ∧ b < w2.heap.size := fun b hb => in3 b (SlO.sub T hT b (by rw [eK9]; exact hb))
  have hgt : gt ∉ K9 := fun hb => (List.nodup_cons.1 nd3).1 (mem_catN.2 ⟨T, hT, by rw [eK9]; exact hb⟩)
  have x11 : w5.cell? ⟨w2.heap.size, 11, none⟩ = some (.slice (some ⟨gt, 0, none⟩) d.tapes.1 c3) := X5.cell 11
  have y1 : w5.drew.cell? ⟨gt, T * 2 + 1, none⟩ = some (.slice ao9 (d.tapes.2 T).recs.1 cap9) := (S3.cell hT (j := 1) (by decide)).trans (by rw [e9]; rfl)
  have hgl : gt < w5.drew.heap.size := S3.lt
  have hbl : w2.heap.size < w5.drew.heap.size := X5.lt
  have KS : ∀ w', ChgL K9 w5.drew w' → (w'.cell? ⟨w2.heap.size, 11, none⟩ = some (.slice (some ⟨gt, 0, none⟩) d.tapes.1 c3) ∧ w'.cell? ⟨gt, T * 2 + 1, none⟩ = some (.slice ao9 (d.tapes.2 T).recs.1 cap9)) := fun w' hc => ⟨(World.cell?_of_block (hc.block w2.heap.size hbl (fun hb => by have := in9 _ hb; omega))).trans x11, (World.cell?_of_block (hc.block gt hgl hgt)).trans y1⟩
  have CC := strike_own o9 (by rw [← eK9]; exact catN_each (List.nodup_cons.1 nd3).2 hT) hn kd sq
  have i1 : (0 : Int) ≤ (T : Int) := by omega
  have i2 : (T : Int) < (d.tapes.1 : Int) := by omega
  refine wp_region_L 14 (fun w' => w'.cell? ⟨w2.heap.size, 11, none⟩ = some (.slice (some ⟨gt, 0, none⟩) d.tapes.1 c3) ∧ w'.cell? ⟨gt, T * 2 + 1, none⟩ = some (.slice ao9 (d.tapes.2 T).recs.1 cap9)) (by kernel_rfl) (KS _ (ChgL.refl _ _)) (fun hHeld => ?_)
  refine wpAnyL_take (i := 0) (oi := _) (v := ?_) 16 rfl (by kernel_rfl) (fun _ _ _ h => h) (Or.inl ⟨by rfl, ?_⟩) (by assumption) ?_
  rotate_left
  · intro w' hSw
    try dsimp only at hSw
    obtain ⟨hq0, hq1⟩ := hSw
    go_simp
    try with_reducible rfl
  try simp only [Act.put, List.setIfInBounds_toArray, List.set_cons_zero, List.set_cons_succ]
  refine wpAnyL_take (i := 1) (oi := _) (v := ?_) 16 rfl (by kernel_rfl) (fun _ _ _ h => h) (Or.inl ⟨by rfl, ?_⟩) (by assumption) ?_
  rotate_left
  · intro w' hSw
    try dsimp only at hSw
    obtain ⟨hq0, hq1⟩ := hSw
    go_simp
    try with_reducible rfl
  try simp only [Act.put, List.setIfInBounds_toArray, List.set_cons_zero, List.set_cons_succ]
  refine wpAnyL_take (i := 2) (oi := _) (v := ?_) 16 rfl (by kernel_rfl) (fun _ _ _ h => h) (Or.inl ⟨by rfl, ?_⟩) (by assumption) ?_
  rotate_left
  · intro w' hSw
    try dsimp only at hSw
    obtain ⟨hq0, hq1⟩ := hSw
    go_simp
    try with_reducible rfl
  try simp only [Act.put, List.setIfInBounds_toArray, List.set_cons_zero, List.set_cons_succ]
  refine wpAnyL_take (i := 3) (oi := _) (v := ?_) 16 rfl (by kernel_rfl) (fun _ _ _ h => h) (Or.inl ⟨by rfl, ?_⟩) (by assumption) ?_
  rotate_left
  · intro w' hSw
    try dsimp only at hSw
    obtain ⟨hq0, hq1⟩ := hSw
    go_simp
    try with_reducible rfl
  try simp only [Act.put, List.setIfInBounds_toArray, List.set_cons_zero, List.set_cons_succ]
  refine wpAnyL_take (i := 4) (oi := _) (v := ?_) 16 rfl (by kernel_rfl) (fun _ _ _ h => h) (Or.inl ⟨by rfl, ?_⟩) (by assumption) ?_
  rotate_left
  · intro w' hSw
    try dsimp only at hSw
    obtain ⟨hq0, hq1⟩ := hSw
    go_simp
    try with_reducible rfl
  try simp only [Act.put, List.setIfInBounds_toArray, List.set_cons_zero, List.set_cons_succ]
  refine wpAnyL_take (i := 5) (oi := _) (v := ?_) 16 rfl (by kernel_rfl) (fun _ _ _ h => h) (Or.inl ⟨by rfl, ?_⟩) (by assumption) ?_
  rotate_left
  · intro w' hSw
    try dsimp only at hSw
    obtain ⟨hq0, hq1⟩ := hSw
    go_simp
    try with_reducible rfl
  try simp only [Act.put, List.setIfInBounds_toArray, List.set_cons_zero, List.set_cons_succ]
  refine wpAnyL_take (i := 6) (oi := _) (v := ?_) 16 rfl (by kernel_rfl) (fun _ _ _ h => h) (Or.inl ⟨by rfl, ?_⟩) (by assumption) ?_
  rotate_left
  · intro w' hSw
    try dsimp only at hSw
    obtain ⟨hq0, hq1⟩ := hSw
    go_simp
    try with_reducible rfl
  try simp only [Act.put, List.setIfInBounds_toArray, List.set_cons_zero, List.set_cons_succ]
  refine wpAnyL_take (i := 7) (oi := _) (v := ?_) 16 rfl (by kernel_rfl) (fun _ _ _ h => h) (Or.inl ⟨by rfl, ?_⟩) (by assumption) ?_
  rotate_left
  · intro w' hSw
    try dsimp only at hSw
    obtain ⟨hq0, hq1⟩ := hSw
    go_simp
    try with_reducible rfl
  try simp only [Act.put, List.setIfInBounds_toArray, List.set_cons_zero, List.set_cons_succ]
  refine wpAnyL_take (i := 8) (oi := _) (v := ?_) 16 rfl (by kernel_rfl) (fun _ _ _ h => h) (Or.inl ⟨by rfl, ?_⟩) (by assumption) ?_
  rotate_left
  · intro w' hSw
    try dsimp only at hSw
    obtain ⟨hq0, hq1⟩ := hSw
    go_simp
    try with_reducible rfl
  try simp only [Act.put, List.setIfInBounds_toArray, List.set_cons_zero, List.set_cons_succ]
  refine wpAnyL_take (i := 9) (oi := _) (v := ?_) 16 rfl (by kernel_rfl) (fun _ _ _ h => h) (Or.inl ⟨by rfl, ?_⟩) (by assumption) ?_
  rotate_left
  · intro w' hSw
    try dsimp only at hSw
    obtain ⟨hq0, hq1⟩ := hSw
    go_simp
    try with_reducible rfl
  try simp only [Act.put, List.setIfInBounds_toArray, List.set_cons_zero, List.set_cons_succ]
  refine wpAnyL_take (i := 10) (oi := _) (v := ?_) 16 rfl (by kernel_rfl) (fun _ _ _ h => h) (Or.inl ⟨by rfl, ?_⟩) (by assumption) ?_
  rotate_left
  · intro w' hSw
    try dsimp only at hSw
    obtain ⟨hq0, hq1⟩ := hSw
    go_simp
    try with_reducible rfl
  try simp only [Act.put, List.setIfInBounds_toArray, List.set_cons_zero, List.set_cons_succ]
  refine wpAnyL_one (i := 11) (o := _) rfl (by kernel_rfl) (fun KC hKC => ?_)
  refine step_call rfl 131 _ _ rfl #[.slice ao9 (d.tapes.2 T).recs.1 cap9, .int .i64 kd, .int .i64 sq] ?_ Tryz.func131 (by kernel_rfl) (by kernel_rfl) CC ?_; (simp [Act.eval, Act.put]); rintro ee w6 ⟨ao', cap', K', rfl, TT⟩; have k1 := KS w6 TT.chg; have f1 : w6.frozen? ⟨gt, T * 2 + 1, none⟩ = false := (World.frozen?_of_block (a := ⟨gt, T * 2 + 1, none⟩) (TT.chg.block gt S3.lt hgt)).trans (S3.frozen _); have t1 : w6.cell? ⟨gt, T * 2 + 1, none⟩ = some (.slice ao9 (d.tapes.2 T).recs.1 cap9) := k1.2; refine ⟨_, rfl, ?_⟩
  refine hKC.out _ _ (k1) (fun hHeld => ?_)
  clear hKC KC
  try simp only [Act.put, List.setIfInBounds_toArray, List.set_cons_zero, List.set_cons_succ]
  refine wpAnyL_take (i := 12) (oi := _) (v := ?_) 16 rfl (by kernel_rfl) (fun _ _ _ h => h) (Or.inl ⟨by rfl, ?_⟩) (by assumption) ?_
  rotate_left
  · intro w' hSw
    try dsimp only at hSw
    obtain ⟨hq0, hq1⟩ := hSw
    go_simp
    try with_reducible rfl
  try simp only [Act.put, List.setIfInBounds_toArray, List.set_cons_zero, List.set_cons_succ]
  refine wpAnyL_take (i := 13) (oi := _) (v := ?_) 16 rfl (by kernel_rfl) (fun _ _ _ h => h) (Or.inl ⟨by rfl, ?_⟩) (by assumption) ?_
  rotate_left
  · intro w' hSw
    try dsimp only at hSw
    obtain ⟨hq0, hq1⟩ := hSw
    go_simp
    try with_reducible rfl
  try simp only [Act.put, List.setIfInBounds_toArray, List.set_cons_zero, List.set_cons_succ]
  refine wpAnyL_last (o := _) rfl (by kernel_rfl) (fun KC hKC => ?_)
  go_simp
  refine hKC.out _ _ ?_
  clear hKC KC
  try simp only [Act.put, List.setIfInBounds_toArray, List.set_cons_zero, List.set_cons_succ]
  refine wpAnyL_done (by kernel_rfl) ?_ _
  have TK := tape_struck e9 TT
  rw [← eK9] at TK
  obtain ⟨T7, -⟩ := S3.turn_cell nd3 hT (j := 1) (by decide) _ TK (w' := w6.setCell ⟨gt, T * layTape.sz + 1, none⟩ (.slice ao' (strikeL (d.tapes.2 T).recs kd sq).1 cap')) rfl
  have WO7 := WO0.tapes (by omega) (by omega) T7
  have X7 := X5.drew.chgl T7.chg (fun hb => by have := in3 _ hb; omega)
  have T5d : Two w w5.drew #[.int .i64 (d.shape 0), .int .i64 (d.shape 1), .int .i64 (d.shape 2), .int .i64 (d.shape 3), .int .i64 (d.shape 4), .int .i64 (d.shape 5), .int .i64 (d.shape 6), .int .i64 (d.shape 7), .int .i64 (d.shape 8), .slice ao1 d.groups.1 cap1, .slice ao2 d.on.1 cap2, .slice ao3 d.tapes.1 cap3, .int .i64 d.writes, .int .i64 d.stop, .bool d.down] #[.int .i64 0, .int .i64 0, .int .i64 0, .int .i64 0, .int .i64 0, .int .i64 0, .int .i64 0, .int .i64 0, .int .i64 0, .int .i64 0, .slice none 0 0, .slice none 0 0, .slice none 0 0, .int .i64 0, .int .i64 0, .bool false] 30 34 := T5.chgK ((ChgL.refl [] _).drew) (fun b hb => by cases hb)
  have TW7 := T5d.chgK T7.chg (fun b hb => by have := in3 _ hb; omega)
  have O7 : OwnT layWorld (w6.setCell ⟨gt, T * layTape.sz + 1, none⟩ (.slice ao' (strikeL (d.tapes.2 T).recs kd sq).1 cap')) w1.heap.size (w6.setCell ⟨gt, T * layTape.sz + 1, none⟩ (.slice ao' (strikeL (d.tapes.2 T).recs kd sq).1 cap')).heap.size (struckW d T kd sq) [.int .i64 (d.shape 0), .int .i64 (d.shape 1), .int .i64 (d.shape 2), .int .i64 (d.shape 3), .int .i64 (d.shape 4), .int .i64 (d.shape 5), .int .i64 (d.shape 6), .int .i64 (d.shape 7), .int .i64 (d.shape 8), .slice p1 d.groups.1 c1, .slice p2 d.on.1 c2, .slice (some ⟨gt, 0, none⟩) d.tapes.1 c3, .int .i64 (d.writes + 1), .int .i64 d.stop, .bool d.down] := (WO7.writes (d.writes + 1) (by have := count_in HOK.out; omega)).own
  clear WO7 T7 TK TT WO5 WO0 S3 nd3 e9 eK9 o9 X5 T5 T5d KS CC k1
  obtain ⟨W7, hW7⟩ : ∃ x, x = w6.setCell ⟨gt, T * layTape.sz + 1, none⟩ (.slice ao' (strikeL (d.tapes.2 T).recs kd sq).1 cap') := ⟨_, rfl⟩
  go_upto_region 10 with fail
  change Code.wp Tryz.prog _ _ _ (w6.setCell ⟨gt, T * layTape.sz + 1, none⟩ (.slice ao' (strikeL (d.tapes.2 T).recs kd sq).1 cap'))
  rw [← hW7] at X7 TW7 O7 ⊢
  clear hW7
  go_wp2_with (first | (refine wp_loadBox 30 (.tmp 10) rfl rfl (w2.heap.size) rfl (cs := [.int .i64 (d.shape 0), .int .i64 (d.shape 1), .int .i64 (d.shape 2), .int .i64 (d.shape 3), .int .i64 (d.shape 4), .int .i64 (d.shape 5), .int .i64 (d.shape 6), .int .i64 (d.shape 7), .int .i64 (d.shape 8), .slice p1 d.groups.1 c1, .slice p2 d.on.1 c2, .slice (some ⟨gt, 0, none⟩) d.tapes.1 c3, .int .i64 (d.writes + 1), .int .i64 d.stop, .bool d.down]) (X7) Tryz.underlying30 size_W rfl ?_) | (refine wp_storeBox 34 _ _ rfl rfl (w.heap.size + 1) rfl (cs := [.int .i64 0, .int .i64 (d.shape 0), .int .i64 (d.shape 1), .int .i64 (d.shape 2), .int .i64 (d.shape 3), .int .i64 (d.shape 4), .int .i64 (d.shape 5), .int .i64 (d.shape 6), .int .i64 (d.shape 7), .int .i64 (d.shape 8), .slice p1 d.groups.1 c1, .slice p2 d.on.1 c2, .slice (some ⟨gt, 0, none⟩) d.tapes.1 c3, .int .i64 (d.writes + 1), .int .i64 d.stop, .bool d.down]) (old := [.int .i64 0, .int .i64 0, .int .i64 0, .int .i64 0, .int .i64 0, .int .i64 0, .int .i64 0, .int .i64 0, .int .i64 0, .int .i64 0, .slice none 0 0, .slice none 0 0, .slice none 0 0, .int .i64 0, .int .i64 0, .bool false]) rfl (TW7.b2) size_WR rfl rfl ((own_resOf 0 (by decide) O7).one) ?_; intro w9 X9 C9 z9))
  refine ret_box Tryz.results53 rfl X9 Tryz.underlying34 size_WR rfl rfl ?_
  exact post_world (by decide) TW7.bel C9 O7 (by omega) (by omega) (.inr ⟨HX.out, .inr ⟨HIN.out, .inr ⟨HF.out, rfl⟩⟩⟩)
end Go.Proofs.YtdgbnongbmgdcaaGreat

namespace Go.Proofs.YtdgbnongbmgdcaaGreat
open Go.RowKit F256
set_option linter.unusedVariables false
set_option linter.unusedSimpArgs false
/-- a world's box, three numbers' boxes, the result's -/
structure Cap3 (w wc : World) (c1 : Array Value) (x y z : Int) (c5 : Array Value) (t1 t5 : TypeId) : Prop where
  b1 : Box wc w.heap.size c1 t1
  b2 : Box wc (w.heap.size + 1) #[.int .i64 x] 2
  b3 : Box wc (w.heap.size + 1 + 1) #[.int .i64 y] 2
  b4 : Box wc (w.heap.size + 1 + 1 + 1) #[.int .i64 z] 2
  b5 : Box wc (w.heap.size + 1 + 1 + 1 + 1) c5 t5
  bel : Below w.heap.size w wc
theorem cap3_new (w : World) (c1 c5 : Array Value) (x y z : Int) (t1 t5 : TypeId) : Cap3 w (((((w.alloc (.cells c1 t1)).alloc (.cells #[.int .i64 x] 2)).alloc (.cells #[.int .i64 y] 2)).alloc (.cells #[.int .i64 z] 2)).alloc (.cells c5 t5)) c1 x y z c5 t1 t5 := by
  have A := cap2_new w c1 #[.int .i64 z] x y t1 2
  have B := one_new ((((w.alloc (.cells c1 t1)).alloc (.cells #[.int .i64 x] 2)).alloc (.cells #[.int .i64 y] 2)).alloc (.cells #[.int .i64 z] 2)) c5 t5
  have e : ((((w.alloc (.cells c1 t1)).alloc (.cells #[.int .i64 x] 2)).alloc (.cells #[.int .i64 y] 2)).alloc (.cells #[.int .i64 z] 2)).heap.size = w.heap.size + 1 + 1 + 1 + 1 := by simp
  have A' := A.call B.bel
  have B1 := B.b1
  rw [e] at B1
  exact ⟨A'.b1, A'.b2, A'.b3, A'.b4, B1, A'.bel⟩
theorem Cap3.call {w wc w' : World} {c1 c5 : Array Value} {x y z : Int} {t1 t5 : TypeId} (h : Cap3 w wc c1 x y z c5 t1 t5) (hb : Below wc.heap.size wc w') : Cap3 w w' c1 x y z c5 t1 t5 := ⟨h.b1.call hb, h.b2.call hb, h.b3.call hb, h.b4.call hb, h.b5.call hb, h.bel.trans (hb.mono h.bel.size)⟩
set_option maxHeartbeats 32000000 in
set_option maxRecDepth 20000 in
theorem implStrike_any (d : WorldD) (t kd sq : Int) (cs : List Value) (hi : Nat) (w : World) (h : layWorld.rd w hi d cs) (hhi : hi ≤ w.heap.size) (hsz : szWorldD d ≤ 1048576) (ht : -9223372036854775808 ≤ t ∧ t ≤ 9223372036854775807) (hkd : -9223372036854775808 ≤ kd ∧ kd ≤ 9223372036854775807) (hsq : -9223372036854775808 ≤ sq ∧ sq ≤ 9223372036854775807) :
    Calls Tryz.prog 54 #[.agg cs.toArray, .int .i64 t, .int .i64 kd, .int .i64 sq] w (ResPost (StrikeAns d t kd sq) w) := by
  have h' := h
  obtain ⟨ao1, cap1, ao2, cap2, ao3, cap3, rfl, g1, g2, g3, k0, k4, k5⟩ := World_rd h'
  have HRD : Hid (layWorld.rd w hi d [.int .i64 (d.shape 0), .int .i64 (d.shape 1), .int .i64 (d.shape 2), .int .i64 (d.shape 3), .int .i64 (d.shape 4), .int .i64 (d.shape 5), .int .i64 (d.shape 6), .int .i64 (d.shape 7), .int .i64 (d.shape 8), .slice ao1 d.groups.1 cap1, .slice ao2 d.on.1 cap2, .slice ao3 d.tapes.1 cap3, .int .i64 d.writes, .int .i64 d.stop, .bool d.down]) := h
  have HSZ : Hid (szWorldD d ≤ 1048576) := hsz
  have hmf : ∀ (fn : Fn) (first cap : Array Value) (w : World), (Instr.makeFunc fn first cap).run Tryz.prog w = .ok (.func fn first cap) w := fun _ _ _ _ => rfl
  clear h h' hsz g1 g2 g3 k0 k4 k5 ht hkd hsq
  have T0 := cap3_new w #[.int .i64 (d.shape 0), .int .i64 (d.shape 1), .int .i64 (d.shape 2), .int .i64 (d.shape 3), .int .i64 (d.shape 4), .int .i64 (d.shape 5), .int .i64 (d.shape 6), .int .i64 (d.shape 7), .int .i64 (d.shape 8), .slice ao1 d.groups.1 cap1, .slice ao2 d.on.1 cap2, .slice ao3 d.tapes.1 cap3, .int .i64 d.writes, .int .i64 d.stop, .bool d.down] #[.int .i64 0, .int .i64 0, .int .i64 0, .int .i64 0, .int .i64 0, .int .i64 0, .int .i64 0, .int .i64 0, .int .i64 0, .int .i64 0, .slice none 0 0, .slice none 0 0, .slice none 0 0, .int .i64 0, .int .i64 0, .bool false] t kd sq 30 34
  go_enter Tryz.func54, Tryz.ntmps54
  go_wp2_with (refine wp_loadBox 30 (.tmp 4) rfl rfl (w.heap.size) rfl (cs := [.int .i64 (d.shape 0), .int .i64 (d.shape 1), .int .i64 (d.shape 2), .int .i64 (d.shape 3), .int .i64 (d.shape 4), .int .i64 (d.shape 5), .int .i64 (d.shape 6), .int .i64 (d.shape 7), .int .i64 (d.shape 8), .slice ao1 d.groups.1 cap1, .slice ao2 d.on.1 cap2, .slice ao3 d.tapes.1 cap3, .int .i64 d.writes, .int .i64 d.stop, .bool d.down]) (T0.b1) Tryz.underlying30 size_W rfl ?_)
  refine (powered_any d _ hi _ (layWorld.rd_below HRD.out T0.bel hhi) (Nat.le_trans hhi T0.bel.size) HSZ.out).mono ?_
  rintro e w1 ⟨x, rfl, hx, b1⟩
  have HT1 : Hid (Cap3 w w1 #[.int .i64 (d.shape 0), .int .i64 (d.shape 1), .int .i64 (d.shape 2), .int .i64 (d.shape 3), .int .i64 (d.shape 4), .int .i64 (d.shape 5), .int .i64 (d.shape 6), .int .i64 (d.shape 7), .int .i64 (d.shape 8), .slice ao1 d.groups.1 cap1, .slice ao2 d.on.1 cap2, .slice ao3 d.tapes.1 cap3, .int .i64 d.writes, .int .i64 d.stop, .bool d.down] t kd sq #[.int .i64 0, .int .i64 0, .int .i64 0, .int .i64 0, .int .i64 0, .int .i64 0, .int .i64 0, .int .i64 0, .int .i64 0, .int .i64 0, .slice none 0 0, .slice none 0 0, .slice none 0 0, .int .i64 0, .int .i64 0, .bool false] 30 34) := T0.call b1
  have HX : Hid (AskAns d x) := hx
  have z1 : w.heap.size + 1 + 1 + 1 + 1 < w1.heap.size := HT1.out.b5.lt
  clear b1 T0 hx
  by_cases hx0 : x = 0
  case neg =>
    have hne : (x != 0) = true := by simp [hx0]
    go_wp2_with (refine wp_storeBox 34 _ _ rfl rfl (w.heap.size + 1 + 1 + 1 + 1) rfl (cs := [.int .i64 x, .int .i64 0, .int .i64 0, .int .i64 0, .int .i64 0, .int .i64 0, .int .i64 0, .int .i64 0, .int .i64 0, .int .i64 0, .slice none 0 0, .slice none 0 0, .slice none 0 0, .int .i64 0, .int .i64 0, .bool false]) (old := [.int .i64 0, .int .i64 0, .int .i64 0, .int .i64 0, .int .i64 0, .int .i64 0, .int .i64 0, .int .i64 0, .int .i64 0, .int .i64 0, .slice none 0 0, .slice none 0 0, .slice none 0 0, .int .i64 0, .int .i64 0, .bool false]) rfl (HT1.out.b5) size_WR rfl rfl (code_one _ (ask_small HX.out) w) ?_; intro w9 X9 C9 z9)
    refine ret_box Tryz.results54 rfl X9 Tryz.underlying34 size_WR rfl rfl ?_
    exact post_codeR (by omega) (ask_small HX.out) HT1.out.bel C9 (.inl ⟨x, hx0, HX.out, rfl⟩)
  subst hx0
  have HOK : Hid (OkWorld d) := ask_ok HX.out
  have xt : w1.cell? ⟨w.heap.size + 1, 0, none⟩ = some (.int .i64 t) := HT1.out.b2.cell 0
  obtain ⟨b, hb⟩ := exB (InP t 0 1)
  have Hb : Hid (b = true ↔ InP t 0 1) := hb
  have CI := fun w' => isTape_c hb w'
  clear hb
  go_wp2_with fail
  refine (CI _).mono ?_
  rintro e w1' ⟨rfl, e1⟩
  obtain rfl := e1.symm
  clear CI xt
  cases b with
  | false =>
    go_wp2_with (refine wp_storeBox 34 _ _ rfl rfl (w.heap.size + 1 + 1 + 1 + 1) rfl (cs := [.int .i64 3, .int .i64 0, .int .i64 0, .int .i64 0, .int .i64 0, .int .i64 0, .int .i64 0, .int .i64 0, .int .i64 0, .int .i64 0, .slice none 0 0, .slice none 0 0, .slice none 0 0, .int .i64 0, .int .i64 0, .bool false]) (old := [.int .i64 0, .int .i64 0, .int .i64 0, .int .i64 0, .int .i64 0, .int .i64 0, .int .i64 0, .int .i64 0, .int .i64 0, .int .i64 0, .slice none 0 0, .slice none 0 0, .slice none 0 0, .int .i64 0, .int .i64 0, .bool false]) rfl (HT1.out.b5) size_WR rfl rfl (code_one _ (by decide) w) ?_; intro w9 X9 C9 z9)
    refine ret_box Tryz.results54 rfl X9 Tryz.underlying34 size_WR rfl rfl ?_
    exact post_codeR (by omega) (by decide) HT1.out.bel C9 (.inr ⟨HX.out, .inl ⟨fun h => (by have := Hb.out.2 h; cases this), rfl⟩⟩)
  | true =>
  have HIN : Hid (InP t 0 1) := Hb.out.1 (by simp)
  obtain ⟨T, rfl, hT, hn⟩ := tape_at HOK.out HIN.out
  have CW := power_strike d [.int .i64 (d.shape 0), .int .i64 (d.shape 1), .int .i64 (d.shape 2), .int .i64 (d.shape 3), .int .i64 (d.shape 4), .int .i64 (d.shape 5), .int .i64 (d.shape 6), .int .i64 (d.shape 7), .int .i64 (d.shape 8), .slice ao1 d.groups.1 cap1, .slice ao2 d.on.1 cap2, .slice ao3 d.tapes.1 cap3, .int .i64 d.writes, .int .i64 d.stop, .bool d.down] hi T kd sq (w.heap.size + 1) (w.heap.size + 1 + 1) (w.heap.size + 1 + 1 + 1) w1 (layWorld.rd_below HRD.out HT1.out.bel hhi) (Nat.le_trans hhi HT1.out.bel.size) HSZ.out (HT1.out.b2.cell 0) HT1.out.b2.lt (HT1.out.b3.cell 0) HT1.out.b3.lt (HT1.out.b4.cell 0) HT1.out.b4.lt hT hn (count_in HOK.out) (StrikeAns d T kd sq) (fun hf => .inr ⟨HX.out, .inr ⟨HIN.out, .inl ⟨hf, rfl⟩⟩⟩) (fun hf => .inr ⟨HX.out, .inr ⟨HIN.out, .inr ⟨hf, rfl⟩⟩⟩)
  have CW := CW.mono (R' := fun e w' => ∃ d' sc s0 s1 s2 s3 s4 s5 s6 s7 s8 sp0 sl0 sq0 sp1 sl1 sq1 sp2 sl2 sq2 s9 s10 sb, e = .returned (.agg #[.int .i64 sc, .int .i64 s0, .int .i64 s1, .int .i64 s2, .int .i64 s3, .int .i64 s4, .int .i64 s5, .int .i64 s6, .int .i64 s7, .int .i64 s8, .slice sp0 sl0 sq0, .slice sp1 sl1 sq1, .slice sp2 sl2 sq2, .int .i64 s9, .int .i64 s10, .bool sb]) ∧ StrikeAns d T kd sq d' ∧ OwnT layWorldResult w' w1.heap.size w'.heap.size d' [.int .i64 sc, .int .i64 s0, .int .i64 s1, .int .i64 s2, .int .i64 s3, .int .i64 s4, .int .i64 s5, .int .i64 s6, .int .i64 s7, .int .i64 s8, .slice sp0 sl0 sq0, .slice sp1 sl1 sq1, .slice sp2 sl2 sq2, .int .i64 s9, .int .i64 s10, .bool sb] ∧ Below w1.heap.size w1 w') (fun e w' ⟨d', cs', he, hP, ho, hb⟩ => by
    obtain ⟨sc, s0, s1, s2, s3, s4, s5, s6, s7, s8, sp0, sl0, sq0, sp1, sl1, sq1, sp2, sl2, sq2, s9, s10, sb, rfl⟩ := wres16 ho.rd
    exact ⟨d', sc, s0, s1, s2, s3, s4, s5, s6, s7, s8, sp0, sl0, sq0, sp1, sl1, sq1, sp2, sl2, sq2, s9, s10, sb, he, hP, ho, hb⟩)
  go_wp2_with (first | (refine wp_loadBox 30 (.tmp 4) rfl rfl (w.heap.size) rfl (cs := [.int .i64 (d.shape 0), .int .i64 (d.shape 1), .int .i64 (d.shape 2), .int .i64 (d.shape 3), .int .i64 (d.shape 4), .int .i64 (d.shape 5), .int .i64 (d.shape 6), .int .i64 (d.shape 7), .int .i64 (d.shape 8), .slice ao1 d.groups.1 cap1, .slice ao2 d.on.1 cap2, .slice ao3 d.tapes.1 cap3, .int .i64 d.writes, .int .i64 d.stop, .bool d.down]) (HT1.out.b1) Tryz.underlying30 size_W rfl ?_) | (go_at_call 87; refine CW.mono ?_; rintro e w5 ⟨d', sc, s0, s1, s2, s3, s4, s5, s6, s7, s8, sp0, sl0, sq0, sp1, sl1, sq1, sp2, sl2, sq2, s9, s10, sb, rfl, hP, o5, b5⟩; have T5 := HT1.out.call b5; have z5 : w1.heap.size ≤ w5.heap.size := b5.size) | (refine wp_storeBox 34 _ _ rfl rfl (w.heap.size + 1 + 1 + 1 + 1) rfl (cs := [.int .i64 sc, .int .i64 s0, .int .i64 s1, .int .i64 s2, .int .i64 s3, .int .i64 s4, .int .i64 s5, .int .i64 s6, .int .i64 s7, .int .i64 s8, .slice sp0 sl0 sq0, .slice sp1 sl1 sq1, .slice sp2 sl2 sq2, .int .i64 s9, .int .i64 s10, .bool sb]) (old := [.int .i64 0, .int .i64 0, .int .i64 0, .int .i64 0, .int .i64 0, .int .i64 0, .int .i64 0, .int .i64 0, .int .i64 0, .int .i64 0, .slice none 0 0, .slice none 0 0, .slice none 0 0, .int .i64 0, .int .i64 0, .bool false]) rfl (T5.b5) size_WR rfl rfl (o5.one) ?_; intro w9 X9 C9 z9))
  refine ret_box Tryz.results54 rfl X9 Tryz.underlying34 size_WR rfl rfl ?_
  refine ⟨d', [.int .i64 sc, .int .i64 s0, .int .i64 s1, .int .i64 s2, .int .i64 s3, .int .i64 s4, .int .i64 s5, .int .i64 s6, .int .i64 s7, .int .i64 s8, .slice sp0 sl0 sq0, .slice sp1 sl1 sq1, .slice sp2 sl2 sq2, .int .i64 s9, .int .i64 s10, .bool sb], rfl, hP, (o5.chgk C9 (fun b hb => by simp at hb; omega)).weaken (by omega) C9.size, T5.bel.trans (C9.bel (fun b hb => by simp at hb; omega) T5.bel.size)⟩
end Go.Proofs.YtdgbnongbmgdcaaGreat

namespace Go.Proofs.YtdgbnongbmgdcaaGreat
open Go.ChangeShapes Go.WideShapes Go.ChangeAt Go.RowKit F256
set_option linter.unusedVariables false
set_option linter.unusedSimpArgs false
theorem fifteen {w : World} {b : Nat} {t : TypeId} {a0 a1 a2 a3 a4 a5 a6 a7 a8 a9 a10 a11 a12 a13 a14 : Value} (h : Box w b #[a0, a1, a2, a3, a4, a5, a6, a7, a8, a9, a10, a11, a12, a13, a14] t) :
    w.cell? ⟨b, 0, none⟩ = some a0 ∧ w.cell? ⟨b, 1, none⟩ = some a1 ∧ w.cell? ⟨b, 2, none⟩ = some a2 ∧ w.cell? ⟨b, 3, none⟩ = some a3 ∧ w.cell? ⟨b, 4, none⟩ = some a4 ∧ w.cell? ⟨b, 5, none⟩ = some a5 ∧ w.cell? ⟨b, 6, none⟩ = some a6 ∧ w.cell? ⟨b, 7, none⟩ = some a7 ∧ w.cell? ⟨b, 8, none⟩ = some a8 ∧ w.cell? ⟨b, 9, none⟩ = some a9 ∧ w.cell? ⟨b, 10, none⟩ = some a10 ∧ w.cell? ⟨b, 11, none⟩ = some a11 ∧ w.cell? ⟨b, 12, none⟩ = some a12 ∧ w.cell? ⟨b, 13, none⟩ = some a13 ∧ w.cell? ⟨b, 14, none⟩ = some a14 :=
  ⟨h.cell 0, h.cell 1, h.cell 2, h.cell 3, h.cell 4, h.cell 5, h.cell 6, h.cell 7, h.cell 8, h.cell 9, h.cell 10, h.cell 11, h.cell 12, h.cell 13, h.cell 14⟩
theorem sum_upd {α : Type} (c : α → Nat) (x : Nat → α) (k : Nat) (a : α) : ∀ n : Nat, sumN (fun i => c (upd x k a i)) n ≤ sumN (fun i => c (x i)) n + (if k < n then c a else 0)
  | 0 => by simp [sumN]
  | n + 1 => by
    have ih := sum_upd c x k a n
    rw [sumN_succ, sumN_succ]
    by_cases h : n = k
    · subst h
      rw [upd_at, if_pos (by omega)]
      rw [if_neg (by omega)] at ih
      omega
    · rw [upd_ne x a h]
      by_cases h2 : k < n
      · rw [if_pos h2] at ih; rw [if_pos (by omega)]; omega
      · rw [if_neg h2] at ih; rw [if_neg (by omega)]; omega
theorem cSl_upd {α : Type} (c : α → Nat) (p : Nat × (Nat → α)) (k : Nat) (a : α) : cSl c (p.1, upd p.2 k a) ≤ cSl c p + c a := by
  have := sum_upd c p.2 k a p.1
  unfold cSl
  show sumN (fun i => c (upd p.2 k a i)) p.1 ≤ _
  split at this <;> omega
theorem ask_ex (d : WorldD) : ∃ x, AskAns d x := by
  obtain ⟨x, hx⟩ := world_ex d
  by_cases h : x = 0
  · subst h
    cases hd : d.down with
    | true => exact ⟨9, .inr ⟨hx, .inl ⟨hd, rfl⟩⟩⟩
    | false => exact ⟨0, .inr ⟨hx, .inr ⟨hd, rfl⟩⟩⟩
  · exact ⟨x, .inl ⟨h, hx⟩⟩
theorem strike_ex (d : WorldD) (t kd sq : Int) : ∃ q, StrikeAns d t kd sq q := by
  obtain ⟨x, hx⟩ := ask_ex d
  by_cases h : x = 0
  · subst h
    by_cases h1 : InP t 0 1
    · by_cases h3 : FailsP d
      · exact ⟨_, .inr ⟨hx, .inr ⟨h1, .inl ⟨h3, rfl⟩⟩⟩⟩
      · exact ⟨_, .inr ⟨hx, .inr ⟨h1, .inr ⟨h3, rfl⟩⟩⟩⟩
    · exact ⟨_, .inr ⟨hx, .inl ⟨h1, rfl⟩⟩⟩
  · exact ⟨_, .inl ⟨x, h, hx, rfl⟩⟩
theorem sum_sel (c : Nat → Nat) (p : Nat → Bool) : ∀ n : Nat, sumN (fun i => c (selF p n i)) (keptI p n).length ≤ sumN c n
  | 0 => by simp [keptI, sumN]
  | n + 1 => by
    have ih := sum_sel c p n
    rw [sumN_succ]
    cases h : p n with
    | true =>
      have e : (keptI p (n + 1)).length = (keptI p n).length + 1 := by rw [kept_succ, if_pos h]; simp
      rw [e, sumN_succ, selF_last h]
      have h2 : sumN (fun i => c (selF p (n + 1) i)) (keptI p n).length ≤ sumN (fun i => c (selF p n i)) (keptI p n).length := sumN_mono2 (fun i hi => by rw [selF_more hi]; exact Nat.le_refl _)
      omega
    | false =>
      rw [kept_skip h]
      have h2 : sumN (fun i => c (selF p (n + 1) i)) (keptI p n).length ≤ sumN (fun i => c (selF p n i)) (keptI p n).length := sumN_mono2 (fun i hi => by rw [selF_more hi]; exact Nat.le_refl _)
      omega
theorem cTape_struck (x : TapeD) (kd sq : Int) : cTapeD (struckT x kd sq) ≤ cTapeD x := by
  have := sum_sel (fun i => cRecD (x.recs.2 i)) (fun i => keepB kd sq (x.recs.2 i)) x.recs.1
  unfold cTapeD cSl
  show 1 + sumN (fun i => cRecD (x.recs.2 (selF (fun i => keepB kd sq (x.recs.2 i)) x.recs.1 i))) (keptI (fun i => keepB kd sq (x.recs.2 i)) x.recs.1).length ≤ _
  omega
theorem strike_cv {d : WorldD} {t kd sq : Int} {q : WorldResultD} (hq : StrikeAns d t kd sq q) (hsz : szWorldD d ≤ 1048576) : cvWorldResultD q ≤ 90000000 := by
  have h1 := cvWorld_le d
  rcases hq with ⟨x, _, _, rfl⟩ | ⟨h0, ⟨_, rfl⟩ | ⟨hp, ⟨_, rfl⟩ | ⟨_, rfl⟩⟩⟩
  · exact Nat.zero_le _
  · exact Nat.zero_le _
  · have e : cvWorldD (cutW d) + d.on.1 = cvWorldD d := by
      unfold cvWorldD lenD
      show (cSl (cSl cDriveD)) d.groups + 0 + (cSl cTapeD) d.tapes + d.on.1 = _
      omega
    show cvWorldD (cutW d) ≤ _
    omega
  · obtain ⟨T, rfl, hT, hn⟩ := tape_at (ask_ok h0) hp
    have hs : szSl szTapeD d.tapes ≤ 1048576 := by unfold szWorldD at hsz; omega
    have h2 := cSl_upd cTapeD d.tapes T (struckT (d.tapes.2 T) kd sq)
    have h3 := cTape_struck (d.tapes.2 T) kd sq
    have h4 := cTape_le (d.tapes.2 T)
    have h5 : szTapeD (d.tapes.2 T) ≤ 1048576 := szSl_at hs hT
    show cvWorldD (struckW d T kd sq) ≤ _
    unfold cvWorldD at h1 ⊢
    show (cSl (cSl cDriveD)) d.groups + lenD d.on + (cSl cTapeD) (d.tapes.1, upd d.tapes.2 T (struckT (d.tapes.2 T) kd sq)) ≤ _
    omega
theorem strike_det {d : WorldD} {t kd sq : Int} {q : WorldResultD} {w : World} {f : Nat} {args : Array Value} (hq : StrikeAns d t kd sq q) (h : Calls Tryz.prog f args w (ResPost (StrikeAns d t kd sq) w)) : Calls Tryz.prog f args w fun e w' => ∃ cs, e = .returned (.agg cs.toArray) ∧ OwnT layWorldResult w' w.heap.size w'.heap.size q cs ∧ Below w.heap.size w w' :=
  h.mono fun e w' ⟨d', cs, h1, h2, h3, h4⟩ => ⟨cs, h1, by rw [hq.one h2]; exact h3, h4⟩
set_option maxHeartbeats 16000000 in
set_option maxRecDepth 20000 in
theorem fnExactStrikeRecs_walk (d : WorldD) (cs : List Value) (i0 : Int) (i1 : Int) (i2 : Int) (w : World) (rd0 : layWorld.rd w w.heap.size d cs) (hi0 : -9223372036854775808 ≤ i0 ∧ i0 ≤ 9223372036854775807) (hi1 : -9223372036854775808 ≤ i1 ∧ i1 ≤ 9223372036854775807) (hi2 : -9223372036854775808 ≤ i2 ∧ i2 ≤ 9223372036854775807) :
    Calls Tryz.prog 11 #[.agg cs.toArray, .int .i64 i0, .int .i64 i1, .int .i64 i2] w fun e w' => e = .returned (.bool true) ∧ Below w.heap.size w w' := by
  obtain ⟨v0, v1, v2, v3, v4, v5, v6, v7, v8, vp0, vl0, vq0, vp1, vl1, vq1, vp2, vl2, vq2, v9, v10, vb, rfl⟩ := world15 rd0
  have HR : Hid (layWorld.rd w w.heap.size d [.int .i64 v0, .int .i64 v1, .int .i64 v2, .int .i64 v3, .int .i64 v4, .int .i64 v5, .int .i64 v6, .int .i64 v7, .int .i64 v8, .slice vp0 vl0 vq0, .slice vp1 vl1 vq1, .slice vp2 vl2 vq2, .int .i64 v9, .int .i64 v10, .bool vb]) := rd0
  have HHi0 : Hid (-9223372036854775808 ≤ i0 ∧ i0 ≤ 9223372036854775807) := hi0
  have HHi1 : Hid (-9223372036854775808 ≤ i1 ∧ i1 ≤ 9223372036854775807) := hi1
  have HHi2 : Hid (-9223372036854775808 ≤ i2 ∧ i2 ≤ 9223372036854775807) := hi2
  clear rd0 hi0 hi1 hi2
  have T0 := one_new w #[.int .i64 v0, .int .i64 v1, .int .i64 v2, .int .i64 v3, .int .i64 v4, .int .i64 v5, .int .i64 v6, .int .i64 v7, .int .i64 v8, .slice vp0 vl0 vq0, .slice vp1 vl1 vq1, .slice vp2 vl2 vq2, .int .i64 v9, .int .i64 v10, .bool vb] 55
  go_enter Tryz.func11, Tryz.ntmps11
  go_wp2_with (refine wp_loadBox 55 (.tmp 4) rfl rfl (w.heap.size) rfl (cs := [.int .i64 v0, .int .i64 v1, .int .i64 v2, .int .i64 v3, .int .i64 v4, .int .i64 v5, .int .i64 v6, .int .i64 v7, .int .i64 v8, .slice vp0 vl0 vq0, .slice vp1 vl1 vq1, .slice vp2 vl2 vq2, .int .i64 v9, .int .i64 v10, .bool vb]) T0.b1 Tryz.underlying55 size_LW rfl ?_)
  refine (szWorld_is _ d w.heap.size 1048576 _ (layWorld.rd_below HR.out T0.bel (Nat.le_refl _)) T0.bel.size (by omega)).mono ?_
  rintro e w1 ⟨x, rfl, hx, b1⟩
  have T1 := T0.call b1
  have HT1 : Hid (One w w1 #[.int .i64 v0, .int .i64 v1, .int .i64 v2, .int .i64 v3, .int .i64 v4, .int .i64 v5, .int .i64 v6, .int .i64 v7, .int .i64 v8, .slice vp0 vl0 vq0, .slice vp1 vl1 vq1, .slice vp2 vl2 vq2, .int .i64 v9, .int .i64 v10, .bool vb] 55) := T1
  clear b1 T0
  rcases hx with rfl | ⟨hsz, hx⟩
  · clear T1
    go_wp2
    go_ret
    exact ⟨rfl, HT1.out.bel⟩
  have hx0 : ¬ x < 0 := by omega
  clear hx
  obtain ⟨q, hq⟩ := strike_ex d i0 i1 i2
  obtain ⟨N, hN⟩ : ∃ N, N = 1 + cvWorldResultD q := ⟨_, rfl⟩
  have hj : 1 + cvWorldResultD q ≤ 100000000 := by have := strike_cv hq hsz; omega
  obtain ⟨M, hM⟩ : ∃ M, M = 1 + cvWorldD d := ⟨_, rfl⟩
  have hk : 1 + cvWorldD d ≤ 100000000 := by have := cvWorld_le d; omega
  have CT : ∀ w', Below w1.heap.size w1 w' → Calls Tryz.prog 30 #[.agg #[.int .i64 v0, .int .i64 v1, .int .i64 v2, .int .i64 v3, .int .i64 v4, .int .i64 v5, .int .i64 v6, .int .i64 v7, .int .i64 v8, .slice vp0 vl0 vq0, .slice vp1 vl1 vq1, .slice vp2 vl2 vq2, .int .i64 v9, .int .i64 v10, .bool vb]] w' fun e w'' => ∃ cs', e = .returned (.agg cs'.toArray) ∧ OwnT layWorld w'' w'.heap.size w''.heap.size d cs' ∧ Below w'.heap.size w' w'' := fun w' hb =>
    toWorld_is _ d w.heap.size w' (layWorld.rd_below (layWorld.rd_below HR.out HT1.out.bel (Nat.le_refl _)) hb HT1.out.bel.size) (Nat.le_trans HT1.out.bel.size hb.size) hsz
  have CS := fun (cs' : List Value) (hi : Nat) (w' : World) (h1 : layWorld.rd w' hi d cs') (h2 : hi ≤ w'.heap.size) => strike_det hq (specStrike_any d i0 i1 i2 cs' hi w' h1 h2 hsz HHi0.out HHi1.out HHi2.out)
  have CI := fun (cs' : List Value) (hi : Nat) (w' : World) (h1 : layWorld.rd w' hi d cs') (h2 : hi ≤ w'.heap.size) => strike_det hq (implStrike_any d i0 i1 i2 cs' hi w' h1 h2 hsz HHi0.out HHi1.out HHi2.out)
  have CE := fun c1 c2 h1 h2 w' => eqWorldResult_is c1 c2 q h1 h2 w'
  have CW := fun c1 c2 h1 h2 w' => eqWorld_is c1 c2 d h1 h2 w'
  have CM := fun {w' : World} {lo hi : Nat} {cs : List Value} (h : OwnT layWorldResult w' lo hi q cs) => mark_T markWorldResult_is h 1 hj
  have CK := fun {w' : World} {lo hi : Nat} {cs : List Value} (h : OwnT layWorld w' lo hi d cs) => mark_T markWorld_is h 1 hk
  have CH := fun (cs : List Value) (hi : Nat) (w' : World) (h : layWorldResult.rd w' hi (mkvWorldResultD 1 q) cs) (hh : hi ≤ w'.heap.size) => heldWorldResult_is cs q hi 1 w' h hh hj
  rw [← hN] at CM CH
  rw [← hM] at CK
  clear hN hM hj hk hq hsz
  go_wp2_with (refine wp_loadBox 55 (.tmp 4) rfl rfl (w.heap.size) rfl (cs := [.int .i64 v0, .int .i64 v1, .int .i64 v2, .int .i64 v3, .int .i64 v4, .int .i64 v5, .int .i64 v6, .int .i64 v7, .int .i64 v8, .slice vp0 vl0 vq0, .slice vp1 vl1 vq1, .slice vp2 vl2 vq2, .int .i64 v9, .int .i64 v10, .bool vb]) T1.b1 Tryz.underlying55 size_LW rfl ?_)
  refine (CT _ (Below.refl _ _)).mono ?_
  rintro e w2 ⟨c2, rfl, o2, b2⟩
  have z1 : w.heap.size < w1.heap.size := T1.b1.lt
  clear T1
  go_wp2_with fail
  refine (CS _ _ _ o2.rd (Nat.le_refl _)).mono ?_
  rintro e w3 ⟨cS, rfl, oS, b3⟩
  obtain ⟨sc, s0, s1, s2, s3, s4, s5, s6, s7, s8, sp0, sl0, sq0, sp1, sl1, sq1, sp2, sl2, sq2, s9, s10, sb, rfl⟩ := wres16 oS.rd
  have z2 : w1.heap.size ≤ w2.heap.size := b2.size
  have z3 : w2.heap.size ≤ w3.heap.size := b3.size
  have B3 : Below w1.heap.size w1 w3 := b2.trans (b3.mono b2.size)
  clear o2 b2 b3
  go_upto_region 6 with (refine wp_allocStore 34 10 (.tmp 27) [.int .i64 sc, .int .i64 s0, .int .i64 s1, .int .i64 s2, .int .i64 s3, .int .i64 s4, .int .i64 s5, .int .i64 s6, .int .i64 s7, .int .i64 s8, .slice sp0 sl0 sq0, .slice sp1 sl1 sq1, .slice sp2 sl2 sq2, .int .i64 s9, .int .i64 s10, .bool sb] _ 16 rfl rfl rfl rfl rfl rfl rfl rfl info_WR rfl rfl oS.one ?_)
  have bA : Below w3.heap.size w3 (w3.alloc (.cells #[.int .i64 sc, .int .i64 s0, .int .i64 s1, .int .i64 s2, .int .i64 s3, .int .i64 s4, .int .i64 s5, .int .i64 s6, .int .i64 s7, .int .i64 s8, .slice sp0 sl0 sq0, .slice sp1 sl1 sq1, .slice sp2 sl2 sq2, .int .i64 s9, .int .i64 s10, .bool sb] 34)) := (Below.refl _ _).alloc (Nat.le_refl _) _
  have S4 : Box (w3.alloc (.cells #[.int .i64 sc, .int .i64 s0, .int .i64 s1, .int .i64 s2, .int .i64 s3, .int .i64 s4, .int .i64 s5, .int .i64 s6, .int .i64 s7, .int .i64 s8, .slice sp0 sl0 sq0, .slice sp1 sl1 sq1, .slice sp2 sl2 sq2, .int .i64 s9, .int .i64 s10, .bool sb] 34)) w3.heap.size #[.int .i64 sc, .int .i64 s0, .int .i64 s1, .int .i64 s2, .int .i64 s3, .int .i64 s4, .int .i64 s5, .int .i64 s6, .int .i64 s7, .int .i64 s8, .slice sp0 sl0 sq0, .slice sp1 sl1 sq1, .slice sp2 sl2 sq2, .int .i64 s9, .int .i64 s10, .bool sb] 34 := box_new _ _ _
  obtain ⟨W4, hW4⟩ : ∃ x, x = w3.alloc (.cells #[.int .i64 sc, .int .i64 s0, .int .i64 s1, .int .i64 s2, .int .i64 s3, .int .i64 s4, .int .i64 s5, .int .i64 s6, .int .i64 s7, .int .i64 s8, .slice sp0 sl0 sq0, .slice sp1 sl1 sq1, .slice sp2 sl2 sq2, .int .i64 s9, .int .i64 s10, .bool sb] 34) := ⟨_, rfl⟩
  rw [← hW4] at bA S4 ⊢
  have B4 := B3.trans (bA.mono (by omega))
  have P4 := HT1.out.call B4
  have OS4 := oS.call bA
  have z4 : w3.heap.size < W4.heap.size := S4.lt
  clear bA hW4 oS B3
  go_wp2_with (refine wp_loadBox 55 (.tmp 4) rfl rfl (w.heap.size) rfl (cs := [.int .i64 v0, .int .i64 v1, .int .i64 v2, .int .i64 v3, .int .i64 v4, .int .i64 v5, .int .i64 v6, .int .i64 v7, .int .i64 v8, .slice vp0 vl0 vq0, .slice vp1 vl1 vq1, .slice vp2 vl2 vq2, .int .i64 v9, .int .i64 v10, .bool vb]) P4.b1 Tryz.underlying55 size_LW rfl ?_)
  refine (CT _ B4).mono ?_
  rintro e w5 ⟨cX, rfl, oX, b5⟩
  obtain ⟨x0, x1, x2, x3, x4, x5, x6, x7, x8, xp0, xl0, xq0, xp1, xl1, xq1, xp2, xl2, xq2, x9, x10, xb, rfl⟩ := world15O oX
  have z5 : W4.heap.size ≤ w5.heap.size := b5.size
  have B5 := B4.trans (b5.mono (by omega))
  have S5 := S4.call b5
  have OS5 := OS4.call b5
  clear P4 b5 B4 S4 OS4
  go_upto_region 7 with (refine wp_allocStore 30 11 (.tmp 29) [.int .i64 x0, .int .i64 x1, .int .i64 x2, .int .i64 x3, .int .i64 x4, .int .i64 x5, .int .i64 x6, .int .i64 x7, .int .i64 x8, .slice xp0 xl0 xq0, .slice xp1 xl1 xq1, .slice xp2 xl2 xq2, .int .i64 x9, .int .i64 x10, .bool xb] _ 15 rfl rfl rfl rfl rfl rfl rfl rfl info_W rfl rfl oX.one ?_)
  have bA : Below w5.heap.size w5 (w5.alloc (.cells #[.int .i64 x0, .int .i64 x1, .int .i64 x2, .int .i64 x3, .int .i64 x4, .int .i64 x5, .int .i64 x6, .int .i64 x7, .int .i64 x8, .slice xp0 xl0 xq0, .slice xp1 xl1 xq1, .slice xp2 xl2 xq2, .int .i64 x9, .int .i64 x10, .bool xb] 30)) := (Below.refl _ _).alloc (Nat.le_refl _) _
  have X6 : Box (w5.alloc (.cells #[.int .i64 x0, .int .i64 x1, .int .i64 x2, .int .i64 x3, .int .i64 x4, .int .i64 x5, .int .i64 x6, .int .i64 x7, .int .i64 x8, .slice xp0 xl0 xq0, .slice xp1 xl1 xq1, .slice xp2 xl2 xq2, .int .i64 x9, .int .i64 x10, .bool xb] 30)) w5.heap.size #[.int .i64 x0, .int .i64 x1, .int .i64 x2, .int .i64 x3, .int .i64 x4, .int .i64 x5, .int .i64 x6, .int .i64 x7, .int .i64 x8, .slice xp0 xl0 xq0, .slice xp1 xl1 xq1, .slice xp2 xl2 xq2, .int .i64 x9, .int .i64 x10, .bool xb] 30 := box_new _ _ _
  obtain ⟨W6, hW6⟩ : ∃ x, x = w5.alloc (.cells #[.int .i64 x0, .int .i64 x1, .int .i64 x2, .int .i64 x3, .int .i64 x4, .int .i64 x5, .int .i64 x6, .int .i64 x7, .int .i64 x8, .slice xp0 xl0 xq0, .slice xp1 xl1 xq1, .slice xp2 xl2 xq2, .int .i64 x9, .int .i64 x10, .bool xb] 30) := ⟨_, rfl⟩
  rw [← hW6] at bA X6 ⊢
  have B6 := B5.trans (bA.mono (by omega))
  have S6 := S5.call bA
  have OS6 := OS5.call bA
  have OX6 := oX.call bA
  have z6 : w5.heap.size < W6.heap.size := X6.lt
  clear bA hW6 oX B5 S5 OS5
  go_wp2_with (refine wp_loadBox 30 (.tmp 11) rfl rfl (w5.heap.size) rfl (cs := [.int .i64 x0, .int .i64 x1, .int .i64 x2, .int .i64 x3, .int .i64 x4, .int .i64 x5, .int .i64 x6, .int .i64 x7, .int .i64 x8, .slice xp0 xl0 xq0, .slice xp1 xl1 xq1, .slice xp2 xl2 xq2, .int .i64 x9, .int .i64 x10, .bool xb]) X6 Tryz.underlying30 size_W rfl ?_)
  refine (CI _ _ _ OX6.rd (by omega)).mono ?_
  rintro e w7 ⟨cG, rfl, oG, b7⟩
  obtain ⟨gc, g0, g1, g2, g3, g4, g5, g6, g7, g8, gp0, gl0, gq0, gp1, gl1, gq1, gp2, gl2, gq2, g9, g10, gb, rfl⟩ := wres16 oG.rd
  have z7 : W6.heap.size ≤ w7.heap.size := b7.size
  have B7 := B6.trans (b7.mono (by omega))
  have S7 := S6.call b7
  have OS7 := OS6.call b7
  have X7 := X6.call b7
  have OX7 := OX6.call b7
  clear b7 B6 S6 OS6 X6 OX6
  go_upto_region 8 with (refine wp_allocStore 34 12 (.tmp 34) [.int .i64 gc, .int .i64 g0, .int .i64 g1, .int .i64 g2, .int .i64 g3, .int .i64 g4, .int .i64 g5, .int .i64 g6, .int .i64 g7, .int .i64 g8, .slice gp0 gl0 gq0, .slice gp1 gl1 gq1, .slice gp2 gl2 gq2, .int .i64 g9, .int .i64 g10, .bool gb] _ 16 rfl rfl rfl rfl rfl rfl rfl rfl info_WR rfl rfl oG.one ?_)
  have bA : Below w7.heap.size w7 (w7.alloc (.cells #[.int .i64 gc, .int .i64 g0, .int .i64 g1, .int .i64 g2, .int .i64 g3, .int .i64 g4, .int .i64 g5, .int .i64 g6, .int .i64 g7, .int .i64 g8, .slice gp0 gl0 gq0, .slice gp1 gl1 gq1, .slice gp2 gl2 gq2, .int .i64 g9, .int .i64 g10, .bool gb] 34)) := (Below.refl _ _).alloc (Nat.le_refl _) _
  have G8 : Box (w7.alloc (.cells #[.int .i64 gc, .int .i64 g0, .int .i64 g1, .int .i64 g2, .int .i64 g3, .int .i64 g4, .int .i64 g5, .int .i64 g6, .int .i64 g7, .int .i64 g8, .slice gp0 gl0 gq0, .slice gp1 gl1 gq1, .slice gp2 gl2 gq2, .int .i64 g9, .int .i64 g10, .bool gb] 34)) w7.heap.size #[.int .i64 gc, .int .i64 g0, .int .i64 g1, .int .i64 g2, .int .i64 g3, .int .i64 g4, .int .i64 g5, .int .i64 g6, .int .i64 g7, .int .i64 g8, .slice gp0 gl0 gq0, .slice gp1 gl1 gq1, .slice gp2 gl2 gq2, .int .i64 g9, .int .i64 g10, .bool gb] 34 := box_new _ _ _
  obtain ⟨W8, hW8⟩ : ∃ x, x = w7.alloc (.cells #[.int .i64 gc, .int .i64 g0, .int .i64 g1, .int .i64 g2, .int .i64 g3, .int .i64 g4, .int .i64 g5, .int .i64 g6, .int .i64 g7, .int .i64 g8, .slice gp0 gl0 gq0, .slice gp1 gl1 gq1, .slice gp2 gl2 gq2, .int .i64 g9, .int .i64 g10, .bool gb] 34) := ⟨_, rfl⟩
  rw [← hW8] at bA G8 ⊢
  have B8 := B7.trans (bA.mono (by omega))
  have S8 := S7.call bA
  have OS8 := OS7.call bA
  have X8 := X7.call bA
  have OX8 := OX7.call bA
  have OG8 := oG.call bA
  have z8 : w7.heap.size < W8.heap.size := G8.lt
  clear bA hW8 oG B7 S7 OS7 X7 OX7
  go_wp2_with (first | (refine wp_loadBox 34 (.tmp 12) rfl rfl (w7.heap.size) rfl (cs := [.int .i64 gc, .int .i64 g0, .int .i64 g1, .int .i64 g2, .int .i64 g3, .int .i64 g4, .int .i64 g5, .int .i64 g6, .int .i64 g7, .int .i64 g8, .slice gp0 gl0 gq0, .slice gp1 gl1 gq1, .slice gp2 gl2 gq2, .int .i64 g9, .int .i64 g10, .bool gb]) G8 Tryz.underlying34 size_WR rfl ?_) | (refine wp_loadBox 34 (.tmp 10) rfl rfl (w3.heap.size) rfl (cs := [.int .i64 sc, .int .i64 s0, .int .i64 s1, .int .i64 s2, .int .i64 s3, .int .i64 s4, .int .i64 s5, .int .i64 s6, .int .i64 s7, .int .i64 s8, .slice sp0 sl0 sq0, .slice sp1 sl1 sq1, .slice sp2 sl2 sq2, .int .i64 s9, .int .i64 s10, .bool sb]) S8 Tryz.underlying34 size_WR rfl ?_))
  refine (CE _ _ _ _ _ OG8.rd OS8.rd (by omega) (by omega)).mono ?_
  rintro e w9 ⟨rfl, b9⟩
  have z9 : W8.heap.size ≤ w9.heap.size := b9.size
  have B9 := B8.trans (b9.mono (by omega))
  have S9 : Hid (Box w9 w3.heap.size #[.int .i64 sc, .int .i64 s0, .int .i64 s1, .int .i64 s2, .int .i64 s3, .int .i64 s4, .int .i64 s5, .int .i64 s6, .int .i64 s7, .int .i64 s8, .slice sp0 sl0 sq0, .slice sp1 sl1 sq1, .slice sp2 sl2 sq2, .int .i64 s9, .int .i64 s10, .bool sb] 34) := S8.call b9
  have OS9 : Hid (OwnT layWorldResult w9 w2.heap.size w3.heap.size q [.int .i64 sc, .int .i64 s0, .int .i64 s1, .int .i64 s2, .int .i64 s3, .int .i64 s4, .int .i64 s5, .int .i64 s6, .int .i64 s7, .int .i64 s8, .slice sp0 sl0 sq0, .slice sp1 sl1 sq1, .slice sp2 sl2 sq2, .int .i64 s9, .int .i64 s10, .bool sb]) := OS8.call b9
  have X9 : Hid (Box w9 w5.heap.size #[.int .i64 x0, .int .i64 x1, .int .i64 x2, .int .i64 x3, .int .i64 x4, .int .i64 x5, .int .i64 x6, .int .i64 x7, .int .i64 x8, .slice xp0 xl0 xq0, .slice xp1 xl1 xq1, .slice xp2 xl2 xq2, .int .i64 x9, .int .i64 x10, .bool xb] 30) := X8.call b9
  have OX9 : Hid (OwnT layWorld w9 W4.heap.size w5.heap.size d [.int .i64 x0, .int .i64 x1, .int .i64 x2, .int .i64 x3, .int .i64 x4, .int .i64 x5, .int .i64 x6, .int .i64 x7, .int .i64 x8, .slice xp0 xl0 xq0, .slice xp1 xl1 xq1, .slice xp2 xl2 xq2, .int .i64 x9, .int .i64 x10, .bool xb]) := OX8.call b9
  have G9 : Hid (Box w9 w7.heap.size #[.int .i64 gc, .int .i64 g0, .int .i64 g1, .int .i64 g2, .int .i64 g3, .int .i64 g4, .int .i64 g5, .int .i64 g6, .int .i64 g7, .int .i64 g8, .slice gp0 gl0 gq0, .slice gp1 gl1 gq1, .slice gp2 gl2 gq2, .int .i64 g9, .int .i64 g10, .bool gb] 34) := G8.call b9
  have OG9 : Hid (OwnT layWorldResult w9 W6.heap.size w7.heap.size q [.int .i64 gc, .int .i64 g0, .int .i64 g1, .int .i64 g2, .int .i64 g3, .int .i64 g4, .int .i64 g5, .int .i64 g6, .int .i64 g7, .int .i64 g8, .slice gp0 gl0 gq0, .slice gp1 gl1 gq1, .slice gp2 gl2 gq2, .int .i64 g9, .int .i64 g10, .bool gb]) := OG8.call b9
  have HB9 : Hid (Below w1.heap.size w1 w9) := B9
  have P9 : Hid (One w w9 #[.int .i64 v0, .int .i64 v1, .int .i64 v2, .int .i64 v3, .int .i64 v4, .int .i64 v5, .int .i64 v6, .int .i64 v7, .int .i64 v8, .slice vp0 vl0 vq0, .slice vp1 vl1 vq1, .slice vp2 vl2 vq2, .int .i64 v9, .int .i64 v10, .bool vb] 55) := HT1.out.call B9
  have u_0 : w9.cell? ⟨w5.heap.size, 0, none⟩ = some (.int .i64 x0) := X9.out.cell 0
  have u_1 : w9.cell? ⟨w5.heap.size, 1, none⟩ = some (.int .i64 x1) := X9.out.cell 1
  have u_2 : w9.cell? ⟨w5.heap.size, 2, none⟩ = some (.int .i64 x2) := X9.out.cell 2
  have u_3 : w9.cell? ⟨w5.heap.size, 3, none⟩ = some (.int .i64 x3) := X9.out.cell 3
  have u_4 : w9.cell? ⟨w5.heap.size, 4, none⟩ = some (.int .i64 x4) := X9.out.cell 4
  have u_5 : w9.cell? ⟨w5.heap.size, 5, none⟩ = some (.int .i64 x5) := X9.out.cell 5
  have u_6 : w9.cell? ⟨w5.heap.size, 6, none⟩ = some (.int .i64 x6) := X9.out.cell 6
  have u_7 : w9.cell? ⟨w5.heap.size, 7, none⟩ = some (.int .i64 x7) := X9.out.cell 7
  have u_8 : w9.cell? ⟨w5.heap.size, 8, none⟩ = some (.int .i64 x8) := X9.out.cell 8
  have u_9 : w9.cell? ⟨w5.heap.size, 9, none⟩ = some (.slice xp0 xl0 xq0) := X9.out.cell 9
  have u_10 : w9.cell? ⟨w5.heap.size, 10, none⟩ = some (.slice xp1 xl1 xq1) := X9.out.cell 10
  have u_11 : w9.cell? ⟨w5.heap.size, 11, none⟩ = some (.slice xp2 xl2 xq2) := X9.out.cell 11
  have u_12 : w9.cell? ⟨w5.heap.size, 12, none⟩ = some (.int .i64 x9) := X9.out.cell 12
  have u_13 : w9.cell? ⟨w5.heap.size, 13, none⟩ = some (.int .i64 x10) := X9.out.cell 13
  have u_14 : w9.cell? ⟨w5.heap.size, 14, none⟩ = some (.bool xb) := X9.out.cell 14
  have y_0 : w9.cell? ⟨w.heap.size, 0, none⟩ = some (.int .i64 v0) := P9.out.b1.cell 0
  have y_1 : w9.cell? ⟨w.heap.size, 1, none⟩ = some (.int .i64 v1) := P9.out.b1.cell 1
  have y_2 : w9.cell? ⟨w.heap.size, 2, none⟩ = some (.int .i64 v2) := P9.out.b1.cell 2
  have y_3 : w9.cell? ⟨w.heap.size, 3, none⟩ = some (.int .i64 v3) := P9.out.b1.cell 3
  have y_4 : w9.cell? ⟨w.heap.size, 4, none⟩ = some (.int .i64 v4) := P9.out.b1.cell 4
  have y_5 : w9.cell? ⟨w.heap.size, 5, none⟩ = some (.int .i64 v5) := P9.out.b1.cell 5
  have y_6 : w9.cell? ⟨w.heap.size, 6, none⟩ = some (.int .i64 v6) := P9.out.b1.cell 6
  have y_7 : w9.cell? ⟨w.heap.size, 7, none⟩ = some (.int .i64 v7) := P9.out.b1.cell 7
  have y_8 : w9.cell? ⟨w.heap.size, 8, none⟩ = some (.int .i64 v8) := P9.out.b1.cell 8
  have y_9 : w9.cell? ⟨w.heap.size, 9, none⟩ = some (.slice vp0 vl0 vq0) := P9.out.b1.cell 9
  have y_10 : w9.cell? ⟨w.heap.size, 10, none⟩ = some (.slice vp1 vl1 vq1) := P9.out.b1.cell 10
  have y_11 : w9.cell? ⟨w.heap.size, 11, none⟩ = some (.slice vp2 vl2 vq2) := P9.out.b1.cell 11
  have y_12 : w9.cell? ⟨w.heap.size, 12, none⟩ = some (.int .i64 v9) := P9.out.b1.cell 12
  have y_13 : w9.cell? ⟨w.heap.size, 13, none⟩ = some (.int .i64 v10) := P9.out.b1.cell 13
  have y_14 : w9.cell? ⟨w.heap.size, 14, none⟩ = some (.bool vb) := P9.out.b1.cell 14
  clear b9 B8 S8 OS8 X8 OX8 G8 OG8 B9
  go_upto_region 10 with fail
  go_cut [43] (fun v wx => v = .bool false ∧ Below w9.heap.size w9 wx)
  case first =>
    go_region_with (first | (go_at_call 30; refine (CT _ (HB9.out.trans ((below_drewN (Below.refl _ _) 1).mono HB9.out.size))).mono ?_; rintro ee wb ⟨cs', rfl, oR, bb⟩; have bR : Below w9.heap.size w9 wb := (below_drewN (Below.refl _ _) 1).trans bb; obtain ⟨qb0, qb1, qb2, qb3, qb4, qb5, qb6, qb7, qb8, qb9, qb10, qb11, qb12, qb13, qb14⟩ := fifteen (X9.out.call bR)) | (go_at_call 32; refine (CW _ _ _ _ _ (OX9.out.call bR).rd oR.rd (Nat.le_trans (by omega) bR.size) (Nat.le_refl _)).mono ?_; rintro ee wc' ⟨rfl, bc⟩; have bC : Below w9.heap.size w9 wc' := bR.trans (bc.mono bR.size)))
    all_goals
      go_wp2
      go_meet
      exact ⟨rfl, bC⟩
  case rest =>
    obtain ⟨rfl, b10⟩ := hcut
    obtain ⟨w10, rfl⟩ : ∃ x, x = wc := ⟨_, rfl⟩
    clear u_0 u_1 u_2 u_3 u_4 u_5 u_6 u_7 u_8 u_9 u_10 u_11 u_12 u_13 u_14 y_0 y_1 y_2 y_3 y_4 y_5 y_6 y_7 y_8 y_9 y_10 y_11 y_12 y_13 y_14
    have z10 : w9.heap.size ≤ w10.heap.size := b10.size
    have B10 := HB9.out.trans (b10.mono (by omega))
    have S10 := S9.out.call b10
    have OS10 := OS9.out.call b10
    have X10 := X9.out.call b10
    have OX10 := OX9.out.call b10
    have G10 := G9.out.call b10
    have OG10 := OG9.out.call b10
    clear b10 HB9 S9 OS9 X9 OX9 G9 OG9 P9
    have hm0 : ¬ (M : Int) < 0 := by omega
    go_wp2_with (refine wp_loadBox 30 (.tmp 11) rfl rfl (w5.heap.size) rfl (cs := [.int .i64 x0, .int .i64 x1, .int .i64 x2, .int .i64 x3, .int .i64 x4, .int .i64 x5, .int .i64 x6, .int .i64 x7, .int .i64 x8, .slice xp0 xl0 xq0, .slice xp1 xl1 xq1, .slice xp2 xl2 xq2, .int .i64 x9, .int .i64 x10, .bool xb]) X10 Tryz.underlying30 size_W rfl ?_)
    refine (CK OX10).mono ?_
    rintro e w11 ⟨rfl, OX11, c11⟩
    have z11 : w10.heap.size ≤ w11.heap.size := c11.size
    have B11 := B10.trans (c11.bel (B := w1.heap.size) (by omega) (by omega))
    have S11 := S10.chg c11 (.inl (by omega))
    have OS11 := OS10.chg c11 (.inl (by omega))
    have G11 := G10.chg c11 (.inr (by omega))
    have OG11 := OG10.chg c11 (.inr (by omega))
    have u_0 : w11.cell? ⟨w7.heap.size, 0, none⟩ = some (.int .i64 gc) := G11.cell 0
    have u_1 : w11.cell? ⟨w7.heap.size, 1, none⟩ = some (.int .i64 g0) := G11.cell 1
    have u_2 : w11.cell? ⟨w7.heap.size, 2, none⟩ = some (.int .i64 g1) := G11.cell 2
    have u_3 : w11.cell? ⟨w7.heap.size, 3, none⟩ = some (.int .i64 g2) := G11.cell 3
    have u_4 : w11.cell? ⟨w7.heap.size, 4, none⟩ = some (.int .i64 g3) := G11.cell 4
    have u_5 : w11.cell? ⟨w7.heap.size, 5, none⟩ = some (.int .i64 g4) := G11.cell 5
    have u_6 : w11.cell? ⟨w7.heap.size, 6, none⟩ = some (.int .i64 g5) := G11.cell 6
    have u_7 : w11.cell? ⟨w7.heap.size, 7, none⟩ = some (.int .i64 g6) := G11.cell 7
    have u_8 : w11.cell? ⟨w7.heap.size, 8, none⟩ = some (.int .i64 g7) := G11.cell 8
    have u_9 : w11.cell? ⟨w7.heap.size, 9, none⟩ = some (.int .i64 g8) := G11.cell 9
    have u_10 : w11.cell? ⟨w7.heap.size, 10, none⟩ = some (.slice gp0 gl0 gq0) := G11.cell 10
    have u_11 : w11.cell? ⟨w7.heap.size, 11, none⟩ = some (.slice gp1 gl1 gq1) := G11.cell 11
    have u_12 : w11.cell? ⟨w7.heap.size, 12, none⟩ = some (.slice gp2 gl2 gq2) := G11.cell 12
    have u_13 : w11.cell? ⟨w7.heap.size, 13, none⟩ = some (.int .i64 g9) := G11.cell 13
    have u_14 : w11.cell? ⟨w7.heap.size, 14, none⟩ = some (.int .i64 g10) := G11.cell 14
    have u_15 : w11.cell? ⟨w7.heap.size, 15, none⟩ = some (.bool gb) := G11.cell 15
    have y_0 : w11.cell? ⟨w3.heap.size, 0, none⟩ = some (.int .i64 sc) := S11.cell 0
    have y_1 : w11.cell? ⟨w3.heap.size, 1, none⟩ = some (.int .i64 s0) := S11.cell 1
    have y_2 : w11.cell? ⟨w3.heap.size, 2, none⟩ = some (.int .i64 s1) := S11.cell 2
    have y_3 : w11.cell? ⟨w3.heap.size, 3, none⟩ = some (.int .i64 s2) := S11.cell 3
    have y_4 : w11.cell? ⟨w3.heap.size, 4, none⟩ = some (.int .i64 s3) := S11.cell 4
    have y_5 : w11.cell? ⟨w3.heap.size, 5, none⟩ = some (.int .i64 s4) := S11.cell 5
    have y_6 : w11.cell? ⟨w3.heap.size, 6, none⟩ = some (.int .i64 s5) := S11.cell 6
    have y_7 : w11.cell? ⟨w3.heap.size, 7, none⟩ = some (.int .i64 s6) := S11.cell 7
    have y_8 : w11.cell? ⟨w3.heap.size, 8, none⟩ = some (.int .i64 s7) := S11.cell 8
    have y_9 : w11.cell? ⟨w3.heap.size, 9, none⟩ = some (.int .i64 s8) := S11.cell 9
    have y_10 : w11.cell? ⟨w3.heap.size, 10, none⟩ = some (.slice sp0 sl0 sq0) := S11.cell 10
    have y_11 : w11.cell? ⟨w3.heap.size, 11, none⟩ = some (.slice sp1 sl1 sq1) := S11.cell 11
    have y_12 : w11.cell? ⟨w3.heap.size, 12, none⟩ = some (.slice sp2 sl2 sq2) := S11.cell 12
    have y_13 : w11.cell? ⟨w3.heap.size, 13, none⟩ = some (.int .i64 s9) := S11.cell 13
    have y_14 : w11.cell? ⟨w3.heap.size, 14, none⟩ = some (.int .i64 s10) := S11.cell 14
    have y_15 : w11.cell? ⟨w3.heap.size, 15, none⟩ = some (.bool sb) := S11.cell 15
    clear OX11 c11 B10 S10 OS10 X10 OX10 G10 OG10
    go_wp2_with fail
    refine (CE _ _ _ _ _ OG11.rd OS11.rd (by omega) (by omega)).mono ?_
    rintro e w12 ⟨rfl, b12⟩
    have z12 : w11.heap.size ≤ w12.heap.size := b12.size
    have B12 := B11.trans (b12.mono (by omega))
    have S12 := S11.call b12
    have OS12 := OS11.call b12
    have G12 := G11.call b12
    have OG12 := OG11.call b12
    clear b12 B11 S11 OS11 G11 OG11 u_0 u_1 u_2 u_3 u_4 u_5 u_6 u_7 u_8 u_9 u_10 u_11 u_12 u_13 u_14 u_15 y_0 y_1 y_2 y_3 y_4 y_5 y_6 y_7 y_8 y_9 y_10 y_11 y_12 y_13 y_14 y_15
    go_wp2_with (refine wp_loadBox 34 (.tmp 12) rfl rfl (w7.heap.size) rfl (cs := [.int .i64 gc, .int .i64 g0, .int .i64 g1, .int .i64 g2, .int .i64 g3, .int .i64 g4, .int .i64 g5, .int .i64 g6, .int .i64 g7, .int .i64 g8, .slice gp0 gl0 gq0, .slice gp1 gl1 gq1, .slice gp2 gl2 gq2, .int .i64 g9, .int .i64 g10, .bool gb]) G12 Tryz.underlying34 size_WR rfl ?_)
    refine (CM OG12).mono ?_
    rintro e w13 ⟨rfl, OG13, c13⟩
    have z13 : w12.heap.size ≤ w13.heap.size := c13.size
    have B13 := B12.trans (c13.bel (B := w1.heap.size) (by omega) (by omega))
    have S13 := S12.chg c13 (.inl (by omega))
    have OS13 := OS12.chg c13 (.inl (by omega))
    have G13 := G12.chg c13 (.inr (by omega))
    clear c13 B12 S12 OS12 G12 OG12
    go_wp2_with (refine wp_loadBox 34 (.tmp 12) rfl rfl (w7.heap.size) rfl (cs := [.int .i64 gc, .int .i64 g0, .int .i64 g1, .int .i64 g2, .int .i64 g3, .int .i64 g4, .int .i64 g5, .int .i64 g6, .int .i64 g7, .int .i64 g8, .slice gp0 gl0 gq0, .slice gp1 gl1 gq1, .slice gp2 gl2 gq2, .int .i64 g9, .int .i64 g10, .bool gb]) G13 Tryz.underlying34 size_WR rfl ?_)
    refine (CH _ _ _ OG13.rd (by omega)).mono ?_
    rintro e w14 ⟨rfl, b14⟩
    have z14 : w13.heap.size ≤ w14.heap.size := b14.size
    have B14 := B13.trans (b14.mono (by omega))
    have S14 := S13.call b14
    have OS14 := OS13.call b14
    have G14 := G13.call b14
    have OG14 := OG13.call b14
    have P14 := HT1.out.call B14
    clear b14 B13 S13 OS13 G13 OG13
    have hn0 : ¬ (N : Int) < 0 := by omega
    go_wp2_with (refine wp_loadBox 55 (.tmp 4) rfl rfl (w.heap.size) rfl (cs := [.int .i64 v0, .int .i64 v1, .int .i64 v2, .int .i64 v3, .int .i64 v4, .int .i64 v5, .int .i64 v6, .int .i64 v7, .int .i64 v8, .slice vp0 vl0 vq0, .slice vp1 vl1 vq1, .slice vp2 vl2 vq2, .int .i64 v9, .int .i64 v10, .bool vb]) P14.b1 Tryz.underlying55 size_LW rfl ?_)
    refine (CT _ B14).mono ?_
    rintro e w15 ⟨c15, rfl, o15, b15⟩
    go_wp2_with fail
    refine (CI _ _ _ o15.rd (Nat.le_refl _)).mono ?_
    rintro e w16 ⟨cH, rfl, oH, b16⟩
    obtain ⟨hc, h0, h1, h2, h3, h4, h5, h6, h7, h8, hp0, hl0, hq0, hp1, hl1, hq1, hp2, hl2, hq2, h9, h10, hb, rfl⟩ := wres16 oH.rd
    have z15 : w14.heap.size ≤ w15.heap.size := b15.size
    have z16 : w15.heap.size ≤ w16.heap.size := b16.size
    have B16 := (B14.trans (b15.mono (by omega))).trans (b16.mono (by omega))
    have S16 := (S14.call b15).call b16
    have OS16 := (OS14.call b15).call b16
    have G16 := (G14.call b15).call b16
    have OG16 := (OG14.call b15).call b16
    clear P14 o15 b15 b16 B14 S14 OS14 G14 OG14
    go_upto_region 25 with (refine wp_allocStore 34 16 (.tmp 71) [.int .i64 hc, .int .i64 h0, .int .i64 h1, .int .i64 h2, .int .i64 h3, .int .i64 h4, .int .i64 h5, .int .i64 h6, .int .i64 h7, .int .i64 h8, .slice hp0 hl0 hq0, .slice hp1 hl1 hq1, .slice hp2 hl2 hq2, .int .i64 h9, .int .i64 h10, .bool hb] _ 16 rfl rfl rfl rfl rfl rfl rfl rfl info_WR rfl rfl oH.one ?_)
    have bA : Below w16.heap.size w16 (w16.alloc (.cells #[.int .i64 hc, .int .i64 h0, .int .i64 h1, .int .i64 h2, .int .i64 h3, .int .i64 h4, .int .i64 h5, .int .i64 h6, .int .i64 h7, .int .i64 h8, .slice hp0 hl0 hq0, .slice hp1 hl1 hq1, .slice hp2 hl2 hq2, .int .i64 h9, .int .i64 h10, .bool hb] 34)) := (Below.refl _ _).alloc (Nat.le_refl _) _
    have H17 : Box (w16.alloc (.cells #[.int .i64 hc, .int .i64 h0, .int .i64 h1, .int .i64 h2, .int .i64 h3, .int .i64 h4, .int .i64 h5, .int .i64 h6, .int .i64 h7, .int .i64 h8, .slice hp0 hl0 hq0, .slice hp1 hl1 hq1, .slice hp2 hl2 hq2, .int .i64 h9, .int .i64 h10, .bool hb] 34)) w16.heap.size #[.int .i64 hc, .int .i64 h0, .int .i64 h1, .int .i64 h2, .int .i64 h3, .int .i64 h4, .int .i64 h5, .int .i64 h6, .int .i64 h7, .int .i64 h8, .slice hp0 hl0 hq0, .slice hp1 hl1 hq1, .slice hp2 hl2 hq2, .int .i64 h9, .int .i64 h10, .bool hb] 34 := box_new _ _ _
    obtain ⟨W17, hW17⟩ : ∃ x, x = w16.alloc (.cells #[.int .i64 hc, .int .i64 h0, .int .i64 h1, .int .i64 h2, .int .i64 h3, .int .i64 h4, .int .i64 h5, .int .i64 h6, .int .i64 h7, .int .i64 h8, .slice hp0 hl0 hq0, .slice hp1 hl1 hq1, .slice hp2 hl2 hq2, .int .i64 h9, .int .i64 h10, .bool hb] 34) := ⟨_, rfl⟩
    rw [← hW17] at bA H17 ⊢
    have B17 := B16.trans (bA.mono (by omega))
    have S17 := S16.call bA
    have OS17 := OS16.call bA
    have G17 := G16.call bA
    have OG17 := OG16.call bA
    have OH17 := oH.call bA
    have z17 : w16.heap.size < W17.heap.size := H17.lt
    clear bA hW17 oH B16 S16 OS16 G16 OG16
    go_wp2_with (first | (refine wp_loadBox 34 (.tmp 16) rfl rfl (w16.heap.size) rfl (cs := [.int .i64 hc, .int .i64 h0, .int .i64 h1, .int .i64 h2, .int .i64 h3, .int .i64 h4, .int .i64 h5, .int .i64 h6, .int .i64 h7, .int .i64 h8, .slice hp0 hl0 hq0, .slice hp1 hl1 hq1, .slice hp2 hl2 hq2, .int .i64 h9, .int .i64 h10, .bool hb]) H17 Tryz.underlying34 size_WR rfl ?_) | (refine wp_loadBox 34 (.tmp 10) rfl rfl (w3.heap.size) rfl (cs := [.int .i64 sc, .int .i64 s0, .int .i64 s1, .int .i64 s2, .int .i64 s3, .int .i64 s4, .int .i64 s5, .int .i64 s6, .int .i64 s7, .int .i64 s8, .slice sp0 sl0 sq0, .slice sp1 sl1 sq1, .slice sp2 sl2 sq2, .int .i64 s9, .int .i64 s10, .bool sb]) S17 Tryz.underlying34 size_WR rfl ?_))
    refine (CE _ _ _ _ _ OH17.rd OS17.rd (by omega) (by omega)).mono ?_
    rintro e w18 ⟨rfl, b18⟩
    have z18 : W17.heap.size ≤ w18.heap.size := b18.size
    have B18 := B17.trans (b18.mono (by omega))
    have G18 := G17.call b18
    have OG18 := OG17.call b18
    clear b18 B17 S17 OS17 G17 OG17 OH17 H17
    go_wp2_with (refine wp_loadBox 34 (.tmp 12) rfl rfl (w7.heap.size) rfl (cs := [.int .i64 gc, .int .i64 g0, .int .i64 g1, .int .i64 g2, .int .i64 g3, .int .i64 g4, .int .i64 g5, .int .i64 g6, .int .i64 g7, .int .i64 g8, .slice gp0 gl0 gq0, .slice gp1 gl1 gq1, .slice gp2 gl2 gq2, .int .i64 g9, .int .i64 g10, .bool gb]) G18 Tryz.underlying34 size_WR rfl ?_)
    refine (CH _ _ _ OG18.rd (by omega)).mono ?_
    rintro e w19 ⟨rfl, b19⟩
    have HB : Hid (Below w.heap.size w w19) := (HT1.out.call (B18.trans (b19.mono (by omega)))).bel
    clear b19 B18 G18 OG18
    go_wp2
    go_ret
    exact ⟨rfl, HB.out⟩

set_option maxRecDepth 100000 in
theorem fnExactStrikeRecs_lifted (os : Os) (started : os.Started) (H : Type) (enc : TypeId × Value → H) :
    ReturnsInHanded {} Tryz.checked os 11 .any (Rows.fnExactStrikeRecsSpec.pre6 enc Tryz.prog Tryz.f11 Rows.fnExactStrikeRecsRow.domain false) (Rows.fnExactStrikeRecsSpec.post enc Tryz.prog Tryz.f11 false true false false) := by
  refine returnsInHanded_of_change (C := Tryz.checked) frame_own started (by kernel_rfl) Tryz.func11
    (ChangeSpec.witness6 (enc := enc) (C := Tryz.checked) false ⟨#[], #[.agg #[.int .i64 0, .int .i64 0, .int .i64 0, .int .i64 0, .int .i64 0, .int .i64 0, .int .i64 0, .int .i64 0, .int .i64 0, .slice none 0 0, .slice none 0 0, .slice none 0 0, .int .i64 0, .int .i64 0, .bool false], .int .i64 0, .int .i64 0, .int .i64 0], []⟩ 8 (by kernel_rfl) (by kernel_rfl) (by kernel_rfl) (by kernel_rfl)) ?_
  intro W base args ds gs before hval0 hW hcnd _
  have hval : ∀ (j : Nat) t v, Tryz.f11.params[j]? = some t → args[j]? = some v → Value.okWide Tryz.prog W .any base t v := hval0
  have hW' := hW
  obtain ⟨p, q, hA0, hV, rfl, hfz, hnd⟩ := hW
  have hA : DataW.TrodAll enc Tryz.prog W 0 (fun _ => true) true Tryz.f11.params.toList args.toList ds p := hA0
  rw [Tryz.params11] at hA hval
  obtain ⟨v0, vs0, d0, ds0, p0, q0, hargs, rfl, rfl, h0, r0⟩ := trodAll_cons hA
  obtain ⟨v1, vs1, d1, ds1, p1, q1, rfl, rfl, rfl, h1, r1⟩ := trodAll_cons r0
  obtain ⟨v2, vs2, d2, ds2, p2, q2, rfl, rfl, rfl, h2, r2⟩ := trodAll_cons r1
  obtain ⟨v3, vs3, d3, ds3, p3, q3, rfl, rfl, rfl, h3, r3⟩ := trodAll_cons r2
  obtain ⟨rfl, rfl, rfl⟩ := trodAll_nil r3
  obtain rfl : args = #[v0, v1, v2, v3] := by cases args; simp_all
  obtain ⟨rfl, rfl⟩ := trodVars_none hV
  have k0 := h0
  have lt0 : ∀ x ∈ p0, x.block < W.heap.size := by obtain ⟨m, hm⟩ := k0; exact DataW.trod_lt m _ _ _ hm
  obtain ⟨cs0, a0, rfl, rd0⟩ := struct_of_trod opensWorld Tryz.underlying55 (hval 0 55 v0 rfl rfl) h0
  obtain ⟨n1, rfl, rfl, rfl, hn1⟩ := open_int Tryz.underlying2 (hval 1 2 v1 rfl rfl) h1
  obtain ⟨n2, rfl, rfl, rfl, hn2⟩ := open_int Tryz.underlying2 (hval 2 2 v2 rfl rfl) h2
  obtain ⟨n3, rfl, rfl, rfl, hn3⟩ := open_int Tryz.underlying2 (hval 3 2 v3 rfl rfl) h3
  clear hA0 hval0
  refine (fnExactStrikeRecs_walk a0 cs0 n1 n2 n3 W rd0 (bounds_i64 hn1) (bounds_i64 hn2) (bounds_i64 hn3)).mono fun e W' ⟨he, bel⟩ => ?_
  subst he
  exact ⟨_, rfl, _, _, _, [], _, [], hW', trodAll_mk1 (shut_bool Tryz.underlying4 _), (trodAll_cons_mk (Below.trod frame_laid (by kernel_rfl) (of_decide_eq_true (by kernel_rfl)) k0 bel lt0) (trodAll_cons_mk (shut_int Tryz.underlying2 hn1) (trodAll_cons_mk (shut_int Tryz.underlying2 hn2) (trodAll_cons_mk (shut_int Tryz.underlying2 hn3) trodAll_mk0)))), rfl, bel.frame _, fun h => by cases h⟩

end Go.Proofs.YtdgbnongbmgdcaaGreat
