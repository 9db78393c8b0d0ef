/- Walk of the specification's l5Raw. -/
import Derived.Test.YtfafbojaeedhfaaGreatZgE
import Derived.Test.YtfafbojaeedhfaaGreatZgI
import Derived.Deep.DeepCutAuto
import Derived.BigQuiet
import Derived.Deep.QuietTactic
import Derived.Test.YtfafbojaeedhfaaGreatZhM
import Derived.Test.YtfafbojaeedhfaaGreatZhQ
import Derived.Test.YtfafbojaeedhfaaGreatZhU
import Derived.Test.YtfafbojaeedhfaaGreatZgK
namespace Go.Proofs.YtfafbojaeedhfaaGreat
open Go.RowKit F256
set_option linter.unusedVariables false
set_option linter.unusedSimpArgs false
set_option maxHeartbeats 8000000 in
set_option maxRecDepth 20000 in
theorem l5Raw_fail (b : Nat) (v0 v1 v2 v3 v4 v5 v6 v7 v8 vp0 vl0 vq0 vp1 vl1 vq1 vp2 vl2 vq2 v9 v10 vb : _) (w : World) (hB : Box w b #[.int .i64 v0, .int .i64 v1, .int .i64 v2, .int .i64 v3, .int .i64 v4, .int .i64 v5, .int .i64 v6, .int .i64 v7, .int .i64 v8, .slice vp0 vl0 vq0, .slice vp1 vl1 vq1, .slice vp2 vl2 vq2, .int .i64 v9, .int .i64 v10, .bool vb] 30) (hd : vb = false) (hs : v10 ≠ -1) (hw : v10 ≤ v9) :
    Calls Tryz.prog 101 #[.pointer (some ⟨b, 0, none⟩)] w fun e w' => e = .returned (.bool false) ∧ Box w' b #[.int .i64 v0, .int .i64 v1, .int .i64 v2, .int .i64 v3, .int .i64 v4, .int .i64 v5, .int .i64 v6, .int .i64 v7, .int .i64 v8, .slice vp0 vl0 vq0, .slice none 0 0, .slice vp2 vl2 vq2, .int .i64 v9, .int .i64 v10, .bool true] 30 ∧ ChgL [b] w w' := by
  subst hd
  have d1 : (v10 != -1) = true := by simpa using hs
  have d2 : decide (v10 ≤ v9) = true := by simpa using hw
  have x12 : w.cell? ⟨b, 12, none⟩ = some (.int .i64 v9) := hB.cell 12
  have x13 : w.cell? ⟨b, 13, none⟩ = some (.int .i64 v10) := hB.cell 13
  have x14 : w.cell? ⟨b, 14, none⟩ = some (.bool false) := hB.cell 14
  clear hs hw
  go_enter Tryz.func101, Tryz.ntmps101
  go_upto_region 3 with fail
  go_quiet (fail)
  go_upto_region 4 with fail
  obtain ⟨W, hW⟩ : ∃ x, x = w.drewN nq := ⟨_, rfl⟩
  rw [← hW]
  have X1 : Box W b #[.int .i64 v0, .int .i64 v1, .int .i64 v2, .int .i64 v3, .int .i64 v4, .int .i64 v5, .int .i64 v6, .int .i64 v7, .int .i64 v8, .slice vp0 vl0 vq0, .slice vp1 vl1 vq1, .slice vp2 vl2 vq2, .int .i64 v9, .int .i64 v10, .bool false] 30 := by rw [hW]; exact hB
  have C1 : ChgL [b] w W := by rw [hW]; exact ⟨rfl, rfl, rfl, Nat.le_refl _, fun _ _ _ => rfl⟩
  clear hW x12 x13 x14 hB
  have y0 : W.cell? ⟨b, 14, none⟩ = some (.bool false) := X1.cell 14
  have yf0 : W.frozen? ⟨b, 14, none⟩ = false := X1.frozen 14
  have X2 : Box (W.setCell ⟨b, 14, none⟩ (.bool true)) b #[.int .i64 v0, .int .i64 v1, .int .i64 v2, .int .i64 v3, .int .i64 v4, .int .i64 v5, .int .i64 v6, .int .i64 v7, .int .i64 v8, .slice vp0 vl0 vq0, .slice vp1 vl1 vq1, .slice vp2 vl2 vq2, .int .i64 v9, .int .i64 v10, .bool true] 30 := X1.setc 14 _
  have y1 : (W.setCell ⟨b, 14, none⟩ (.bool true)).cell? ⟨b, 10, none⟩ = some (.slice vp1 vl1 vq1) := X2.cell 10
  have yf1 : (W.setCell ⟨b, 14, none⟩ (.bool true)).frozen? ⟨b, 10, none⟩ = false := X2.frozen 10
  have X3 : Box ((W.setCell ⟨b, 14, none⟩ (.bool true)).setCell ⟨b, 10, none⟩ (.slice none 0 0)) b #[.int .i64 v0, .int .i64 v1, .int .i64 v2, .int .i64 v3, .int .i64 v4, .int .i64 v5, .int .i64 v6, .int .i64 v7, .int .i64 v8, .slice vp0 vl0 vq0, .slice none 0 0, .slice vp2 vl2 vq2, .int .i64 v9, .int .i64 v10, .bool true] 30 := X2.setc 10 _
  have C3 : ChgL [b] w ((W.setCell ⟨b, 14, none⟩ (.bool true)).setCell ⟨b, 10, none⟩ (.slice none 0 0)) := (C1.st _ 14 _ (by simp)).st _ 10 _ (by simp)
  clear X1 X2 C1
  go_wp2
  go_ret
  exact ⟨rfl, X3, C3⟩
set_option maxHeartbeats 8000000 in
set_option maxRecDepth 20000 in
theorem l5Raw_ok1 (b : Nat) (v0 v1 v2 v3 v4 v5 v6 v7 v8 vp0 vl0 vq0 vp1 vl1 vq1 vp2 vl2 vq2 v9 v10 vb : _) (w : World) (hB : Box w b #[.int .i64 v0, .int .i64 v1, .int .i64 v2, .int .i64 v3, .int .i64 v4, .int .i64 v5, .int .i64 v6, .int .i64 v7, .int .i64 v8, .slice vp0 vl0 vq0, .slice vp1 vl1 vq1, .slice vp2 vl2 vq2, .int .i64 v9, .int .i64 v10, .bool vb] 30) (hd : vb = false) (d1 : (v10 != -1) = false) (hwr : -9223372036854775808 ≤ v9 ∧ v9 + 1 ≤ 9223372036854775807) :
    Calls Tryz.prog 101 #[.pointer (some ⟨b, 0, none⟩)] w fun e w' => e = .returned (.bool true) ∧ Box w' b #[.int .i64 v0, .int .i64 v1, .int .i64 v2, .int .i64 v3, .int .i64 v4, .int .i64 v5, .int .i64 v6, .int .i64 v7, .int .i64 v8, .slice vp0 vl0 vq0, .slice vp1 vl1 vq1, .slice vp2 vl2 vq2, .int .i64 (v9 + 1), .int .i64 v10, .bool vb] 30 ∧ ChgL [b] w w' := by
  have HD : Hid (vb = false) := hd
  obtain ⟨vc, hvc⟩ : ∃ x : Bool, x = vb := ⟨_, rfl⟩
  have zz : IntKind.i64.wrap (v9 + 1) = v9 + 1 := by rw [IntKind.wrap_i64]; omega
  have x12 : w.cell? ⟨b, 12, none⟩ = some (.int .i64 v9) := hB.cell 12
  have x13 : w.cell? ⟨b, 13, none⟩ = some (.int .i64 v10) := hB.cell 13
  have x14 : w.cell? ⟨b, 14, none⟩ = some (.bool false) := by rw [← HD.out]; exact hB.cell 14
  clear hwr hd
  go_enter Tryz.func101, Tryz.ntmps101
  go_upto_region 3 with fail
  go_quiet (fail)
  go_upto_region 7 with fail
  obtain ⟨W, hW⟩ : ∃ x, x = w.drewN nq := ⟨_, rfl⟩
  rw [← hW]
  have X1 : Box W b #[.int .i64 v0, .int .i64 v1, .int .i64 v2, .int .i64 v3, .int .i64 v4, .int .i64 v5, .int .i64 v6, .int .i64 v7, .int .i64 v8, .slice vp0 vl0 vq0, .slice vp1 vl1 vq1, .slice vp2 vl2 vq2, .int .i64 v9, .int .i64 v10, .bool vb] 30 := by rw [hW]; exact hB
  have C1 : ChgL [b] w W := by rw [hW]; exact ⟨rfl, rfl, rfl, Nat.le_refl _, fun _ _ _ => rfl⟩
  clear hW x12 x13 x14 hB
  have y0 : W.cell? ⟨b, 12, none⟩ = some (.int .i64 v9) := X1.cell 12
  have yf0 : W.frozen? ⟨b, 12, none⟩ = false := X1.frozen 12
  have X2 : Box (W.setCell ⟨b, 12, none⟩ (.int .i64 (v9 + 1))) b #[.int .i64 v0, .int .i64 v1, .int .i64 v2, .int .i64 v3, .int .i64 v4, .int .i64 v5, .int .i64 v6, .int .i64 v7, .int .i64 v8, .slice vp0 vl0 vq0, .slice vp1 vl1 vq1, .slice vp2 vl2 vq2, .int .i64 (v9 + 1), .int .i64 v10, .bool vb] 30 := X1.setc 12 _
  have C2' : ChgL [b] w (W.setCell ⟨b, 12, none⟩ (.int .i64 (v9 + 1))) := C1.st _ 12 _ (by simp)
  clear X1 C1
  go_wp2
  go_ret
  exact ⟨rfl, X2, C2'⟩
set_option maxHeartbeats 8000000 in
set_option maxRecDepth 20000 in
theorem l5Raw_ok2 (b : Nat) (v0 v1 v2 v3 v4 v5 v6 v7 v8 vp0 vl0 vq0 vp1 vl1 vq1 vp2 vl2 vq2 v9 v10 vb : _) (w : World) (hB : Box w b #[.int .i64 v0, .int .i64 v1, .int .i64 v2, .int .i64 v3, .int .i64 v4, .int .i64 v5, .int .i64 v6, .int .i64 v7, .int .i64 v8, .slice vp0 vl0 vq0, .slice vp1 vl1 vq1, .slice vp2 vl2 vq2, .int .i64 v9, .int .i64 v10, .bool vb] 30) (hd : vb = false) (d1 : (v10 != -1) = true) (d2 : decide (v10 ≤ v9) = false) (hwr : -9223372036854775808 ≤ v9 ∧ v9 + 1 ≤ 9223372036854775807) :
    Calls Tryz.prog 101 #[.pointer (some ⟨b, 0, none⟩)] w fun e w' => e = .returned (.bool true) ∧ Box w' b #[.int .i64 v0, .int .i64 v1, .int .i64 v2, .int .i64 v3, .int .i64 v4, .int .i64 v5, .int .i64 v6, .int .i64 v7, .int .i64 v8, .slice vp0 vl0 vq0, .slice vp1 vl1 vq1, .slice vp2 vl2 vq2, .int .i64 (v9 + 1), .int .i64 v10, .bool vb] 30 ∧ ChgL [b] w w' := by
  have HD : Hid (vb = false) := hd
  obtain ⟨vc, hvc⟩ : ∃ x : Bool, x = vb := ⟨_, rfl⟩
  have zz : IntKind.i64.wrap (v9 + 1) = v9 + 1 := by rw [IntKind.wrap_i64]; omega
  have x12 : w.cell? ⟨b, 12, none⟩ = some (.int .i64 v9) := hB.cell 12
  have x13 : w.cell? ⟨b, 13, none⟩ = some (.int .i64 v10) := hB.cell 13
  have x14 : w.cell? ⟨b, 14, none⟩ = some (.bool false) := by rw [← HD.out]; exact hB.cell 14
  clear hwr hd
  go_enter Tryz.func101, Tryz.ntmps101
  go_upto_region 3 with fail
  go_quiet (fail)
  go_upto_region 7 with fail
  obtain ⟨W, hW⟩ : ∃ x, x = w.drewN nq := ⟨_, rfl⟩
  rw [← hW]
  have X1 : Box W b #[.int .i64 v0, .int .i64 v1, .int .i64 v2, .int .i64 v3, .int .i64 v4, .int .i64 v5, .int .i64 v6, .int .i64 v7, .int .i64 v8, .slice vp0 vl0 vq0, .slice vp1 vl1 vq1, .slice vp2 vl2 vq2, .int .i64 v9, .int .i64 v10, .bool vb] 30 := by rw [hW]; exact hB
  have C1 : ChgL [b] w W := by rw [hW]; exact ⟨rfl, rfl, rfl, Nat.le_refl _, fun _ _ _ => rfl⟩
  clear hW x12 x13 x14 hB
  have y0 : W.cell? ⟨b, 12, none⟩ = some (.int .i64 v9) := X1.cell 12
  have yf0 : W.frozen? ⟨b, 12, none⟩ = false := X1.frozen 12
  have X2 : Box (W.setCell ⟨b, 12, none⟩ (.int .i64 (v9 + 1))) b #[.int .i64 v0, .int .i64 v1, .int .i64 v2, .int .i64 v3, .int .i64 v4, .int .i64 v5, .int .i64 v6, .int .i64 v7, .int .i64 v8, .slice vp0 vl0 vq0, .slice vp1 vl1 vq1, .slice vp2 vl2 vq2, .int .i64 (v9 + 1), .int .i64 v10, .bool vb] 30 := X1.setc 12 _
  have C2' : ChgL [b] w (W.setCell ⟨b, 12, none⟩ (.int .i64 (v9 + 1))) := C1.st _ 12 _ (by simp)
  clear X1 C1
  go_wp2
  go_ret
  exact ⟨rfl, X2, C2'⟩
theorem l5Raw_ok (b : Nat) (v0 v1 v2 v3 v4 v5 v6 v7 v8 vp0 vl0 vq0 vp1 vl1 vq1 vp2 vl2 vq2 v9 v10 vb : _) (w : World) (hB : Box w b #[.int .i64 v0, .int .i64 v1, .int .i64 v2, .int .i64 v3, .int .i64 v4, .int .i64 v5, .int .i64 v6, .int .i64 v7, .int .i64 v8, .slice vp0 vl0 vq0, .slice vp1 vl1 vq1, .slice vp2 vl2 vq2, .int .i64 v9, .int .i64 v10, .bool vb] 30) (hd : vb = false) (hpw : ¬ (v10 ≠ -1 ∧ v10 ≤ v9)) (hwr : -9223372036854775808 ≤ v9 ∧ v9 + 1 ≤ 9223372036854775807) :
    Calls Tryz.prog 101 #[.pointer (some ⟨b, 0, none⟩)] w fun e w' => e = .returned (.bool true) ∧ Box w' b #[.int .i64 v0, .int .i64 v1, .int .i64 v2, .int .i64 v3, .int .i64 v4, .int .i64 v5, .int .i64 v6, .int .i64 v7, .int .i64 v8, .slice vp0 vl0 vq0, .slice vp1 vl1 vq1, .slice vp2 vl2 vq2, .int .i64 (v9 + 1), .int .i64 v10, .bool vb] 30 ∧ ChgL [b] w w' := by
  by_cases hs : v10 = -1
  · exact l5Raw_ok1 b v0 v1 v2 v3 v4 v5 v6 v7 v8 vp0 vl0 vq0 vp1 vl1 vq1 vp2 vl2 vq2 v9 v10 vb w hB hd (by simpa using hs) hwr
  · exact l5Raw_ok2 b v0 v1 v2 v3 v4 v5 v6 v7 v8 vp0 vl0 vq0 vp1 vl1 vq1 vp2 vl2 vq2 v9 v10 vb w hB hd (by simpa using hs) (by simp only [decide_eq_false_iff_not]; exact fun h => hpw ⟨hs, h⟩) hwr
end Go.Proofs.YtfafbojaeedhfaaGreat

namespace Go.Proofs.YtfafbojaeedhfaaGreat
open Go.RowKit F256
set_option linter.unusedVariables false
set_option linter.unusedSimpArgs false
def FailsP (d : WorldD) : Prop := d.stop ≠ -1 ∧ d.stop ≤ d.writes
def trustedW (d : WorldD) (G k : Nat) : WorldD := { trustW d G k with writes := d.writes + 1 }
def TrustAns (d : WorldD) (g k : Int) (r : WorldResultD) : Prop := (∃ x, x ≠ 0 ∧ AskAns d x ∧ r = ⟨x, zeroW⟩) ∨ (AskAns d 0 ∧ ((¬ DriveP d.shape g k ∧ r = ⟨3, zeroW⟩) ∨ (DriveP d.shape g k ∧ ((¬ HasP d.on.1 d.on.2 g ∧ r = ⟨8, zeroW⟩) ∨ (HasP d.on.1 d.on.2 g ∧ ((FailsP d ∧ r = ⟨9, cutW d⟩) ∨ (¬ FailsP d ∧ r = ⟨0, trustedW d g.toNat k.toNat⟩)))))))
theorem TrustAns.one {d : WorldD} {g k : Int} {r q : WorldResultD} (h : TrustAns d g k r) (l : TrustAns d g k q) : r = q := by
  rcases h with ⟨x, h1, h2, rfl⟩ | ⟨h1, h⟩ <;> rcases l with ⟨y, k1, k2, rfl⟩ | ⟨k1, l⟩
  · rw [h2.one k2]
  · exact absurd (h2.one k1) h1
  · exact absurd (k2.one h1) k1
  · rcases h with ⟨h2, rfl⟩ | ⟨h2, h⟩ <;> rcases l with ⟨k2, rfl⟩ | ⟨k2, l⟩
    · rfl
    · exact absurd k2 h2
    · exact absurd h2 k2
    · rcases h with ⟨h3, rfl⟩ | ⟨h3, h⟩ <;> rcases l with ⟨k3, rfl⟩ | ⟨k3, l⟩
      · rfl
      · exact absurd k3 h3
      · exact absurd h3 k3
      · rcases h with ⟨h4, rfl⟩ | ⟨h4, rfl⟩ <;> rcases l with ⟨k4, rfl⟩ | ⟨k4, rfl⟩
        · rfl
        · exact absurd h4 k4
        · exact absurd k4 h4
        · rfl
theorem ask_up {d : WorldD} (h : AskAns d 0) : d.down = false := by
  rcases h with ⟨h, _⟩ | ⟨_, ⟨_, h⟩ | ⟨h, _⟩⟩
  · exact absurd rfl h
  · cases h
  · exact h
theorem WOpen.writes {w : World} {lo hi : Nat} {d : WorldD} {v1 v2 v3 : Value} {K1 K2 K3 : List Nat} (h : WOpen w lo hi d v1 v2 v3 K1 K2 K3) (n : Int) (hn : -9223372036854775808 ≤ n ∧ n ≤ 9223372036854775807) : WOpen w lo hi { d with writes := n } v1 v2 v3 K1 K2 K3 := ⟨h.g, h.o, h.t, h.nd, h.inn, h.k0, hn, h.k5⟩
theorem count_in {d : WorldD} (h : OkWorld d) : -9223372036854775808 ≤ d.writes ∧ d.writes + 1 ≤ 9223372036854775807 := by
  have hc := h.count
  unfold CountP InP at hc
  omega
end Go.Proofs.YtfafbojaeedhfaaGreat

namespace Go.Proofs.YtfafbojaeedhfaaGreat
open Go.RowKit F256
set_option linter.unusedVariables false
set_option linter.unusedSimpArgs false
/-- a world's box, two numbers' boxes, the result's -/
structure Cap2 (w wc : World) (c1 : Array Value) (x y : Int) (c4 : Array Value) (t1 t4 : TypeId) : Prop where
  b1 : Box wc w.heap.size c1 t1
  b2 : Box wc (w.heap.size + 1) #[.int .i64 x] 2
  b3 : Box wc (w.heap.size + 1 + 1) #[.int .i64 y] 2
  b4 : Box wc (w.heap.size + 1 + 1 + 1) c4 t4
  bel : Below w.heap.size w wc
theorem Cap2.call {w wc w' : World} {c1 c4 : Array Value} {x y : Int} {t1 t4 : TypeId} (h : Cap2 w wc c1 x y c4 t1 t4) (hb : Below wc.heap.size wc w') : Cap2 w w' c1 x y c4 t1 t4 := ⟨h.b1.call hb, h.b2.call hb, h.b3.call hb, h.b4.call hb, h.bel.trans (hb.mono h.bel.size)⟩
theorem post_codeR {P : WorldResultD → Prop} {w wc w9 : World} {x : Int} {r : Nat} (hr : w.heap.size ≤ r) (hx : -9223372036854775808 ≤ x ∧ x ≤ 9223372036854775807) (hb : Below w.heap.size w wc) (hc : ChgL [r] wc w9) (hP : P ⟨x, zeroW⟩) : ResPost P w (.returned (.agg #[.int .i64 x, .int .i64 0, .int .i64 0, .int .i64 0, .int .i64 0, .int .i64 0, .int .i64 0, .int .i64 0, .int .i64 0, .int .i64 0, .slice none 0 0, .slice none 0 0, .slice none 0 0, .int .i64 0, .int .i64 0, .bool false])) w9 :=
  ⟨⟨x, zeroW⟩, [.int .i64 x, .int .i64 0, .int .i64 0, .int .i64 0, .int .i64 0, .int .i64 0, .int .i64 0, .int .i64 0, .int .i64 0, .int .i64 0, .slice none 0 0, .slice none 0 0, .slice none 0 0, .int .i64 0, .int .i64 0, .bool false], rfl, hP, own_resCode _ x hx _ _, hb.trans (hc.bel (fun b hb => by simp at hb; omega) hb.size)⟩
end Go.Proofs.YtfafbojaeedhfaaGreat

namespace Go.Proofs.YtfafbojaeedhfaaGreat
open Go.RowKit F256
set_option linter.unusedVariables false
set_option linter.unusedSimpArgs false
def writtenW (d : WorldD) (G k R : Nat) (b : BlockD) : WorldD := { writeW d G k R b with writes := d.writes + 1 }
def WrAns (d : WorldD) (g k r : Int) (b : BlockD) (q : WorldResultD) : Prop := (∃ x, x ≠ 0 ∧ AskAns d x ∧ q = ⟨x, zeroW⟩) ∨ (AskAns d 0 ∧ ((¬ PlaceP d.shape g k r ∧ q = ⟨3, zeroW⟩) ∨ (PlaceP d.shape g k r ∧ ((¬ BlockP b ∧ q = ⟨1, zeroW⟩) ∨ (BlockP b ∧ ((¬ HasP d.on.1 d.on.2 g ∧ q = ⟨8, zeroW⟩) ∨ (HasP d.on.1 d.on.2 g ∧ ((FailsP d ∧ q = ⟨9, cutW d⟩) ∨ (¬ FailsP d ∧ q = ⟨0, writtenW d g.toNat k.toNat r.toNat b⟩)))))))))
theorem WrAns.one {d : WorldD} {g k r : Int} {b : BlockD} {p q : WorldResultD} (h : WrAns d g k r b p) (l : WrAns d g k r b q) : p = q := by
  rcases h with ⟨x, h1, h2, rfl⟩ | ⟨h1, h⟩ <;> rcases l with ⟨y, k1, k2, rfl⟩ | ⟨k1, l⟩
  · rw [h2.one k2]
  · exact absurd (h2.one k1) h1
  · exact absurd (k2.one h1) k1
  · rcases h with ⟨h2, rfl⟩ | ⟨h2, h⟩ <;> rcases l with ⟨k2, rfl⟩ | ⟨k2, l⟩
    · rfl
    · exact absurd k2 h2
    · exact absurd h2 k2
    · rcases h with ⟨h3, rfl⟩ | ⟨h3, h⟩ <;> rcases l with ⟨k3, rfl⟩ | ⟨k3, l⟩
      · rfl
      · exact absurd k3 h3
      · exact absurd h3 k3
      · rcases h with ⟨h4, rfl⟩ | ⟨h4, h⟩ <;> rcases l with ⟨k4, rfl⟩ | ⟨k4, l⟩
        · rfl
        · exact absurd k4 h4
        · exact absurd h4 k4
        · rcases h with ⟨h5, rfl⟩ | ⟨h5, rfl⟩ <;> rcases l with ⟨k5, rfl⟩ | ⟨k5, rfl⟩
          · rfl
          · exact absurd h5 k5
          · exact absurd k5 h5
          · rfl
theorem place_at {d : WorldD} (h : OkWorld d) {g k r : Int} (hp : PlaceP d.shape g k r) : ∃ G K R : Nat, g = (G : Int) ∧ k = (K : Int) ∧ r = (R : Int) ∧ G < d.groups.1 ∧ K < (d.groups.2 G).1 ∧ R < ((d.groups.2 G).2 K).blocks.1 := by
  obtain ⟨hA, hB, hC⟩ := hp
  have hf := h.form.1
  unfold InP at hA hB hC
  obtain ⟨G, rfl⟩ : ∃ G : Nat, g = (G : Int) := ⟨g.toNat, by omega⟩
  obtain ⟨K, rfl⟩ : ∃ K : Nat, k = (K : Int) := ⟨k.toNat, by omega⟩
  obtain ⟨R, rfl⟩ : ∃ R : Nat, r = (R : Int) := ⟨r.toNat, by omega⟩
  have hG : G < d.groups.1 := by have := hf.1; omega
  have hK : K < (d.groups.2 G).1 := by have := (hf.2 G hG).1; omega
  have hD := (hf.2 G hG).2 K hK
  exact ⟨G, K, R, rfl, rfl, rfl, hG, hK, by have := hD.1; omega⟩
theorem post_worldR {P : WorldResultD → Prop} {w wc w9 : World} {c : Int} {d : WorldD} {cs : List Value} {lo hi r : Nat} (hr : w.heap.size ≤ r) (hx : -9223372036854775808 ≤ c ∧ c ≤ 9223372036854775807) (hb : Below w.heap.size w wc) (hc : ChgL [r] wc w9) (ho : OwnT layWorld wc lo hi d cs) (hlo : r < lo) (hhi : hi ≤ wc.heap.size) (hP : P ⟨c, d⟩) : ResPost P w (.returned (.agg (.int .i64 c :: cs).toArray)) w9 :=
  ⟨⟨c, d⟩, .int .i64 c :: cs, rfl, hP, (own_resOf c hx (ho.chgk hc (fun b hb => by simp at hb; omega))).weaken (by omega) (Nat.le_trans hhi hc.size), hb.trans (hc.bel (fun b hb => by simp at hb; omega) hb.size)⟩
theorem Three.chgK {w wc w' : World} {c1 c2 c3 : Array Value} {t1 t2 t3 : TypeId} {K : List Nat} (h : Three w wc c1 c2 c3 t1 t2 t3) (hc : ChgL K wc w') (hK : ∀ b, b ∈ K → w.heap.size + 1 + 1 < b) : Three w w' c1 c2 c3 t1 t2 t3 :=
  ⟨h.b1.chgl hc (fun hb => by have := hK _ hb; omega), h.b2.chgl hc (fun hb => by have := hK _ hb; omega), h.b3.chgl hc (fun hb => by have := hK _ hb; omega), h.bel.trans (hc.bel (fun b hb => by have := hK b hb; omega) h.bel.size)⟩
end Go.Proofs.YtfafbojaeedhfaaGreat

namespace Go.Proofs.YtfafbojaeedhfaaGreat
open Go.RowKit F256
set_option linter.unusedVariables false
set_option linter.unusedSimpArgs false
set_option maxHeartbeats 32000000 in
set_option maxRecDepth 20000 in
theorem specWrite_any (d : WorldD) (g k r : Int) (b : BlockD) (cs csb : List Value) (hi : Nat) (w : World) (h : layWorld.rd w hi d cs) (hr_ : layBlock.rd w hi b csb) (hhi : hi ≤ w.heap.size) (hsz : szWorldD d ≤ 1048576) (hsb : szBlockD b ≤ 1048576) (hg : -9223372036854775808 ≤ g ∧ g ≤ 9223372036854775807) (hk : -9223372036854775808 ≤ k ∧ k ≤ 9223372036854775807) (hr : -9223372036854775808 ≤ r ∧ r ≤ 9223372036854775807) :
    Calls Tryz.prog 27 #[.agg cs.toArray, .int .i64 g, .int .i64 k, .int .i64 r, .agg csb.toArray] w (ResPost (WrAns d g k r b) w) := by
  have h' := h
  obtain ⟨ao1, cap1, ao2, cap2, ao3, cap3, rfl, g1, g2, g3, k0, k4, k5⟩ := World_rd h'
  obtain ⟨o1, k1, rfl, -, -⟩ := Block_rd hr_
  have HRD : Hid (layWorld.rd w hi d [.int .i64 (d.shape 0), .int .i64 (d.shape 1), .int .i64 (d.shape 2), .int .i64 (d.shape 3), .int .i64 (d.shape 4), .int .i64 (d.shape 5), .int .i64 (d.shape 6), .int .i64 (d.shape 7), .int .i64 (d.shape 8), .slice ao1 d.groups.1 cap1, .slice ao2 d.on.1 cap2, .slice ao3 d.tapes.1 cap3, .int .i64 d.writes, .int .i64 d.stop, .bool d.down]) := h
  have HRB : Hid (layBlock.rd w hi b [.int .i64 b.stamp, .slice o1 b.bytes.1 k1]) := hr_
  have HSZ : Hid (szWorldD d ≤ 1048576) := hsz
  have HSB : Hid (szBlockD b ≤ 1048576) := hsb
  have HG2 : Hid (RdI w hi (.slice ao2 d.on.1 cap2) d.on.1 d.on.2) := by
    obtain ⟨_, e2, ⟨h2, _⟩, _⟩ := g2
    cases e2
    exact h2
  have hmf : ∀ (fn : Fn) (first cap : Array Value) (w : World), (Instr.makeFunc fn first cap).run Tryz.prog w = .ok (.func fn first cap) w := fun _ _ _ _ => rfl
  clear h h' hr_ hsz hsb g1 g2 g3 k0 k4 k5 hg hk hr
  have T0 := three_newb w #[.int .i64 (d.shape 0), .int .i64 (d.shape 1), .int .i64 (d.shape 2), .int .i64 (d.shape 3), .int .i64 (d.shape 4), .int .i64 (d.shape 5), .int .i64 (d.shape 6), .int .i64 (d.shape 7), .int .i64 (d.shape 8), .slice ao1 d.groups.1 cap1, .slice ao2 d.on.1 cap2, .slice ao3 d.tapes.1 cap3, .int .i64 d.writes, .int .i64 d.stop, .bool d.down] #[.int .i64 b.stamp, .slice o1 b.bytes.1 k1] #[.int .i64 0, .int .i64 0, .int .i64 0, .int .i64 0, .int .i64 0, .int .i64 0, .int .i64 0, .int .i64 0, .int .i64 0, .int .i64 0, .slice none 0 0, .slice none 0 0, .slice none 0 0, .int .i64 0, .int .i64 0, .bool false] 30 39 34
  go_enter Tryz.func27, Tryz.ntmps27
  go_wp2_with (refine wp_loadBox 30 (.tmp 5) rfl rfl (w.heap.size) rfl (cs := [.int .i64 (d.shape 0), .int .i64 (d.shape 1), .int .i64 (d.shape 2), .int .i64 (d.shape 3), .int .i64 (d.shape 4), .int .i64 (d.shape 5), .int .i64 (d.shape 6), .int .i64 (d.shape 7), .int .i64 (d.shape 8), .slice ao1 d.groups.1 cap1, .slice ao2 d.on.1 cap2, .slice ao3 d.tapes.1 cap3, .int .i64 d.writes, .int .i64 d.stop, .bool d.down]) (T0.b1) Tryz.underlying30 size_W rfl ?_)
  refine (l5Asked_any d _ hi _ (layWorld.rd_below HRD.out T0.bel hhi) (Nat.le_trans hhi T0.bel.size) HSZ.out).mono ?_
  rintro e w1 ⟨x, rfl, hx, b1⟩
  have HT1 : Hid (Three w w1 #[.int .i64 (d.shape 0), .int .i64 (d.shape 1), .int .i64 (d.shape 2), .int .i64 (d.shape 3), .int .i64 (d.shape 4), .int .i64 (d.shape 5), .int .i64 (d.shape 6), .int .i64 (d.shape 7), .int .i64 (d.shape 8), .slice ao1 d.groups.1 cap1, .slice ao2 d.on.1 cap2, .slice ao3 d.tapes.1 cap3, .int .i64 d.writes, .int .i64 d.stop, .bool d.down] #[.int .i64 b.stamp, .slice o1 b.bytes.1 k1] #[.int .i64 0, .int .i64 0, .int .i64 0, .int .i64 0, .int .i64 0, .int .i64 0, .int .i64 0, .int .i64 0, .int .i64 0, .int .i64 0, .slice none 0 0, .slice none 0 0, .slice none 0 0, .int .i64 0, .int .i64 0, .bool false] 30 39 34) := T0.call b1
  have HX : Hid (AskAns d x) := hx
  have z1 : w.heap.size + 1 + 1 < w1.heap.size := HT1.out.b3.lt
  clear b1 T0 hx
  by_cases hx0 : x = 0
  case neg =>
    have hne : (x != 0) = true := by simp [hx0]
    go_wp2_with (refine wp_storeBox 34 _ _ rfl rfl (w.heap.size + 1 + 1) rfl (cs := [.int .i64 x, .int .i64 0, .int .i64 0, .int .i64 0, .int .i64 0, .int .i64 0, .int .i64 0, .int .i64 0, .int .i64 0, .int .i64 0, .slice none 0 0, .slice none 0 0, .slice none 0 0, .int .i64 0, .int .i64 0, .bool false]) (old := [.int .i64 0, .int .i64 0, .int .i64 0, .int .i64 0, .int .i64 0, .int .i64 0, .int .i64 0, .int .i64 0, .int .i64 0, .int .i64 0, .slice none 0 0, .slice none 0 0, .slice none 0 0, .int .i64 0, .int .i64 0, .bool false]) rfl (HT1.out.b3) size_WR rfl rfl (code_one _ (ask_small HX.out) w) ?_; intro w9 X9 C9 z9)
    refine ret_box Tryz.results27 rfl X9 Tryz.underlying34 size_WR rfl rfl ?_
    exact post_codeR (by omega) (ask_small HX.out) HT1.out.bel C9 (.inl ⟨x, hx0, HX.out, rfl⟩)
  subst hx0
  have HOK : Hid (OkWorld d) := ask_ok HX.out
  have x_0 : w1.cell? ⟨w.heap.size, 0, none⟩ = some (.int .i64 (d.shape 0)) := HT1.out.b1.cell 0
  have x_1 : w1.cell? ⟨w.heap.size, 1, none⟩ = some (.int .i64 (d.shape 1)) := HT1.out.b1.cell 1
  have x_2 : w1.cell? ⟨w.heap.size, 2, none⟩ = some (.int .i64 (d.shape 2)) := HT1.out.b1.cell 2
  have x_3 : w1.cell? ⟨w.heap.size, 3, none⟩ = some (.int .i64 (d.shape 3)) := HT1.out.b1.cell 3
  have x_4 : w1.cell? ⟨w.heap.size, 4, none⟩ = some (.int .i64 (d.shape 4)) := HT1.out.b1.cell 4
  have x_5 : w1.cell? ⟨w.heap.size, 5, none⟩ = some (.int .i64 (d.shape 5)) := HT1.out.b1.cell 5
  have x_6 : w1.cell? ⟨w.heap.size, 6, none⟩ = some (.int .i64 (d.shape 6)) := HT1.out.b1.cell 6
  have x_7 : w1.cell? ⟨w.heap.size, 7, none⟩ = some (.int .i64 (d.shape 7)) := HT1.out.b1.cell 7
  have x_8 : w1.cell? ⟨w.heap.size, 8, none⟩ = some (.int .i64 (d.shape 8)) := HT1.out.b1.cell 8
  have CP := fun w' => l5Place_any d.shape HOK.out.shape g k r w'
  unfold shapeV at CP
  go_wp2_with fail
  refine (CP _).mono ?_
  rintro e wB ⟨t, rfl, ht, bB⟩
  have HTB : Hid (Three w wB #[.int .i64 (d.shape 0), .int .i64 (d.shape 1), .int .i64 (d.shape 2), .int .i64 (d.shape 3), .int .i64 (d.shape 4), .int .i64 (d.shape 5), .int .i64 (d.shape 6), .int .i64 (d.shape 7), .int .i64 (d.shape 8), .slice ao1 d.groups.1 cap1, .slice ao2 d.on.1 cap2, .slice ao3 d.tapes.1 cap3, .int .i64 d.writes, .int .i64 d.stop, .bool d.down] #[.int .i64 b.stamp, .slice o1 b.bytes.1 k1] #[.int .i64 0, .int .i64 0, .int .i64 0, .int .i64 0, .int .i64 0, .int .i64 0, .int .i64 0, .int .i64 0, .int .i64 0, .int .i64 0, .slice none 0 0, .slice none 0 0, .slice none 0 0, .int .i64 0, .int .i64 0, .bool false] 30 39 34) := HT1.out.call bB
  have zB : w1.heap.size ≤ wB.heap.size := bB.size
  have Hp : Hid (t = true ↔ PlaceP d.shape g k r) := ht
  clear bB CP ht HT1 x_0 x_1 x_2 x_3 x_4 x_5 x_6 x_7 x_8
  cases t with
  | false =>
    go_wp2_with (refine wp_storeBox 34 _ _ rfl rfl (w.heap.size + 1 + 1) rfl (cs := [.int .i64 3, .int .i64 0, .int .i64 0, .int .i64 0, .int .i64 0, .int .i64 0, .int .i64 0, .int .i64 0, .int .i64 0, .int .i64 0, .slice none 0 0, .slice none 0 0, .slice none 0 0, .int .i64 0, .int .i64 0, .bool false]) (old := [.int .i64 0, .int .i64 0, .int .i64 0, .int .i64 0, .int .i64 0, .int .i64 0, .int .i64 0, .int .i64 0, .int .i64 0, .int .i64 0, .slice none 0 0, .slice none 0 0, .slice none 0 0, .int .i64 0, .int .i64 0, .bool false]) rfl (HTB.out.b3) size_WR rfl rfl (code_one _ (by decide) w) ?_; intro w9 X9 C9 z9)
    refine ret_box Tryz.results27 rfl X9 Tryz.underlying34 size_WR rfl rfl ?_
    exact post_codeR (by omega) (by decide) HTB.out.bel C9 (.inr ⟨HX.out, .inl ⟨(fun h => by have := Hp.out.2 h; cases this), rfl⟩⟩)
  | true =>
  have HP : Hid (PlaceP d.shape g k r) := Hp.out.1 (by simp)
  have y0 : wB.cell? ⟨w.heap.size + 1, 0, none⟩ = some (.int .i64 b.stamp) := HTB.out.b2.cell 0
  have y1 : wB.cell? ⟨w.heap.size + 1, 1, none⟩ = some (.slice o1 b.bytes.1 k1) := HTB.out.b2.cell 1
  obtain ⟨t3, h3⟩ := exB (InP b.stamp 0 1000000000)
  have H3 : Hid (t3 = true ↔ InP b.stamp 0 1000000000) := h3
  have CI := fun w' => l1In_b h3 w'
  clear h3
  go_wp2_with fail
  refine (CI _).mono ?_
  rintro e w1' ⟨rfl, e1⟩
  obtain rfl := e1.symm
  clear CI
  cases t3 with
  | false =>
    clear y0 y1
    go_wp2_with (refine wp_storeBox 34 _ _ rfl rfl (w.heap.size + 1 + 1) rfl (cs := [.int .i64 1, .int .i64 0, .int .i64 0, .int .i64 0, .int .i64 0, .int .i64 0, .int .i64 0, .int .i64 0, .int .i64 0, .int .i64 0, .slice none 0 0, .slice none 0 0, .slice none 0 0, .int .i64 0, .int .i64 0, .bool false]) (old := [.int .i64 0, .int .i64 0, .int .i64 0, .int .i64 0, .int .i64 0, .int .i64 0, .int .i64 0, .int .i64 0, .int .i64 0, .int .i64 0, .slice none 0 0, .slice none 0 0, .slice none 0 0, .int .i64 0, .int .i64 0, .bool false]) rfl (HTB.out.b3) size_WR rfl rfl (code_one _ (by decide) w) ?_; intro w9 X9 C9 z9)
    refine ret_box Tryz.results27 rfl X9 Tryz.underlying34 size_WR rfl rfl ?_
    exact post_codeR (by omega) (by decide) HTB.out.bel C9 (.inr ⟨HX.out, .inr ⟨HP.out, .inl ⟨(fun h => by have := H3.out.2 h.1; cases this), rfl⟩⟩⟩)
  | true =>
  by_cases hlen : (b.bytes.1 : Int) = 4
  case neg =>
    have hne : ((b.bytes.1 : Int) != 4) = true := by simp only [bne_iff_ne, ne_eq]; exact hlen
    have HL : Hid (¬ (b.bytes.1 : Int) = 4) := hlen
    go_wp2_with (refine wp_storeBox 34 _ _ rfl rfl (w.heap.size + 1 + 1) rfl (cs := [.int .i64 1, .int .i64 0, .int .i64 0, .int .i64 0, .int .i64 0, .int .i64 0, .int .i64 0, .int .i64 0, .int .i64 0, .int .i64 0, .slice none 0 0, .slice none 0 0, .slice none 0 0, .int .i64 0, .int .i64 0, .bool false]) (old := [.int .i64 0, .int .i64 0, .int .i64 0, .int .i64 0, .int .i64 0, .int .i64 0, .int .i64 0, .int .i64 0, .int .i64 0, .int .i64 0, .slice none 0 0, .slice none 0 0, .slice none 0 0, .int .i64 0, .int .i64 0, .bool false]) rfl (HTB.out.b3) size_WR rfl rfl (code_one _ (by decide) w) ?_; intro w9 X9 C9 z9)
    refine ret_box Tryz.results27 rfl X9 Tryz.underlying34 size_WR rfl rfl ?_
    exact post_codeR (by omega) (by decide) HTB.out.bel C9 (.inr ⟨HX.out, .inr ⟨HP.out, .inl ⟨(fun h => HL.out (by rw [h.2]; rfl)), rfl⟩⟩⟩)
  have hne : ((b.bytes.1 : Int) != 4) = false := by rw [hlen]; rfl
  have HB : Hid (BlockP b) := ⟨H3.out.1 (by simp), by omega⟩
  clear hlen
  have x10 : wB.cell? ⟨w.heap.size, 10, none⟩ = some (.slice ao2 d.on.1 cap2) := HTB.out.b1.cell 10
  have CH := l1Has_any _ _ _ hi g wB (HG2.out.below HTB.out.bel hhi)
  go_wp2_with fail
  refine CH.mono ?_
  rintro e wA ⟨t, rfl, ht, bA⟩
  have HTA : Hid (Three w wA #[.int .i64 (d.shape 0), .int .i64 (d.shape 1), .int .i64 (d.shape 2), .int .i64 (d.shape 3), .int .i64 (d.shape 4), .int .i64 (d.shape 5), .int .i64 (d.shape 6), .int .i64 (d.shape 7), .int .i64 (d.shape 8), .slice ao1 d.groups.1 cap1, .slice ao2 d.on.1 cap2, .slice ao3 d.tapes.1 cap3, .int .i64 d.writes, .int .i64 d.stop, .bool d.down] #[.int .i64 b.stamp, .slice o1 b.bytes.1 k1] #[.int .i64 0, .int .i64 0, .int .i64 0, .int .i64 0, .int .i64 0, .int .i64 0, .int .i64 0, .int .i64 0, .int .i64 0, .int .i64 0, .slice none 0 0, .slice none 0 0, .slice none 0 0, .int .i64 0, .int .i64 0, .bool false] 30 39 34) := HTB.out.call bA
  have zA : wB.heap.size ≤ wA.heap.size := bA.size
  have HH : Hid (t = true ↔ HasP d.on.1 d.on.2 g) := ht
  clear CH bA x10 ht y0 y1 hne HTB
  cases t with
  | false =>
    go_wp2_with (refine wp_storeBox 34 _ _ rfl rfl (w.heap.size + 1 + 1) rfl (cs := [.int .i64 8, .int .i64 0, .int .i64 0, .int .i64 0, .int .i64 0, .int .i64 0, .int .i64 0, .int .i64 0, .int .i64 0, .int .i64 0, .slice none 0 0, .slice none 0 0, .slice none 0 0, .int .i64 0, .int .i64 0, .bool false]) (old := [.int .i64 0, .int .i64 0, .int .i64 0, .int .i64 0, .int .i64 0, .int .i64 0, .int .i64 0, .int .i64 0, .int .i64 0, .int .i64 0, .slice none 0 0, .slice none 0 0, .slice none 0 0, .int .i64 0, .int .i64 0, .bool false]) rfl (HTA.out.b3) size_WR rfl rfl (code_one _ (by decide) w) ?_; intro w9 X9 C9 z9)
    refine ret_box Tryz.results27 rfl X9 Tryz.underlying34 size_WR rfl rfl ?_
    exact post_codeR (by omega) (by decide) HTA.out.bel C9 (.inr ⟨HX.out, .inr ⟨HP.out, .inr ⟨HB.out, .inl ⟨(fun h => by have := HH.out.2 h; cases this), rfl⟩⟩⟩⟩)
  | true =>
  have HON : Hid (HasP d.on.1 d.on.2 g) := HH.out.1 (by simp)
  go_wp2_with (refine wp_loadBox 30 (.tmp 5) rfl rfl (w.heap.size) rfl (cs := [.int .i64 (d.shape 0), .int .i64 (d.shape 1), .int .i64 (d.shape 2), .int .i64 (d.shape 3), .int .i64 (d.shape 4), .int .i64 (d.shape 5), .int .i64 (d.shape 6), .int .i64 (d.shape 7), .int .i64 (d.shape 8), .slice ao1 d.groups.1 cap1, .slice ao2 d.on.1 cap2, .slice ao3 d.tapes.1 cap3, .int .i64 d.writes, .int .i64 d.stop, .bool d.down]) (HTA.out.b1) Tryz.underlying30 size_W rfl ?_)
  refine (l5Copy_is _ d hi _ (layWorld.rd_below HRD.out HTA.out.bel hhi) (Nat.le_trans hhi HTA.out.bel.size) HSZ.out).mono ?_
  rintro e w2 ⟨c2, rfl, o2, b2⟩
  obtain ⟨p1, c1, p2, c2, p3, c3, K1, K2, K3, rfl, WO2⟩ := world_open o2
  have z2 : wA.heap.size ≤ w2.heap.size := b2.size
  go_upto_region 11 with (refine wp_allocStore 30 12 (.tmp 45) [.int .i64 (d.shape 0), .int .i64 (d.shape 1), .int .i64 (d.shape 2), .int .i64 (d.shape 3), .int .i64 (d.shape 4), .int .i64 (d.shape 5), .int .i64 (d.shape 6), .int .i64 (d.shape 7), .int .i64 (d.shape 8), .slice p1 d.groups.1 c1, .slice p2 d.on.1 c2, .slice p3 d.tapes.1 c3, .int .i64 d.writes, .int .i64 d.stop, .bool d.down] _ 15 rfl rfl rfl rfl rfl rfl rfl rfl info_W rfl rfl o2.one ?_)
  have bA : Below w2.heap.size w2 (w2.alloc (.cells #[.int .i64 (d.shape 0), .int .i64 (d.shape 1), .int .i64 (d.shape 2), .int .i64 (d.shape 3), .int .i64 (d.shape 4), .int .i64 (d.shape 5), .int .i64 (d.shape 6), .int .i64 (d.shape 7), .int .i64 (d.shape 8), .slice p1 d.groups.1 c1, .slice p2 d.on.1 c2, .slice p3 d.tapes.1 c3, .int .i64 d.writes, .int .i64 d.stop, .bool d.down] 30)) := (Below.refl _ _).alloc (Nat.le_refl _) _
  have X3 : Box (w2.alloc (.cells #[.int .i64 (d.shape 0), .int .i64 (d.shape 1), .int .i64 (d.shape 2), .int .i64 (d.shape 3), .int .i64 (d.shape 4), .int .i64 (d.shape 5), .int .i64 (d.shape 6), .int .i64 (d.shape 7), .int .i64 (d.shape 8), .slice p1 d.groups.1 c1, .slice p2 d.on.1 c2, .slice p3 d.tapes.1 c3, .int .i64 d.writes, .int .i64 d.stop, .bool d.down] 30)) w2.heap.size #[.int .i64 (d.shape 0), .int .i64 (d.shape 1), .int .i64 (d.shape 2), .int .i64 (d.shape 3), .int .i64 (d.shape 4), .int .i64 (d.shape 5), .int .i64 (d.shape 6), .int .i64 (d.shape 7), .int .i64 (d.shape 8), .slice p1 d.groups.1 c1, .slice p2 d.on.1 c2, .slice p3 d.tapes.1 c3, .int .i64 d.writes, .int .i64 d.stop, .bool d.down] 30 := box_new _ _ _
  obtain ⟨W3, hW3⟩ : ∃ x, x = w2.alloc (.cells #[.int .i64 (d.shape 0), .int .i64 (d.shape 1), .int .i64 (d.shape 2), .int .i64 (d.shape 3), .int .i64 (d.shape 4), .int .i64 (d.shape 5), .int .i64 (d.shape 6), .int .i64 (d.shape 7), .int .i64 (d.shape 8), .slice p1 d.groups.1 c1, .slice p2 d.on.1 c2, .slice p3 d.tapes.1 c3, .int .i64 d.writes, .int .i64 d.stop, .bool d.down] 30) := ⟨_, rfl⟩
  rw [← hW3] at bA X3 ⊢
  have T3 := (HTA.out.call b2).call bA
  have WO := WO2.below bA (Nat.le_refl _)
  have z3 : w2.heap.size < W3.heap.size := X3.lt
  clear bA hW3 o2 b2 WO2
  have hup := ask_up HX.out
  by_cases hf : FailsP d
  · have HF : Hid (FailsP d) := hf
    have CR := l5Raw_fail w2.heap.size _ _ _ _ _ _ _ _ _ _ _ _ _ _ _ _ _ _ _ _ _ W3 X3 hup hf.1 hf.2
    have O3 := own_cut WO.own
    clear hf hup
    go_wp2_with fail
    refine CR.mono ?_
    rintro e w5 ⟨rfl, X5, C5⟩
    have T5 := T3.chgK C5 (fun b hb => by simp at hb; omega)
    have O5 := O3.chgk C5 (fun b hb => by simp at hb; omega)
    have z5 := C5.size
    clear X3 T3 WO O3 C5 CR
    go_wp2_with (first | (refine wp_loadBox 30 (.tmp 12) rfl rfl (w2.heap.size) rfl (cs := [.int .i64 (d.shape 0), .int .i64 (d.shape 1), .int .i64 (d.shape 2), .int .i64 (d.shape 3), .int .i64 (d.shape 4), .int .i64 (d.shape 5), .int .i64 (d.shape 6), .int .i64 (d.shape 7), .int .i64 (d.shape 8), .slice p1 d.groups.1 c1, .slice none 0 0, .slice p3 d.tapes.1 c3, .int .i64 d.writes, .int .i64 d.stop, .bool true]) (X5) Tryz.underlying30 size_W rfl ?_) | (refine wp_storeBox 34 _ _ rfl rfl (w.heap.size + 1 + 1) rfl (cs := [.int .i64 9, .int .i64 (d.shape 0), .int .i64 (d.shape 1), .int .i64 (d.shape 2), .int .i64 (d.shape 3), .int .i64 (d.shape 4), .int .i64 (d.shape 5), .int .i64 (d.shape 6), .int .i64 (d.shape 7), .int .i64 (d.shape 8), .slice p1 d.groups.1 c1, .slice none 0 0, .slice p3 d.tapes.1 c3, .int .i64 d.writes, .int .i64 d.stop, .bool true]) (old := [.int .i64 0, .int .i64 0, .int .i64 0, .int .i64 0, .int .i64 0, .int .i64 0, .int .i64 0, .int .i64 0, .int .i64 0, .int .i64 0, .slice none 0 0, .slice none 0 0, .slice none 0 0, .int .i64 0, .int .i64 0, .bool false]) rfl (T5.b3) size_WR rfl rfl ((own_resOf 9 (by decide) O5).one) ?_; intro w9 X9 C9 z9))
    refine ret_box Tryz.results27 rfl X9 Tryz.underlying34 size_WR rfl rfl ?_
    exact post_worldR (by omega) (by decide) T5.bel C9 O5 (by omega) (by omega) (.inr ⟨HX.out, .inr ⟨HP.out, .inr ⟨HB.out, .inr ⟨HON.out, .inl ⟨HF.out, rfl⟩⟩⟩⟩⟩)
  have HF : Hid (¬ FailsP d) := hf
  have CR := l5Raw_ok w2.heap.size _ _ _ _ _ _ _ _ _ _ _ _ _ _ _ _ _ _ _ _ _ W3 X3 hup hf (count_in HOK.out)
  clear hf hup
  go_upto_region 12 with fail
  all_goals skip
  refine CR.mono ?_
  rintro e w5 ⟨rfl, X5, C5⟩
  have T5 := T3.chgK C5 (fun b hb => by simp at hb; omega)
  have WO5 := WO.chgn C5 (fun b hb hm => by simp at hb; have := WO.inn b hm; omega)
  have z5 := C5.size
  clear X3 T3 WO C5 CR
  obtain ⟨G, K, R, rfl, rfl, rfl, hG, hK, hR⟩ := place_at HOK.out HP.out
  go_upto_region 13 with fail
  have WO0 : WOpen w5.drew wA.heap.size w2.heap.size d _ _ _ K1 K2 K3 := WO5.chgn (K := []) ((ChgL.refl _ _).drew) (fun b hb => by cases hb)
  have zd : w5.drew.heap.size = w5.heap.size := rfl
  obtain ⟨g1, cc1, gg, cap, ce, Ls, e1, c0, S2, nd2, in2, in1, ng1, back⟩ := WO0.drives2 (by omega) (by omega) hG (by omega)
  simp only [Value.slice.injEq, true_and] at e1
  obtain ⟨rfl, rfl⟩ := e1
  obtain ⟨ao9, cap9, K9, e9, eK9, o9⟩ := Drive_own (S2.each K hK)
  have nd9 : K9.Nodup := by rw [← eK9]; exact catN_each (List.nodup_cons.1 nd2).2 hK
  obtain ⟨gb, cp9, cb, Lb, eb, eLb, SB⟩ := slice_form o9 (by omega)
  simp only [List.cons.injEq, Value.slice.injEq, and_true, true_and] at eb
  obtain ⟨rfl, rfl⟩ := eb
  subst eLb
  have in3 : ∀ b, b ∈ K1 → wA.heap.size ≤ b ∧ b < w2.heap.size := fun b hb => WO0.inn b (List.mem_append_left _ hb)
  have x9 : w5.cell? ⟨w2.heap.size, 9, none⟩ = some (.slice (some ⟨g1, 0, none⟩) d.groups.1 c1) := X5.cell 9
  have yk : w5.drew.cell? ⟨gg, K * 2 + 1, none⟩ = some (.slice (some ⟨gb, 0, none⟩) ((d.groups.2 G).2 K).blocks.1 cap9) := (S2.cell hK (j := 1) (by decide)).trans (by rw [e9]; rfl)
  obtain ⟨a0, ca0, -, eR, -⟩ := Block_own (SB.each R hR)
  obtain ⟨u0, hu0⟩ : ∃ u, u = Value.int .i64 (((d.groups.2 G).2 K).blocks.2 R).stamp := ⟨_, rfl⟩
  obtain ⟨u1, hu1⟩ : ∃ u, u = Value.slice a0 (((d.groups.2 G).2 K).blocks.2 R).bytes.1 ca0 := ⟨_, rfl⟩
  have y0 : w5.drew.cell? ⟨gb, R * 2, none⟩ = some u0 := (SB.cell hR (j := 0) (by decide)).trans (by rw [eR, hu0]; rfl)
  have y1 : w5.drew.cell? ⟨gb, R * 2 + 1, none⟩ = some u1 := (SB.cell hR (j := 1) (by decide)).trans (by rw [eR, hu1]; rfl)
  clear hu0 hu1 eR
  have hbl : w2.heap.size < w5.drew.heap.size := X5.lt
  have hql : w.heap.size + 1 < w5.drew.heap.size := T5.b2.lt
  have hg1l : g1 < w5.drew.heap.size := by have := in3 g1 in1; omega
  have hggl : gg < w5.drew.heap.size := S2.lt
  have T5b := T5.b2
  have KS : ∀ w', Below w5.drew.heap.size w5.drew w' → (w'.cell? ⟨w2.heap.size, 9, none⟩ = some (.slice (some ⟨g1, 0, none⟩) d.groups.1 c1) ∧ w'.cell? ⟨g1, G, none⟩ = some (.slice (some ⟨gg, 0, none⟩) (d.groups.2 G).1 cap) ∧ w'.cell? ⟨gg, K * 2 + 1, none⟩ = some (.slice (some ⟨gb, 0, none⟩) ((d.groups.2 G).2 K).blocks.1 cap9) ∧ w'.cell? ⟨w.heap.size + 1, 0, none⟩ = some (.int .i64 b.stamp) ∧ w'.cell? ⟨w.heap.size + 1, 1, none⟩ = some (.slice o1 b.bytes.1 k1)) := fun w' hb => ⟨(hb.cell (p := ⟨w2.heap.size, 9, none⟩) hbl).trans x9, (hb.cell (p := ⟨g1, G, none⟩) hg1l).trans c0, (hb.cell (p := ⟨gg, K * 2 + 1, none⟩) hggl).trans yk, (hb.cell (p := ⟨w.heap.size + 1, 0, none⟩) hql).trans (T5b.cell 0), (hb.cell (p := ⟨w.heap.size + 1, 1, none⟩) hql).trans (T5b.cell 1)⟩
  have CC := (l5CopyBlock_is [.int .i64 b.stamp, .slice o1 b.bytes.1 k1] b hi w5.drew (layBlock.rd_below (B := w5.heap.size) (layBlock.rd_below HRB.out T5.bel hhi) ⟨rfl, rfl, rfl, Nat.le_refl _, fun _ _ => rfl⟩ (Nat.le_trans hhi T5.bel.size)) (Nat.le_trans hhi T5.bel.size) HSB.out).mono (R' := fun e w' => ∃ s1 m1, e = .returned (.agg #[.int .i64 b.stamp, .slice s1 b.bytes.1 m1]) ∧ OwnT layBlock w' w5.drew.heap.size w'.heap.size b [.int .i64 b.stamp, .slice s1 b.bytes.1 m1] ∧ Below w5.drew.heap.size w5.drew w') (fun e w' ⟨cs', he, o5, b5⟩ => by
    obtain ⟨s1, m1, rfl⟩ := Block_cellsT o5
    exact ⟨s1, m1, he, o5, b5⟩)
  have i1 : (0 : Int) ≤ (G : Int) := by omega
  have i2 : (G : Int) < (d.groups.1 : Int) := by omega
  have i3 : (0 : Int) ≤ (K : Int) := by omega
  have i4 : (K : Int) < ((d.groups.2 G).1 : Int) := by omega
  have i5 : (0 : Int) ≤ (R : Int) := by omega
  have i6 : (R : Int) < (((d.groups.2 G).2 K).blocks.1 : Int) := by omega
  refine wp_region_L 13 (fun w' => w'.cell? ⟨w2.heap.size, 9, none⟩ = some (.slice (some ⟨g1, 0, none⟩) d.groups.1 c1) ∧ w'.cell? ⟨g1, G, none⟩ = some (.slice (some ⟨gg, 0, none⟩) (d.groups.2 G).1 cap) ∧ w'.cell? ⟨gg, K * 2 + 1, none⟩ = some (.slice (some ⟨gb, 0, none⟩) ((d.groups.2 G).2 K).blocks.1 cap9) ∧ w'.cell? ⟨w.heap.size + 1, 0, none⟩ = some (.int .i64 b.stamp) ∧ w'.cell? ⟨w.heap.size + 1, 1, none⟩ = some (.slice o1 b.bytes.1 k1)) (by kernel_rfl) (KS _ (Below.refl _ _)) (fun hHeld => ?_)
  refine wpAnyL_take (i := 0) (oi := _) (v := ?_) 16 rfl (by kernel_rfl) (fun _ _ _ h => h) (Or.inl ⟨by rfl, ?_⟩) (by assumption) ?_
  rotate_left
  · intro w' hSw
    try dsimp only at hSw
    obtain ⟨hq0, hq1, hq2, hq3, hq4⟩ := hSw
    go_simp
    try with_reducible rfl
  try simp only [Act.put, List.setIfInBounds_toArray, List.set_cons_zero, List.set_cons_succ]
  refine wpAnyL_take (i := 1) (oi := _) (v := ?_) 16 rfl (by kernel_rfl) (fun _ _ _ h => h) (Or.inl ⟨by rfl, ?_⟩) (by assumption) ?_
  rotate_left
  · intro w' hSw
    try dsimp only at hSw
    obtain ⟨hq0, hq1, hq2, hq3, hq4⟩ := hSw
    go_simp
    try with_reducible rfl
  try simp only [Act.put, List.setIfInBounds_toArray, List.set_cons_zero, List.set_cons_succ]
  refine wpAnyL_take (i := 2) (oi := _) (v := ?_) 16 rfl (by kernel_rfl) (fun _ _ _ h => h) (Or.inl ⟨by rfl, ?_⟩) (by assumption) ?_
  rotate_left
  · intro w' hSw
    try dsimp only at hSw
    obtain ⟨hq0, hq1, hq2, hq3, hq4⟩ := hSw
    go_simp
    try with_reducible rfl
  try simp only [Act.put, List.setIfInBounds_toArray, List.set_cons_zero, List.set_cons_succ]
  refine wpAnyL_take (i := 3) (oi := _) (v := ?_) 16 rfl (by kernel_rfl) (fun _ _ _ h => h) (Or.inl ⟨by rfl, ?_⟩) (by assumption) ?_
  rotate_left
  · intro w' hSw
    try dsimp only at hSw
    obtain ⟨hq0, hq1, hq2, hq3, hq4⟩ := hSw
    go_simp
    try with_reducible rfl
  try simp only [Act.put, List.setIfInBounds_toArray, List.set_cons_zero, List.set_cons_succ]
  refine wpAnyL_take (i := 4) (oi := _) (v := ?_) 16 rfl (by kernel_rfl) (fun _ _ _ h => h) (Or.inl ⟨by rfl, ?_⟩) (by assumption) ?_
  rotate_left
  · intro w' hSw
    try dsimp only at hSw
    obtain ⟨hq0, hq1, hq2, hq3, hq4⟩ := hSw
    go_simp
    try with_reducible rfl
  try simp only [Act.put, List.setIfInBounds_toArray, List.set_cons_zero, List.set_cons_succ]
  refine wpAnyL_take (i := 5) (oi := _) (v := ?_) 16 rfl (by kernel_rfl) (fun _ _ _ h => h) (Or.inl ⟨by rfl, ?_⟩) (by assumption) ?_
  rotate_left
  · intro w' hSw
    try dsimp only at hSw
    obtain ⟨hq0, hq1, hq2, hq3, hq4⟩ := hSw
    go_simp
    try with_reducible rfl
  try simp only [Act.put, List.setIfInBounds_toArray, List.set_cons_zero, List.set_cons_succ]
  refine wpAnyL_take (i := 6) (oi := _) (v := ?_) 16 rfl (by kernel_rfl) (fun _ _ _ h => h) (Or.inl ⟨by rfl, ?_⟩) (by assumption) ?_
  rotate_left
  · intro w' hSw
    try dsimp only at hSw
    obtain ⟨hq0, hq1, hq2, hq3, hq4⟩ := hSw
    go_simp
    try with_reducible rfl
  try simp only [Act.put, List.setIfInBounds_toArray, List.set_cons_zero, List.set_cons_succ]
  refine wpAnyL_take (i := 7) (oi := _) (v := ?_) 16 rfl (by kernel_rfl) (fun _ _ _ h => h) (Or.inl ⟨by rfl, ?_⟩) (by assumption) ?_
  rotate_left
  · intro w' hSw
    try dsimp only at hSw
    obtain ⟨hq0, hq1, hq2, hq3, hq4⟩ := hSw
    go_simp
    try with_reducible rfl
  try simp only [Act.put, List.setIfInBounds_toArray, List.set_cons_zero, List.set_cons_succ]
  refine wpAnyL_take (i := 8) (oi := _) (v := ?_) 16 rfl (by kernel_rfl) (fun _ _ _ h => h) (Or.inl ⟨by rfl, ?_⟩) (by assumption) ?_
  rotate_left
  · intro w' hSw
    try dsimp only at hSw
    obtain ⟨hq0, hq1, hq2, hq3, hq4⟩ := hSw
    go_simp
    try with_reducible rfl
  try simp only [Act.put, List.setIfInBounds_toArray, List.set_cons_zero, List.set_cons_succ]
  refine wpAnyL_take (i := 9) (oi := _) (v := ?_) 16 rfl (by kernel_rfl) (fun _ _ _ h => h) (Or.inl ⟨by rfl, ?_⟩) (by assumption) ?_
  rotate_left
  · intro w' hSw
    try dsimp only at hSw
    obtain ⟨hq0, hq1, hq2, hq3, hq4⟩ := hSw
    go_simp
    try with_reducible rfl
  try simp only [Act.put, List.setIfInBounds_toArray, List.set_cons_zero, List.set_cons_succ]
  refine wpAnyL_take (i := 10) (oi := _) (v := ?_) 16 rfl (by kernel_rfl) (fun _ _ _ h => h) (Or.inl ⟨by rfl, ?_⟩) (by assumption) ?_
  rotate_left
  · intro w' hSw
    try dsimp only at hSw
    obtain ⟨hq0, hq1, hq2, hq3, hq4⟩ := hSw
    go_simp
    try with_reducible rfl
  try simp only [Act.put, List.setIfInBounds_toArray, List.set_cons_zero, List.set_cons_succ]
  refine wpAnyL_one (i := 11) (o := _) rfl (by kernel_rfl) (fun KC hKC => ?_)
  refine step_call rfl 102 _ _ rfl #[.agg #[.int .i64 b.stamp, .slice o1 b.bytes.1 k1]] ?_ Tryz.func102 (by kernel_rfl) (by kernel_rfl) CC ?_; (simp [Act.eval, Act.put]); rintro ee w6 ⟨s1, m1, rfl, o5, b5⟩; have k5 := KS w6 b5; have f0 : w6.frozen? ⟨gb, R * 2, none⟩ = false := (World.frozen?_of_block (a := ⟨gb, R * 2, none⟩) (b5.block gb SB.lt)).trans (SB.frozen _); have f1 : w6.frozen? ⟨gb, R * 2 + 1, none⟩ = false := (World.frozen?_of_block (a := ⟨gb, R * 2 + 1, none⟩) (b5.block gb SB.lt)).trans (SB.frozen _); have t0 : w6.cell? ⟨gb, R * 2, none⟩ = some u0 := (World.cell?_of_block (a := ⟨gb, R * 2, none⟩) (b5.block gb SB.lt)).trans y0; have t1 : w6.cell? ⟨gb, R * 2 + 1, none⟩ = some u1 := (World.cell?_of_block (a := ⟨gb, R * 2 + 1, none⟩) (b5.block gb SB.lt)).trans y1; refine ⟨_, rfl, ?_⟩
  refine hKC.out _ _ (k5) (fun hHeld => ?_)
  clear hKC KC
  try simp only [Act.put, List.setIfInBounds_toArray, List.set_cons_zero, List.set_cons_succ]
  refine wpAnyL_take (i := 12) (oi := _) (v := ?_) 16 rfl (by kernel_rfl) (fun _ _ _ h => h) (Or.inl ⟨by rfl, ?_⟩) (by assumption) ?_
  rotate_left
  · intro w' hSw
    try dsimp only at hSw
    obtain ⟨hq0, hq1, hq2, hq3, hq4⟩ := hSw
    go_simp
    try with_reducible rfl
  try simp only [Act.put, List.setIfInBounds_toArray, List.set_cons_zero, List.set_cons_succ]
  refine wpAnyL_last (o := _) rfl (by kernel_rfl) (fun KC hKC => ?_)
  go_simp
  refine hKC.out _ _ ?_
  clear hKC KC
  try simp only [Act.put, List.setIfInBounds_toArray, List.set_cons_zero, List.set_cons_succ]
  refine wpAnyL_done (by kernel_rfl) ?_ _
  obtain ⟨La, TB⟩ := Turn.fresh (K := Lb R) o5 (Nat.le_refl _) (ChgL.of_below b5)
  have T6 := SB.turn_at nd9 hR TB (w' := (stN w6 gb (R * layBlock.sz) [.int .i64 b.stamp, .slice s1 b.bytes.1 m1])) rfl
  have T7 := drive_written e9 T6
  rw [← eK9] at T7
  have T8 := S2.turn_in nd2 hK T7
  obtain ⟨K1', WO7, sb7, ch7⟩ := back _ _ _ T8
  have X7 := X5.drew.chgl ch7 (fun hb => by have := in3 _ hb; omega)
  have T5d : Three w w5.drew #[.int .i64 (d.shape 0), .int .i64 (d.shape 1), .int .i64 (d.shape 2), .int .i64 (d.shape 3), .int .i64 (d.shape 4), .int .i64 (d.shape 5), .int .i64 (d.shape 6), .int .i64 (d.shape 7), .int .i64 (d.shape 8), .slice ao1 d.groups.1 cap1, .slice ao2 d.on.1 cap2, .slice ao3 d.tapes.1 cap3, .int .i64 d.writes, .int .i64 d.stop, .bool d.down] #[.int .i64 b.stamp, .slice o1 b.bytes.1 k1] #[.int .i64 0, .int .i64 0, .int .i64 0, .int .i64 0, .int .i64 0, .int .i64 0, .int .i64 0, .int .i64 0, .int .i64 0, .int .i64 0, .slice none 0 0, .slice none 0 0, .slice none 0 0, .int .i64 0, .int .i64 0, .bool false] 30 39 34 := T5.chgK ((ChgL.refl [] _).drew) (fun b hb => by cases hb)
  have TW7 := T5d.chgK ch7 (fun b hb => by have := in3 _ hb; omega)
  have O7 : OwnT layWorld (stN w6 gb (R * layBlock.sz) [.int .i64 b.stamp, .slice s1 b.bytes.1 m1]) wA.heap.size (stN w6 gb (R * layBlock.sz) [.int .i64 b.stamp, .slice s1 b.bytes.1 m1]).heap.size (writtenW d G K R b) [.int .i64 (d.shape 0), .int .i64 (d.shape 1), .int .i64 (d.shape 2), .int .i64 (d.shape 3), .int .i64 (d.shape 4), .int .i64 (d.shape 5), .int .i64 (d.shape 6), .int .i64 (d.shape 7), .int .i64 (d.shape 8), .slice (some ⟨g1, 0, none⟩) d.groups.1 c1, .slice p2 d.on.1 c2, .slice p3 d.tapes.1 c3, .int .i64 (d.writes + 1), .int .i64 d.stop, .bool d.down] := (WO7.writes (d.writes + 1) (by have := count_in HOK.out; omega)).own
  clear WO7 T8 T7 T6 TB WO5 WO0 S2 SB nd2 nd9 e9 eK9 o9 X5 T5 T5d KS CC k5 o5 b5 back sb7 ch7 T5b y0 y1 t0 t1 f0 f1 x9 yk c0
  obtain ⟨W7, hW7⟩ : ∃ x, x = (stN w6 gb (R * layBlock.sz) [.int .i64 b.stamp, .slice s1 b.bytes.1 m1]) := ⟨_, rfl⟩
  go_upto_region 14 with fail
  change Code.wp Tryz.prog _ _ _ (stN w6 gb (R * layBlock.sz) [.int .i64 b.stamp, .slice s1 b.bytes.1 m1])
  rw [← hW7] at X7 TW7 O7 ⊢
  clear hW7
  go_wp2_with (first | (refine wp_loadBox 30 (.tmp 12) rfl rfl (w2.heap.size) rfl (cs := [.int .i64 (d.shape 0), .int .i64 (d.shape 1), .int .i64 (d.shape 2), .int .i64 (d.shape 3), .int .i64 (d.shape 4), .int .i64 (d.shape 5), .int .i64 (d.shape 6), .int .i64 (d.shape 7), .int .i64 (d.shape 8), .slice (some ⟨g1, 0, none⟩) d.groups.1 c1, .slice p2 d.on.1 c2, .slice p3 d.tapes.1 c3, .int .i64 (d.writes + 1), .int .i64 d.stop, .bool d.down]) (X7) Tryz.underlying30 size_W rfl ?_) | (refine wp_storeBox 34 _ _ rfl rfl (w.heap.size + 1 + 1) rfl (cs := [.int .i64 0, .int .i64 (d.shape 0), .int .i64 (d.shape 1), .int .i64 (d.shape 2), .int .i64 (d.shape 3), .int .i64 (d.shape 4), .int .i64 (d.shape 5), .int .i64 (d.shape 6), .int .i64 (d.shape 7), .int .i64 (d.shape 8), .slice (some ⟨g1, 0, none⟩) d.groups.1 c1, .slice p2 d.on.1 c2, .slice p3 d.tapes.1 c3, .int .i64 (d.writes + 1), .int .i64 d.stop, .bool d.down]) (old := [.int .i64 0, .int .i64 0, .int .i64 0, .int .i64 0, .int .i64 0, .int .i64 0, .int .i64 0, .int .i64 0, .int .i64 0, .int .i64 0, .slice none 0 0, .slice none 0 0, .slice none 0 0, .int .i64 0, .int .i64 0, .bool false]) rfl (TW7.b3) size_WR rfl rfl ((own_resOf 0 (by decide) O7).one) ?_; intro w9 X9 C9 z9))
  refine ret_box Tryz.results27 rfl X9 Tryz.underlying34 size_WR rfl rfl ?_
  exact post_worldR (by omega) (by decide) TW7.bel C9 O7 (by omega) (by omega) (.inr ⟨HX.out, .inr ⟨HP.out, .inr ⟨HB.out, .inr ⟨HON.out, .inr ⟨HF.out, rfl⟩⟩⟩⟩⟩)
end Go.Proofs.YtfafbojaeedhfaaGreat

namespace Go.Proofs.YtfafbojaeedhfaaGreat
open Go.RowKit F256
set_option linter.unusedVariables false
set_option linter.unusedSimpArgs false
set_option maxHeartbeats 32000000 in
set_option maxRecDepth 20000 in
theorem implWrite_any (d : WorldD) (g k r : Int) (b : BlockD) (cs csb : List Value) (hi : Nat) (w : World) (h : layWorld.rd w hi d cs) (hr_ : layBlock.rd w hi b csb) (hhi : hi ≤ w.heap.size) (hsz : szWorldD d ≤ 1048576) (hsb : szBlockD b ≤ 1048576) (hg : -9223372036854775808 ≤ g ∧ g ≤ 9223372036854775807) (hk : -9223372036854775808 ≤ k ∧ k ≤ 9223372036854775807) (hr : -9223372036854775808 ≤ r ∧ r ≤ 9223372036854775807) :
    Calls Tryz.prog 24 #[.agg cs.toArray, .int .i64 g, .int .i64 k, .int .i64 r, .agg csb.toArray] w (ResPost (WrAns d g k r b) w) := by
  have h' := h
  obtain ⟨ao1, cap1, ao2, cap2, ao3, cap3, rfl, g1, g2, g3, k0, k4, k5⟩ := World_rd h'
  obtain ⟨o1, k1, rfl, -, -⟩ := Block_rd hr_
  have HRD : Hid (layWorld.rd w hi d [.int .i64 (d.shape 0), .int .i64 (d.shape 1), .int .i64 (d.shape 2), .int .i64 (d.shape 3), .int .i64 (d.shape 4), .int .i64 (d.shape 5), .int .i64 (d.shape 6), .int .i64 (d.shape 7), .int .i64 (d.shape 8), .slice ao1 d.groups.1 cap1, .slice ao2 d.on.1 cap2, .slice ao3 d.tapes.1 cap3, .int .i64 d.writes, .int .i64 d.stop, .bool d.down]) := h
  have HRB : Hid (layBlock.rd w hi b [.int .i64 b.stamp, .slice o1 b.bytes.1 k1]) := hr_
  have HSZ : Hid (szWorldD d ≤ 1048576) := hsz
  have HSB : Hid (szBlockD b ≤ 1048576) := hsb
  have HG2 : Hid (RdI w hi (.slice ao2 d.on.1 cap2) d.on.1 d.on.2) := by
    obtain ⟨_, e2, ⟨h2, _⟩, _⟩ := g2
    cases e2
    exact h2
  have hmf : ∀ (fn : Fn) (first cap : Array Value) (w : World), (Instr.makeFunc fn first cap).run Tryz.prog w = .ok (.func fn first cap) w := fun _ _ _ _ => rfl
  clear h h' hr_ hsz hsb g1 g2 g3 k0 k4 k5 hg hk hr
  have T0 := six_new w #[.int .i64 (d.shape 0), .int .i64 (d.shape 1), .int .i64 (d.shape 2), .int .i64 (d.shape 3), .int .i64 (d.shape 4), .int .i64 (d.shape 5), .int .i64 (d.shape 6), .int .i64 (d.shape 7), .int .i64 (d.shape 8), .slice ao1 d.groups.1 cap1, .slice ao2 d.on.1 cap2, .slice ao3 d.tapes.1 cap3, .int .i64 d.writes, .int .i64 d.stop, .bool d.down] #[.int .i64 g] #[.int .i64 k] #[.int .i64 r] #[.int .i64 b.stamp, .slice o1 b.bytes.1 k1] #[.int .i64 0, .int .i64 0, .int .i64 0, .int .i64 0, .int .i64 0, .int .i64 0, .int .i64 0, .int .i64 0, .int .i64 0, .int .i64 0, .slice none 0 0, .slice none 0 0, .slice none 0 0, .int .i64 0, .int .i64 0, .bool false] 30 2 2 2 39 34
  go_enter Tryz.func24, Tryz.ntmps24
  go_wp2_with (refine wp_loadBox 30 (.tmp 5) rfl rfl (w.heap.size) rfl (cs := [.int .i64 (d.shape 0), .int .i64 (d.shape 1), .int .i64 (d.shape 2), .int .i64 (d.shape 3), .int .i64 (d.shape 4), .int .i64 (d.shape 5), .int .i64 (d.shape 6), .int .i64 (d.shape 7), .int .i64 (d.shape 8), .slice ao1 d.groups.1 cap1, .slice ao2 d.on.1 cap2, .slice ao3 d.tapes.1 cap3, .int .i64 d.writes, .int .i64 d.stop, .bool d.down]) (T0.b1) Tryz.underlying30 size_W rfl ?_)
  refine (powered_any d _ hi _ (layWorld.rd_below HRD.out T0.bel hhi) (Nat.le_trans hhi T0.bel.size) HSZ.out).mono ?_
  rintro e w1 ⟨x, rfl, hx, b1⟩
  have HT1 : Hid (Six w w1 #[.int .i64 (d.shape 0), .int .i64 (d.shape 1), .int .i64 (d.shape 2), .int .i64 (d.shape 3), .int .i64 (d.shape 4), .int .i64 (d.shape 5), .int .i64 (d.shape 6), .int .i64 (d.shape 7), .int .i64 (d.shape 8), .slice ao1 d.groups.1 cap1, .slice ao2 d.on.1 cap2, .slice ao3 d.tapes.1 cap3, .int .i64 d.writes, .int .i64 d.stop, .bool d.down] #[.int .i64 g] #[.int .i64 k] #[.int .i64 r] #[.int .i64 b.stamp, .slice o1 b.bytes.1 k1] #[.int .i64 0, .int .i64 0, .int .i64 0, .int .i64 0, .int .i64 0, .int .i64 0, .int .i64 0, .int .i64 0, .int .i64 0, .int .i64 0, .slice none 0 0, .slice none 0 0, .slice none 0 0, .int .i64 0, .int .i64 0, .bool false] 30 2 2 2 39 34) := T0.call b1
  have HX : Hid (AskAns d x) := hx
  have z1 : w.heap.size + 1 + 1 + 1 + 1 + 1 < w1.heap.size := HT1.out.b6.lt
  clear b1 T0 hx
  by_cases hx0 : x = 0
  case neg =>
    have hne : (x != 0) = true := by simp [hx0]
    go_wp2_with (refine wp_storeBox 34 _ _ rfl rfl (w.heap.size + 1 + 1 + 1 + 1 + 1) rfl (cs := [.int .i64 x, .int .i64 0, .int .i64 0, .int .i64 0, .int .i64 0, .int .i64 0, .int .i64 0, .int .i64 0, .int .i64 0, .int .i64 0, .slice none 0 0, .slice none 0 0, .slice none 0 0, .int .i64 0, .int .i64 0, .bool false]) (old := [.int .i64 0, .int .i64 0, .int .i64 0, .int .i64 0, .int .i64 0, .int .i64 0, .int .i64 0, .int .i64 0, .int .i64 0, .int .i64 0, .slice none 0 0, .slice none 0 0, .slice none 0 0, .int .i64 0, .int .i64 0, .bool false]) rfl (HT1.out.b6) size_WR rfl rfl (code_one _ (ask_small HX.out) w) ?_; intro w9 X9 C9 z9)
    refine ret_box Tryz.results24 rfl X9 Tryz.underlying34 size_WR rfl rfl ?_
    exact post_codeR (by omega) (ask_small HX.out) HT1.out.bel C9 (.inl ⟨x, hx0, HX.out, rfl⟩)
  subst hx0
  have HOK : Hid (OkWorld d) := ask_ok HX.out
  have x_0 : w1.cell? ⟨w.heap.size, 0, none⟩ = some (.int .i64 (d.shape 0)) := HT1.out.b1.cell 0
  have x_1 : w1.cell? ⟨w.heap.size, 1, none⟩ = some (.int .i64 (d.shape 1)) := HT1.out.b1.cell 1
  have x_2 : w1.cell? ⟨w.heap.size, 2, none⟩ = some (.int .i64 (d.shape 2)) := HT1.out.b1.cell 2
  have x_3 : w1.cell? ⟨w.heap.size, 3, none⟩ = some (.int .i64 (d.shape 3)) := HT1.out.b1.cell 3
  have x_4 : w1.cell? ⟨w.heap.size, 4, none⟩ = some (.int .i64 (d.shape 4)) := HT1.out.b1.cell 4
  have x_5 : w1.cell? ⟨w.heap.size, 5, none⟩ = some (.int .i64 (d.shape 5)) := HT1.out.b1.cell 5
  have x_6 : w1.cell? ⟨w.heap.size, 6, none⟩ = some (.int .i64 (d.shape 6)) := HT1.out.b1.cell 6
  have x_7 : w1.cell? ⟨w.heap.size, 7, none⟩ = some (.int .i64 (d.shape 7)) := HT1.out.b1.cell 7
  have x_8 : w1.cell? ⟨w.heap.size, 8, none⟩ = some (.int .i64 (d.shape 8)) := HT1.out.b1.cell 8
  have xg : w1.cell? ⟨w.heap.size + 1, 0, none⟩ = some (.int .i64 g) := HT1.out.b2.cell 0
  have xk : w1.cell? ⟨w.heap.size + 1 + 1, 0, none⟩ = some (.int .i64 k) := HT1.out.b3.cell 0
  have xr : w1.cell? ⟨w.heap.size + 1 + 1 + 1, 0, none⟩ = some (.int .i64 r) := HT1.out.b4.cell 0
  obtain ⟨t1, h1⟩ := exB (DriveP d.shape g k)
  obtain ⟨t2, h2⟩ := exB (InP r 0 (d.shape 4 - 1))
  have CP := fun w' => det_b (isDrive_any d.shape HOK.out.shape g k w') h1
  have CR := fun w' => isRow_b HOK.out.shape h2 w'
  have HPP : Hid (PlaceP d.shape g k r ↔ (t1 = true ∧ t2 = true)) := by
    show PlaceP d.shape g k r ↔ _
    rw [h1, h2]
    unfold PlaceP DriveP
    constructor
    · rintro ⟨p, q, r⟩; exact ⟨⟨p, q⟩, r⟩
    · rintro ⟨⟨p, q⟩, r⟩; exact ⟨p, q, r⟩
  unfold shapeV at CP CR
  clear h1 h2
  go_wp2_with fail
  refine (CP _).mono ?_
  rintro e w2 ⟨rfl, b2⟩
  have HT2 : Hid (Six w w2 #[.int .i64 (d.shape 0), .int .i64 (d.shape 1), .int .i64 (d.shape 2), .int .i64 (d.shape 3), .int .i64 (d.shape 4), .int .i64 (d.shape 5), .int .i64 (d.shape 6), .int .i64 (d.shape 7), .int .i64 (d.shape 8), .slice ao1 d.groups.1 cap1, .slice ao2 d.on.1 cap2, .slice ao3 d.tapes.1 cap3, .int .i64 d.writes, .int .i64 d.stop, .bool d.down] #[.int .i64 g] #[.int .i64 k] #[.int .i64 r] #[.int .i64 b.stamp, .slice o1 b.bytes.1 k1] #[.int .i64 0, .int .i64 0, .int .i64 0, .int .i64 0, .int .i64 0, .int .i64 0, .int .i64 0, .int .i64 0, .int .i64 0, .int .i64 0, .slice none 0 0, .slice none 0 0, .slice none 0 0, .int .i64 0, .int .i64 0, .bool false] 30 2 2 2 39 34) := HT1.out.call b2
  have z2 : w1.heap.size ≤ w2.heap.size := b2.size
  clear b2 CP HT1 xg xk xr x_0 x_1 x_2 x_3 x_4 x_5 x_6 x_7 x_8
  cases t1 with
  | false =>
    go_wp2_with (refine wp_storeBox 34 _ _ rfl rfl (w.heap.size + 1 + 1 + 1 + 1 + 1) rfl (cs := [.int .i64 3, .int .i64 0, .int .i64 0, .int .i64 0, .int .i64 0, .int .i64 0, .int .i64 0, .int .i64 0, .int .i64 0, .int .i64 0, .slice none 0 0, .slice none 0 0, .slice none 0 0, .int .i64 0, .int .i64 0, .bool false]) (old := [.int .i64 0, .int .i64 0, .int .i64 0, .int .i64 0, .int .i64 0, .int .i64 0, .int .i64 0, .int .i64 0, .int .i64 0, .int .i64 0, .slice none 0 0, .slice none 0 0, .slice none 0 0, .int .i64 0, .int .i64 0, .bool false]) rfl (HT2.out.b6) size_WR rfl rfl (code_one _ (by decide) w) ?_; intro w9 X9 C9 z9)
    refine ret_box Tryz.results24 rfl X9 Tryz.underlying34 size_WR rfl rfl ?_
    exact post_codeR (by omega) (by decide) HT2.out.bel C9 (.inr ⟨HX.out, .inl ⟨(fun h => by have := HPP.out.1 h; simp at this), rfl⟩⟩)
  | true =>
  have x_0 : w2.cell? ⟨w.heap.size, 0, none⟩ = some (.int .i64 (d.shape 0)) := HT2.out.b1.cell 0
  have x_1 : w2.cell? ⟨w.heap.size, 1, none⟩ = some (.int .i64 (d.shape 1)) := HT2.out.b1.cell 1
  have x_2 : w2.cell? ⟨w.heap.size, 2, none⟩ = some (.int .i64 (d.shape 2)) := HT2.out.b1.cell 2
  have x_3 : w2.cell? ⟨w.heap.size, 3, none⟩ = some (.int .i64 (d.shape 3)) := HT2.out.b1.cell 3
  have x_4 : w2.cell? ⟨w.heap.size, 4, none⟩ = some (.int .i64 (d.shape 4)) := HT2.out.b1.cell 4
  have x_5 : w2.cell? ⟨w.heap.size, 5, none⟩ = some (.int .i64 (d.shape 5)) := HT2.out.b1.cell 5
  have x_6 : w2.cell? ⟨w.heap.size, 6, none⟩ = some (.int .i64 (d.shape 6)) := HT2.out.b1.cell 6
  have x_7 : w2.cell? ⟨w.heap.size, 7, none⟩ = some (.int .i64 (d.shape 7)) := HT2.out.b1.cell 7
  have x_8 : w2.cell? ⟨w.heap.size, 8, none⟩ = some (.int .i64 (d.shape 8)) := HT2.out.b1.cell 8
  have xg : w2.cell? ⟨w.heap.size + 1, 0, none⟩ = some (.int .i64 g) := HT2.out.b2.cell 0
  have xk : w2.cell? ⟨w.heap.size + 1 + 1, 0, none⟩ = some (.int .i64 k) := HT2.out.b3.cell 0
  have xr : w2.cell? ⟨w.heap.size + 1 + 1 + 1, 0, none⟩ = some (.int .i64 r) := HT2.out.b4.cell 0
  go_wp2_with fail
  refine (CR _).mono ?_
  rintro e w3 ⟨rfl, b3⟩
  have HT3 : Hid (Six w w3 #[.int .i64 (d.shape 0), .int .i64 (d.shape 1), .int .i64 (d.shape 2), .int .i64 (d.shape 3), .int .i64 (d.shape 4), .int .i64 (d.shape 5), .int .i64 (d.shape 6), .int .i64 (d.shape 7), .int .i64 (d.shape 8), .slice ao1 d.groups.1 cap1, .slice ao2 d.on.1 cap2, .slice ao3 d.tapes.1 cap3, .int .i64 d.writes, .int .i64 d.stop, .bool d.down] #[.int .i64 g] #[.int .i64 k] #[.int .i64 r] #[.int .i64 b.stamp, .slice o1 b.bytes.1 k1] #[.int .i64 0, .int .i64 0, .int .i64 0, .int .i64 0, .int .i64 0, .int .i64 0, .int .i64 0, .int .i64 0, .int .i64 0, .int .i64 0, .slice none 0 0, .slice none 0 0, .slice none 0 0, .int .i64 0, .int .i64 0, .bool false] 30 2 2 2 39 34) := HT2.out.call b3
  have z3 : w2.heap.size ≤ w3.heap.size := b3.size
  clear b3 CR HT2 xg xk xr x_0 x_1 x_2 x_3 x_4 x_5 x_6 x_7 x_8
  cases t2 with
  | false =>
    go_wp2_with (refine wp_storeBox 34 _ _ rfl rfl (w.heap.size + 1 + 1 + 1 + 1 + 1) rfl (cs := [.int .i64 3, .int .i64 0, .int .i64 0, .int .i64 0, .int .i64 0, .int .i64 0, .int .i64 0, .int .i64 0, .int .i64 0, .int .i64 0, .slice none 0 0, .slice none 0 0, .slice none 0 0, .int .i64 0, .int .i64 0, .bool false]) (old := [.int .i64 0, .int .i64 0, .int .i64 0, .int .i64 0, .int .i64 0, .int .i64 0, .int .i64 0, .int .i64 0, .int .i64 0, .int .i64 0, .slice none 0 0, .slice none 0 0, .slice none 0 0, .int .i64 0, .int .i64 0, .bool false]) rfl (HT3.out.b6) size_WR rfl rfl (code_one _ (by decide) w) ?_; intro w9 X9 C9 z9)
    refine ret_box Tryz.results24 rfl X9 Tryz.underlying34 size_WR rfl rfl ?_
    exact post_codeR (by omega) (by decide) HT3.out.bel C9 (.inr ⟨HX.out, .inl ⟨(fun h => by have := HPP.out.1 h; simp at this), rfl⟩⟩)
  | true =>
  have HP : Hid (PlaceP d.shape g k r) := HPP.out.2 (by simp)
  clear HPP
  go_wp2_with (refine wp_loadBox 39 (.tmp 9) rfl rfl (w.heap.size + 1 + 1 + 1 + 1) rfl (cs := [.int .i64 b.stamp, .slice o1 b.bytes.1 k1]) (HT3.out.b5) Tryz.underlying39 size_Bk rfl ?_)
  refine (blockFits_any b o1 k1 _).mono ?_
  rintro e w4 ⟨t, rfl, ht, b4⟩
  have HT4 : Hid (Six w w4 #[.int .i64 (d.shape 0), .int .i64 (d.shape 1), .int .i64 (d.shape 2), .int .i64 (d.shape 3), .int .i64 (d.shape 4), .int .i64 (d.shape 5), .int .i64 (d.shape 6), .int .i64 (d.shape 7), .int .i64 (d.shape 8), .slice ao1 d.groups.1 cap1, .slice ao2 d.on.1 cap2, .slice ao3 d.tapes.1 cap3, .int .i64 d.writes, .int .i64 d.stop, .bool d.down] #[.int .i64 g] #[.int .i64 k] #[.int .i64 r] #[.int .i64 b.stamp, .slice o1 b.bytes.1 k1] #[.int .i64 0, .int .i64 0, .int .i64 0, .int .i64 0, .int .i64 0, .int .i64 0, .int .i64 0, .int .i64 0, .int .i64 0, .int .i64 0, .slice none 0 0, .slice none 0 0, .slice none 0 0, .int .i64 0, .int .i64 0, .bool false] 30 2 2 2 39 34) := HT3.out.call b4
  have z4 : w3.heap.size ≤ w4.heap.size := b4.size
  have Ht : Hid (t = true ↔ BlockP b) := ht
  clear b4 ht HT3
  cases t with
  | false =>
    go_wp2_with (refine wp_storeBox 34 _ _ rfl rfl (w.heap.size + 1 + 1 + 1 + 1 + 1) rfl (cs := [.int .i64 1, .int .i64 0, .int .i64 0, .int .i64 0, .int .i64 0, .int .i64 0, .int .i64 0, .int .i64 0, .int .i64 0, .int .i64 0, .slice none 0 0, .slice none 0 0, .slice none 0 0, .int .i64 0, .int .i64 0, .bool false]) (old := [.int .i64 0, .int .i64 0, .int .i64 0, .int .i64 0, .int .i64 0, .int .i64 0, .int .i64 0, .int .i64 0, .int .i64 0, .int .i64 0, .slice none 0 0, .slice none 0 0, .slice none 0 0, .int .i64 0, .int .i64 0, .bool false]) rfl (HT4.out.b6) size_WR rfl rfl (code_one _ (by decide) w) ?_; intro w9 X9 C9 z9)
    refine ret_box Tryz.results24 rfl X9 Tryz.underlying34 size_WR rfl rfl ?_
    exact post_codeR (by omega) (by decide) HT4.out.bel C9 (.inr ⟨HX.out, .inr ⟨HP.out, .inl ⟨(fun h => by have := Ht.out.2 h; cases this), rfl⟩⟩⟩)
  | true =>
  have HB : Hid (BlockP b) := Ht.out.1 (by simp)
  have xg : w4.cell? ⟨w.heap.size + 1, 0, none⟩ = some (.int .i64 g) := HT4.out.b2.cell 0
  go_wp2_with (refine wp_loadBox 30 (.tmp 5) rfl rfl (w.heap.size) rfl (cs := [.int .i64 (d.shape 0), .int .i64 (d.shape 1), .int .i64 (d.shape 2), .int .i64 (d.shape 3), .int .i64 (d.shape 4), .int .i64 (d.shape 5), .int .i64 (d.shape 6), .int .i64 (d.shape 7), .int .i64 (d.shape 8), .slice ao1 d.groups.1 cap1, .slice ao2 d.on.1 cap2, .slice ao3 d.tapes.1 cap3, .int .i64 d.writes, .int .i64 d.stop, .bool d.down]) (HT4.out.b1) Tryz.underlying30 size_W rfl ?_)
  refine (isOn_any d _ hi g _ (layWorld.rd_below HRD.out HT4.out.bel hhi) (Nat.le_trans hhi HT4.out.bel.size)).mono ?_
  rintro e w5 ⟨t, rfl, ht, b5⟩
  have HT5 : Hid (Six w w5 #[.int .i64 (d.shape 0), .int .i64 (d.shape 1), .int .i64 (d.shape 2), .int .i64 (d.shape 3), .int .i64 (d.shape 4), .int .i64 (d.shape 5), .int .i64 (d.shape 6), .int .i64 (d.shape 7), .int .i64 (d.shape 8), .slice ao1 d.groups.1 cap1, .slice ao2 d.on.1 cap2, .slice ao3 d.tapes.1 cap3, .int .i64 d.writes, .int .i64 d.stop, .bool d.down] #[.int .i64 g] #[.int .i64 k] #[.int .i64 r] #[.int .i64 b.stamp, .slice o1 b.bytes.1 k1] #[.int .i64 0, .int .i64 0, .int .i64 0, .int .i64 0, .int .i64 0, .int .i64 0, .int .i64 0, .int .i64 0, .int .i64 0, .int .i64 0, .slice none 0 0, .slice none 0 0, .slice none 0 0, .int .i64 0, .int .i64 0, .bool false] 30 2 2 2 39 34) := HT4.out.call b5
  have z5 : w4.heap.size ≤ w5.heap.size := b5.size
  have HH : Hid (t = true ↔ HasP d.on.1 d.on.2 g) := ht
  clear b5 ht xg HT4
  cases t with
  | false =>
    go_wp2_with (refine wp_storeBox 34 _ _ rfl rfl (w.heap.size + 1 + 1 + 1 + 1 + 1) rfl (cs := [.int .i64 8, .int .i64 0, .int .i64 0, .int .i64 0, .int .i64 0, .int .i64 0, .int .i64 0, .int .i64 0, .int .i64 0, .int .i64 0, .slice none 0 0, .slice none 0 0, .slice none 0 0, .int .i64 0, .int .i64 0, .bool false]) (old := [.int .i64 0, .int .i64 0, .int .i64 0, .int .i64 0, .int .i64 0, .int .i64 0, .int .i64 0, .int .i64 0, .int .i64 0, .int .i64 0, .slice none 0 0, .slice none 0 0, .slice none 0 0, .int .i64 0, .int .i64 0, .bool false]) rfl (HT5.out.b6) size_WR rfl rfl (code_one _ (by decide) w) ?_; intro w9 X9 C9 z9)
    refine ret_box Tryz.results24 rfl X9 Tryz.underlying34 size_WR rfl rfl ?_
    exact post_codeR (by omega) (by decide) HT5.out.bel C9 (.inr ⟨HX.out, .inr ⟨HP.out, .inr ⟨HB.out, .inl ⟨(fun h => by have := HH.out.2 h; cases this), rfl⟩⟩⟩⟩)
  | true =>
  have HON : Hid (HasP d.on.1 d.on.2 g) := HH.out.1 (by simp)
  obtain ⟨G, K, R, rfl, rfl, rfl, hG, hK, hR⟩ := place_at HOK.out HP.out
  have CW := power_write d [.int .i64 (d.shape 0), .int .i64 (d.shape 1), .int .i64 (d.shape 2), .int .i64 (d.shape 3), .int .i64 (d.shape 4), .int .i64 (d.shape 5), .int .i64 (d.shape 6), .int .i64 (d.shape 7), .int .i64 (d.shape 8), .slice ao1 d.groups.1 cap1, .slice ao2 d.on.1 cap2, .slice ao3 d.tapes.1 cap3, .int .i64 d.writes, .int .i64 d.stop, .bool d.down] hi G K R b o1 k1 hi (w.heap.size + 1) (w.heap.size + 1 + 1) (w.heap.size + 1 + 1 + 1) (w.heap.size + 1 + 1 + 1 + 1) w5 (layWorld.rd_below HRD.out HT5.out.bel hhi) (Nat.le_trans hhi HT5.out.bel.size) HSZ.out (HT5.out.b2.cell 0) HT5.out.b2.lt (HT5.out.b3.cell 0) HT5.out.b3.lt (HT5.out.b4.cell 0) HT5.out.b4.lt HT5.out.b5 hG hK hR (layBlock.rd_below HRB.out HT5.out.bel hhi) (Nat.le_trans hhi HT5.out.bel.size) HSB.out (count_in HOK.out) (WrAns d G K R b) (fun hf => .inr ⟨HX.out, .inr ⟨HP.out, .inr ⟨HB.out, .inr ⟨HON.out, .inl ⟨hf, rfl⟩⟩⟩⟩⟩) (fun hf => .inr ⟨HX.out, .inr ⟨HP.out, .inr ⟨HB.out, .inr ⟨HON.out, .inr ⟨hf, rfl⟩⟩⟩⟩⟩)
  have CW := CW.mono (R' := fun e w' => ∃ d' sc s0 s1 s2 s3 s4 s5 s6 s7 s8 sp0 sl0 sq0 sp1 sl1 sq1 sp2 sl2 sq2 s9 s10 sb, e = .returned (.agg #[.int .i64 sc, .int .i64 s0, .int .i64 s1, .int .i64 s2, .int .i64 s3, .int .i64 s4, .int .i64 s5, .int .i64 s6, .int .i64 s7, .int .i64 s8, .slice sp0 sl0 sq0, .slice sp1 sl1 sq1, .slice sp2 sl2 sq2, .int .i64 s9, .int .i64 s10, .bool sb]) ∧ WrAns d G K R b d' ∧ OwnT layWorldResult w' w5.heap.size w'.heap.size d' [.int .i64 sc, .int .i64 s0, .int .i64 s1, .int .i64 s2, .int .i64 s3, .int .i64 s4, .int .i64 s5, .int .i64 s6, .int .i64 s7, .int .i64 s8, .slice sp0 sl0 sq0, .slice sp1 sl1 sq1, .slice sp2 sl2 sq2, .int .i64 s9, .int .i64 s10, .bool sb] ∧ Below w5.heap.size w5 w') (fun e w' ⟨d', cs', he, hP, ho, hb⟩ => by
    obtain ⟨sc, s0, s1, s2, s3, s4, s5, s6, s7, s8, sp0, sl0, sq0, sp1, sl1, sq1, sp2, sl2, sq2, s9, s10, sb, rfl⟩ := wres16 ho.rd
    exact ⟨d', sc, s0, s1, s2, s3, s4, s5, s6, s7, s8, sp0, sl0, sq0, sp1, sl1, sq1, sp2, sl2, sq2, s9, s10, sb, he, hP, ho, hb⟩)
  go_wp2_with (first | (refine wp_loadBox 30 (.tmp 5) rfl rfl (w.heap.size) rfl (cs := [.int .i64 (d.shape 0), .int .i64 (d.shape 1), .int .i64 (d.shape 2), .int .i64 (d.shape 3), .int .i64 (d.shape 4), .int .i64 (d.shape 5), .int .i64 (d.shape 6), .int .i64 (d.shape 7), .int .i64 (d.shape 8), .slice ao1 d.groups.1 cap1, .slice ao2 d.on.1 cap2, .slice ao3 d.tapes.1 cap3, .int .i64 d.writes, .int .i64 d.stop, .bool d.down]) (HT5.out.b1) Tryz.underlying30 size_W rfl ?_) | (go_at_call 87; refine CW.mono ?_; rintro e w6 ⟨d', sc, s0, s1, s2, s3, s4, s5, s6, s7, s8, sp0, sl0, sq0, sp1, sl1, sq1, sp2, sl2, sq2, s9, s10, sb, rfl, hP, o6, b6⟩; have T6 := HT5.out.call b6; have z6 : w5.heap.size ≤ w6.heap.size := b6.size) | (refine wp_storeBox 34 _ _ rfl rfl (w.heap.size + 1 + 1 + 1 + 1 + 1) rfl (cs := [.int .i64 sc, .int .i64 s0, .int .i64 s1, .int .i64 s2, .int .i64 s3, .int .i64 s4, .int .i64 s5, .int .i64 s6, .int .i64 s7, .int .i64 s8, .slice sp0 sl0 sq0, .slice sp1 sl1 sq1, .slice sp2 sl2 sq2, .int .i64 s9, .int .i64 s10, .bool sb]) (old := [.int .i64 0, .int .i64 0, .int .i64 0, .int .i64 0, .int .i64 0, .int .i64 0, .int .i64 0, .int .i64 0, .int .i64 0, .int .i64 0, .slice none 0 0, .slice none 0 0, .slice none 0 0, .int .i64 0, .int .i64 0, .bool false]) rfl (T6.b6) size_WR rfl rfl (o6.one) ?_; intro w9 X9 C9 z9))
  refine ret_box Tryz.results24 rfl X9 Tryz.underlying34 size_WR rfl rfl ?_
  refine ⟨d', [.int .i64 sc, .int .i64 s0, .int .i64 s1, .int .i64 s2, .int .i64 s3, .int .i64 s4, .int .i64 s5, .int .i64 s6, .int .i64 s7, .int .i64 s8, .slice sp0 sl0 sq0, .slice sp1 sl1 sq1, .slice sp2 sl2 sq2, .int .i64 s9, .int .i64 s10, .bool sb], rfl, hP, (o6.chgk C9 (fun b hb => by simp at hb; omega)).weaken (by omega) C9.size, T6.bel.trans (C9.bel (fun b hb => by simp at hb; omega) T6.bel.size)⟩
end Go.Proofs.YtfafbojaeedhfaaGreat
