/- Walk of the specification's l5Raw. -/
import Derived.Test.YtfafbojaeedhfaaGreatZeE
import Derived.Test.YtfafbojaeedhfaaGreatZeI
import Derived.Deep.DeepCutAuto
import Derived.BigQuiet
import Derived.Deep.QuietTactic
import Derived.Test.YtfafbojaeedhfaaGreatZfM
import Derived.Test.YtfafbojaeedhfaaGreatZfQ
import Derived.Test.YtfafbojaeedhfaaGreatZeG
import Derived.Test.YtfafbojaeedhfaaGreatZfU
import Derived.Test.YtfafbojaeedhfaaGreatZeK
namespace Go.Proofs.YtfafbojaeedhfaaGreat
open Go.RowKit F256
set_option linter.unusedVariables false
set_option linter.unusedSimpArgs false
set_option maxHeartbeats 8000000 in
set_option maxRecDepth 20000 in
theorem l5Raw_fail (b : Nat) (v0 v1 v2 v3 v4 v5 v6 v7 v8 vp0 vl0 vq0 vp1 vl1 vq1 vp2 vl2 vq2 v9 v10 vb : _) (w : World) (hB : Box w b #[.int .i64 v0, .int .i64 v1, .int .i64 v2, .int .i64 v3, .int .i64 v4, .int .i64 v5, .int .i64 v6, .int .i64 v7, .int .i64 v8, .slice vp0 vl0 vq0, .slice vp1 vl1 vq1, .slice vp2 vl2 vq2, .int .i64 v9, .int .i64 v10, .bool vb] 30) (hd : vb = false) (hs : v10 ≠ -1) (hw : v10 ≤ v9) :
    Calls Tryz.prog 101 #[.pointer (some ⟨b, 0, none⟩)] w fun e w' => e = .returned (.bool false) ∧ Box w' b #[.int .i64 v0, .int .i64 v1, .int .i64 v2, .int .i64 v3, .int .i64 v4, .int .i64 v5, .int .i64 v6, .int .i64 v7, .int .i64 v8, .slice vp0 vl0 vq0, .slice none 0 0, .slice vp2 vl2 vq2, .int .i64 v9, .int .i64 v10, .bool true] 30 ∧ ChgL [b] w w' := by
  subst hd
  have d1 : (v10 != -1) = true := by simpa using hs
  have d2 : decide (v10 ≤ v9) = true := by simpa using hw
  have x12 : w.cell? ⟨b, 12, none⟩ = some (.int .i64 v9) := hB.cell 12
  have x13 : w.cell? ⟨b, 13, none⟩ = some (.int .i64 v10) := hB.cell 13
  have x14 : w.cell? ⟨b, 14, none⟩ = some (.bool false) := hB.cell 14
  clear hs hw
  go_enter Tryz.func101, Tryz.ntmps101
  go_upto_region 3 with fail
  go_quiet (fail)
  go_upto_region 4 with fail
  obtain ⟨W, hW⟩ : ∃ x, x = w.drewN nq := ⟨_, rfl⟩
  rw [← hW]
  have X1 : Box W b #[.int .i64 v0, .int .i64 v1, .int .i64 v2, .int .i64 v3, .int .i64 v4, .int .i64 v5, .int .i64 v6, .int .i64 v7, .int .i64 v8, .slice vp0 vl0 vq0, .slice vp1 vl1 vq1, .slice vp2 vl2 vq2, .int .i64 v9, .int .i64 v10, .bool false] 30 := by rw [hW]; exact hB
  have C1 : ChgL [b] w W := by rw [hW]; exact ⟨rfl, rfl, rfl, Nat.le_refl _, fun _ _ _ => rfl⟩
  clear hW x12 x13 x14 hB
  have y0 : W.cell? ⟨b, 14, none⟩ = some (.bool false) := X1.cell 14
  have yf0 : W.frozen? ⟨b, 14, none⟩ = false := X1.frozen 14
  have X2 : Box (W.setCell ⟨b, 14, none⟩ (.bool true)) b #[.int .i64 v0, .int .i64 v1, .int .i64 v2, .int .i64 v3, .int .i64 v4, .int .i64 v5, .int .i64 v6, .int .i64 v7, .int .i64 v8, .slice vp0 vl0 vq0, .slice vp1 vl1 vq1, .slice vp2 vl2 vq2, .int .i64 v9, .int .i64 v10, .bool true] 30 := X1.setc 14 _
  have y1 : (W.setCell ⟨b, 14, none⟩ (.bool true)).cell? ⟨b, 10, none⟩ = some (.slice vp1 vl1 vq1) := X2.cell 10
  have yf1 : (W.setCell ⟨b, 14, none⟩ (.bool true)).frozen? ⟨b, 10, none⟩ = false := X2.frozen 10
  have X3 : Box ((W.setCell ⟨b, 14, none⟩ (.bool true)).setCell ⟨b, 10, none⟩ (.slice none 0 0)) b #[.int .i64 v0, .int .i64 v1, .int .i64 v2, .int .i64 v3, .int .i64 v4, .int .i64 v5, .int .i64 v6, .int .i64 v7, .int .i64 v8, .slice vp0 vl0 vq0, .slice none 0 0, .slice vp2 vl2 vq2, .int .i64 v9, .int .i64 v10, .bool true] 30 := X2.setc 10 _
  have C3 : ChgL [b] w ((W.setCell ⟨b, 14, none⟩ (.bool true)).setCell ⟨b, 10, none⟩ (.slice none 0 0)) := (C1.st _ 14 _ (by simp)).st _ 10 _ (by simp)
  clear X1 X2 C1
  go_wp2
  go_ret
  exact ⟨rfl, X3, C3⟩
set_option maxHeartbeats 8000000 in
set_option maxRecDepth 20000 in
theorem l5Raw_ok1 (b : Nat) (v0 v1 v2 v3 v4 v5 v6 v7 v8 vp0 vl0 vq0 vp1 vl1 vq1 vp2 vl2 vq2 v9 v10 vb : _) (w : World) (hB : Box w b #[.int .i64 v0, .int .i64 v1, .int .i64 v2, .int .i64 v3, .int .i64 v4, .int .i64 v5, .int .i64 v6, .int .i64 v7, .int .i64 v8, .slice vp0 vl0 vq0, .slice vp1 vl1 vq1, .slice vp2 vl2 vq2, .int .i64 v9, .int .i64 v10, .bool vb] 30) (hd : vb = false) (d1 : (v10 != -1) = false) (hwr : -9223372036854775808 ≤ v9 ∧ v9 + 1 ≤ 9223372036854775807) :
    Calls Tryz.prog 101 #[.pointer (some ⟨b, 0, none⟩)] w fun e w' => e = .returned (.bool true) ∧ Box w' b #[.int .i64 v0, .int .i64 v1, .int .i64 v2, .int .i64 v3, .int .i64 v4, .int .i64 v5, .int .i64 v6, .int .i64 v7, .int .i64 v8, .slice vp0 vl0 vq0, .slice vp1 vl1 vq1, .slice vp2 vl2 vq2, .int .i64 (v9 + 1), .int .i64 v10, .bool vb] 30 ∧ ChgL [b] w w' := by
  have HD : Hid (vb = false) := hd
  obtain ⟨vc, hvc⟩ : ∃ x : Bool, x = vb := ⟨_, rfl⟩
  have zz : IntKind.i64.wrap (v9 + 1) = v9 + 1 := by rw [IntKind.wrap_i64]; omega
  have x12 : w.cell? ⟨b, 12, none⟩ = some (.int .i64 v9) := hB.cell 12
  have x13 : w.cell? ⟨b, 13, none⟩ = some (.int .i64 v10) := hB.cell 13
  have x14 : w.cell? ⟨b, 14, none⟩ = some (.bool false) := by rw [← HD.out]; exact hB.cell 14
  clear hwr hd
  go_enter Tryz.func101, Tryz.ntmps101
  go_upto_region 3 with fail
  go_quiet (fail)
  go_upto_region 7 with fail
  obtain ⟨W, hW⟩ : ∃ x, x = w.drewN nq := ⟨_, rfl⟩
  rw [← hW]
  have X1 : Box W b #[.int .i64 v0, .int .i64 v1, .int .i64 v2, .int .i64 v3, .int .i64 v4, .int .i64 v5, .int .i64 v6, .int .i64 v7, .int .i64 v8, .slice vp0 vl0 vq0, .slice vp1 vl1 vq1, .slice vp2 vl2 vq2, .int .i64 v9, .int .i64 v10, .bool vb] 30 := by rw [hW]; exact hB
  have C1 : ChgL [b] w W := by rw [hW]; exact ⟨rfl, rfl, rfl, Nat.le_refl _, fun _ _ _ => rfl⟩
  clear hW x12 x13 x14 hB
  have y0 : W.cell? ⟨b, 12, none⟩ = some (.int .i64 v9) := X1.cell 12
  have yf0 : W.frozen? ⟨b, 12, none⟩ = false := X1.frozen 12
  have X2 : Box (W.setCell ⟨b, 12, none⟩ (.int .i64 (v9 + 1))) b #[.int .i64 v0, .int .i64 v1, .int .i64 v2, .int .i64 v3, .int .i64 v4, .int .i64 v5, .int .i64 v6, .int .i64 v7, .int .i64 v8, .slice vp0 vl0 vq0, .slice vp1 vl1 vq1, .slice vp2 vl2 vq2, .int .i64 (v9 + 1), .int .i64 v10, .bool vb] 30 := X1.setc 12 _
  have C2' : ChgL [b] w (W.setCell ⟨b, 12, none⟩ (.int .i64 (v9 + 1))) := C1.st _ 12 _ (by simp)
  clear X1 C1
  go_wp2
  go_ret
  exact ⟨rfl, X2, C2'⟩
set_option maxHeartbeats 8000000 in
set_option maxRecDepth 20000 in
theorem l5Raw_ok2 (b : Nat) (v0 v1 v2 v3 v4 v5 v6 v7 v8 vp0 vl0 vq0 vp1 vl1 vq1 vp2 vl2 vq2 v9 v10 vb : _) (w : World) (hB : Box w b #[.int .i64 v0, .int .i64 v1, .int .i64 v2, .int .i64 v3, .int .i64 v4, .int .i64 v5, .int .i64 v6, .int .i64 v7, .int .i64 v8, .slice vp0 vl0 vq0, .slice vp1 vl1 vq1, .slice vp2 vl2 vq2, .int .i64 v9, .int .i64 v10, .bool vb] 30) (hd : vb = false) (d1 : (v10 != -1) = true) (d2 : decide (v10 ≤ v9) = false) (hwr : -9223372036854775808 ≤ v9 ∧ v9 + 1 ≤ 9223372036854775807) :
    Calls Tryz.prog 101 #[.pointer (some ⟨b, 0, none⟩)] w fun e w' => e = .returned (.bool true) ∧ Box w' b #[.int .i64 v0, .int .i64 v1, .int .i64 v2, .int .i64 v3, .int .i64 v4, .int .i64 v5, .int .i64 v6, .int .i64 v7, .int .i64 v8, .slice vp0 vl0 vq0, .slice vp1 vl1 vq1, .slice vp2 vl2 vq2, .int .i64 (v9 + 1), .int .i64 v10, .bool vb] 30 ∧ ChgL [b] w w' := by
  have HD : Hid (vb = false) := hd
  obtain ⟨vc, hvc⟩ : ∃ x : Bool, x = vb := ⟨_, rfl⟩
  have zz : IntKind.i64.wrap (v9 + 1) = v9 + 1 := by rw [IntKind.wrap_i64]; omega
  have x12 : w.cell? ⟨b, 12, none⟩ = some (.int .i64 v9) := hB.cell 12
  have x13 : w.cell? ⟨b, 13, none⟩ = some (.int .i64 v10) := hB.cell 13
  have x14 : w.cell? ⟨b, 14, none⟩ = some (.bool false) := by rw [← HD.out]; exact hB.cell 14
  clear hwr hd
  go_enter Tryz.func101, Tryz.ntmps101
  go_upto_region 3 with fail
  go_quiet (fail)
  go_upto_region 7 with fail
  obtain ⟨W, hW⟩ : ∃ x, x = w.drewN nq := ⟨_, rfl⟩
  rw [← hW]
  have X1 : Box W b #[.int .i64 v0, .int .i64 v1, .int .i64 v2, .int .i64 v3, .int .i64 v4, .int .i64 v5, .int .i64 v6, .int .i64 v7, .int .i64 v8, .slice vp0 vl0 vq0, .slice vp1 vl1 vq1, .slice vp2 vl2 vq2, .int .i64 v9, .int .i64 v10, .bool vb] 30 := by rw [hW]; exact hB
  have C1 : ChgL [b] w W := by rw [hW]; exact ⟨rfl, rfl, rfl, Nat.le_refl _, fun _ _ _ => rfl⟩
  clear hW x12 x13 x14 hB
  have y0 : W.cell? ⟨b, 12, none⟩ = some (.int .i64 v9) := X1.cell 12
  have yf0 : W.frozen? ⟨b, 12, none⟩ = false := X1.frozen 12
  have X2 : Box (W.setCell ⟨b, 12, none⟩ (.int .i64 (v9 + 1))) b #[.int .i64 v0, .int .i64 v1, .int .i64 v2, .int .i64 v3, .int .i64 v4, .int .i64 v5, .int .i64 v6, .int .i64 v7, .int .i64 v8, .slice vp0 vl0 vq0, .slice vp1 vl1 vq1, .slice vp2 vl2 vq2, .int .i64 (v9 + 1), .int .i64 v10, .bool vb] 30 := X1.setc 12 _
  have C2' : ChgL [b] w (W.setCell ⟨b, 12, none⟩ (.int .i64 (v9 + 1))) := C1.st _ 12 _ (by simp)
  clear X1 C1
  go_wp2
  go_ret
  exact ⟨rfl, X2, C2'⟩
theorem l5Raw_ok (b : Nat) (v0 v1 v2 v3 v4 v5 v6 v7 v8 vp0 vl0 vq0 vp1 vl1 vq1 vp2 vl2 vq2 v9 v10 vb : _) (w : World) (hB : Box w b #[.int .i64 v0, .int .i64 v1, .int .i64 v2, .int .i64 v3, .int .i64 v4, .int .i64 v5, .int .i64 v6, .int .i64 v7, .int .i64 v8, .slice vp0 vl0 vq0, .slice vp1 vl1 vq1, .slice vp2 vl2 vq2, .int .i64 v9, .int .i64 v10, .bool vb] 30) (hd : vb = false) (hpw : ¬ (v10 ≠ -1 ∧ v10 ≤ v9)) (hwr : -9223372036854775808 ≤ v9 ∧ v9 + 1 ≤ 9223372036854775807) :
    Calls Tryz.prog 101 #[.pointer (some ⟨b, 0, none⟩)] w fun e w' => e = .returned (.bool true) ∧ Box w' b #[.int .i64 v0, .int .i64 v1, .int .i64 v2, .int .i64 v3, .int .i64 v4, .int .i64 v5, .int .i64 v6, .int .i64 v7, .int .i64 v8, .slice vp0 vl0 vq0, .slice vp1 vl1 vq1, .slice vp2 vl2 vq2, .int .i64 (v9 + 1), .int .i64 v10, .bool vb] 30 ∧ ChgL [b] w w' := by
  by_cases hs : v10 = -1
  · exact l5Raw_ok1 b v0 v1 v2 v3 v4 v5 v6 v7 v8 vp0 vl0 vq0 vp1 vl1 vq1 vp2 vl2 vq2 v9 v10 vb w hB hd (by simpa using hs) hwr
  · exact l5Raw_ok2 b v0 v1 v2 v3 v4 v5 v6 v7 v8 vp0 vl0 vq0 vp1 vl1 vq1 vp2 vl2 vq2 v9 v10 vb w hB hd (by simpa using hs) (by simp only [decide_eq_false_iff_not]; exact fun h => hpw ⟨hs, h⟩) hwr
end Go.Proofs.YtfafbojaeedhfaaGreat

namespace Go.Proofs.YtfafbojaeedhfaaGreat
open Go.RowKit F256
set_option linter.unusedVariables false
set_option linter.unusedSimpArgs false
def FailsP (d : WorldD) : Prop := d.stop ≠ -1 ∧ d.stop ≤ d.writes
def trustedW (d : WorldD) (G k : Nat) : WorldD := { trustW d G k with writes := d.writes + 1 }
def TrustAns (d : WorldD) (g k : Int) (r : WorldResultD) : Prop := (∃ x, x ≠ 0 ∧ AskAns d x ∧ r = ⟨x, zeroW⟩) ∨ (AskAns d 0 ∧ ((¬ DriveP d.shape g k ∧ r = ⟨3, zeroW⟩) ∨ (DriveP d.shape g k ∧ ((¬ HasP d.on.1 d.on.2 g ∧ r = ⟨8, zeroW⟩) ∨ (HasP d.on.1 d.on.2 g ∧ ((FailsP d ∧ r = ⟨9, cutW d⟩) ∨ (¬ FailsP d ∧ r = ⟨0, trustedW d g.toNat k.toNat⟩)))))))
theorem TrustAns.one {d : WorldD} {g k : Int} {r q : WorldResultD} (h : TrustAns d g k r) (l : TrustAns d g k q) : r = q := by
  rcases h with ⟨x, h1, h2, rfl⟩ | ⟨h1, h⟩ <;> rcases l with ⟨y, k1, k2, rfl⟩ | ⟨k1, l⟩
  · rw [h2.one k2]
  · exact absurd (h2.one k1) h1
  · exact absurd (k2.one h1) k1
  · rcases h with ⟨h2, rfl⟩ | ⟨h2, h⟩ <;> rcases l with ⟨k2, rfl⟩ | ⟨k2, l⟩
    · rfl
    · exact absurd k2 h2
    · exact absurd h2 k2
    · rcases h with ⟨h3, rfl⟩ | ⟨h3, h⟩ <;> rcases l with ⟨k3, rfl⟩ | ⟨k3, l⟩
      · rfl
      · exact absurd k3 h3
      · exact absurd h3 k3
      · rcases h with ⟨h4, rfl⟩ | ⟨h4, rfl⟩ <;> rcases l with ⟨k4, rfl⟩ | ⟨k4, rfl⟩
        · rfl
        · exact absurd h4 k4
        · exact absurd k4 h4
        · rfl
theorem ask_up {d : WorldD} (h : AskAns d 0) : d.down = false := by
  rcases h with ⟨h, _⟩ | ⟨_, ⟨_, h⟩ | ⟨h, _⟩⟩
  · exact absurd rfl h
  · cases h
  · exact h
theorem WOpen.writes {w : World} {lo hi : Nat} {d : WorldD} {v1 v2 v3 : Value} {K1 K2 K3 : List Nat} (h : WOpen w lo hi d v1 v2 v3 K1 K2 K3) (n : Int) (hn : -9223372036854775808 ≤ n ∧ n ≤ 9223372036854775807) : WOpen w lo hi { d with writes := n } v1 v2 v3 K1 K2 K3 := ⟨h.g, h.o, h.t, h.nd, h.inn, h.k0, hn, h.k5⟩
theorem count_in {d : WorldD} (h : OkWorld d) : -9223372036854775808 ≤ d.writes ∧ d.writes + 1 ≤ 9223372036854775807 := by
  have hc := h.count
  unfold CountP InP at hc
  omega
end Go.Proofs.YtfafbojaeedhfaaGreat

namespace Go.Proofs.YtfafbojaeedhfaaGreat
open Go.RowKit F256
set_option linter.unusedVariables false
set_option linter.unusedSimpArgs false
/-- a world's box, two numbers' boxes, the result's -/
structure Cap2 (w wc : World) (c1 : Array Value) (x y : Int) (c4 : Array Value) (t1 t4 : TypeId) : Prop where
  b1 : Box wc w.heap.size c1 t1
  b2 : Box wc (w.heap.size + 1) #[.int .i64 x] 2
  b3 : Box wc (w.heap.size + 1 + 1) #[.int .i64 y] 2
  b4 : Box wc (w.heap.size + 1 + 1 + 1) c4 t4
  bel : Below w.heap.size w wc
theorem Cap2.call {w wc w' : World} {c1 c4 : Array Value} {x y : Int} {t1 t4 : TypeId} (h : Cap2 w wc c1 x y c4 t1 t4) (hb : Below wc.heap.size wc w') : Cap2 w w' c1 x y c4 t1 t4 := ⟨h.b1.call hb, h.b2.call hb, h.b3.call hb, h.b4.call hb, h.bel.trans (hb.mono h.bel.size)⟩
theorem post_codeR {P : WorldResultD → Prop} {w wc w9 : World} {x : Int} {r : Nat} (hr : w.heap.size ≤ r) (hx : -9223372036854775808 ≤ x ∧ x ≤ 9223372036854775807) (hb : Below w.heap.size w wc) (hc : ChgL [r] wc w9) (hP : P ⟨x, zeroW⟩) : ResPost P w (.returned (.agg #[.int .i64 x, .int .i64 0, .int .i64 0, .int .i64 0, .int .i64 0, .int .i64 0, .int .i64 0, .int .i64 0, .int .i64 0, .int .i64 0, .slice none 0 0, .slice none 0 0, .slice none 0 0, .int .i64 0, .int .i64 0, .bool false])) w9 :=
  ⟨⟨x, zeroW⟩, [.int .i64 x, .int .i64 0, .int .i64 0, .int .i64 0, .int .i64 0, .int .i64 0, .int .i64 0, .int .i64 0, .int .i64 0, .int .i64 0, .slice none 0 0, .slice none 0 0, .slice none 0 0, .int .i64 0, .int .i64 0, .bool false], rfl, hP, own_resCode _ x hx _ _, hb.trans (hc.bel (fun b hb => by simp at hb; omega) hb.size)⟩
end Go.Proofs.YtfafbojaeedhfaaGreat

namespace Go.Proofs.YtfafbojaeedhfaaGreat
open Go.RowKit F256
set_option linter.unusedVariables false
set_option linter.unusedSimpArgs false
theorem isTape_c {t : Int} {b : Bool} (hb : b = true ↔ InP t 0 1) (w : World) : Calls Tryz.prog 127 #[.int .i64 t] w fun e w' => e = .returned (.bool b) ∧ w' = w := by
  have CI := fun w' => inBounds_b (show (0 : Int) ≤ 1 by decide) hb w'
  clear hb
  go_enter Tryz.func127, Tryz.ntmps127
  go_wp2_with fail
  refine (CI _).mono ?_
  rintro e w1 ⟨rfl, e1⟩
  obtain rfl := e1.symm
  go_wp2
  go_ret
  exact ⟨rfl, rfl⟩
end Go.Proofs.YtfafbojaeedhfaaGreat

namespace Go.Proofs.YtfafbojaeedhfaaGreat
open Go.RowKit F256
set_option linter.unusedVariables false
set_option linter.unusedSimpArgs false
def laidW (d : WorldD) (T : Nat) (r : RecD) : WorldD := { appendW d T r with writes := d.writes + 1 }
def FullP (d : WorldD) (t : Int) : Prop := 200 ≤ ((d.tapes.2 t.toNat).recs.1 : Int)
def AppAns (d : WorldD) (t : Int) (r : RecD) (q : WorldResultD) : Prop := (∃ x, x ≠ 0 ∧ AskAns d x ∧ q = ⟨x, zeroW⟩) ∨ (AskAns d 0 ∧ ((¬ InP t 0 1 ∧ q = ⟨3, zeroW⟩) ∨ (InP t 0 1 ∧ ((∃ x, x ≠ 0 ∧ RecAns d.shape r x ∧ q = ⟨x, zeroW⟩) ∨ (RecAns d.shape r 0 ∧ ((FullP d t ∧ q = ⟨2, zeroW⟩) ∨ (¬ FullP d t ∧ ((FailsP d ∧ q = ⟨9, cutW d⟩) ∨ (¬ FailsP d ∧ q = ⟨0, laidW d t.toNat r⟩)))))))))
theorem AppAns.one {d : WorldD} {t : Int} {r : RecD} {p q : WorldResultD} (h : AppAns d t r p) (l : AppAns d t r q) : p = q := by
  rcases h with ⟨x, h1, h2, rfl⟩ | ⟨h1, h⟩ <;> rcases l with ⟨y, k1, k2, rfl⟩ | ⟨k1, l⟩
  · rw [h2.one k2]
  · exact absurd (h2.one k1) h1
  · exact absurd (k2.one h1) k1
  · rcases h with ⟨h2, rfl⟩ | ⟨h2, h⟩ <;> rcases l with ⟨k2, rfl⟩ | ⟨k2, l⟩
    · rfl
    · exact absurd k2 h2
    · exact absurd h2 k2
    · rcases h with ⟨x, h3, h4, rfl⟩ | ⟨h3, h⟩ <;> rcases l with ⟨y, k3, k4, rfl⟩ | ⟨k3, l⟩
      · rw [h4.one k4]
      · exact absurd (h4.one k3) h3
      · exact absurd (k4.one h3) k3
      · rcases h with ⟨h4, rfl⟩ | ⟨h4, h⟩ <;> rcases l with ⟨k4, rfl⟩ | ⟨k4, l⟩
        · rfl
        · exact absurd h4 k4
        · exact absurd k4 h4
        · rcases h with ⟨h5, rfl⟩ | ⟨h5, rfl⟩ <;> rcases l with ⟨k5, rfl⟩ | ⟨k5, rfl⟩
          · rfl
          · exact absurd h5 k5
          · exact absurd k5 h5
          · rfl
theorem tape_at2 {d : WorldD} (h : OkWorld d) {t : Int} (hp : InP t 0 1) : ∃ T : Nat, t = T ∧ T < d.tapes.1 ∧ (d.tapes.2 T).recs.1 ≤ 1048576 := by
  have h2 := h.form.2.2
  unfold InP at hp
  have hT : t.toNat < d.tapes.1 := by omega
  exact ⟨t.toNat, by omega, hT, by have := h.few _ hT; omega⟩
theorem rec_wide {s : Nat → Int} {r : RecD} {x : Int} (h : RecAns s r x) : -9223372036854775808 ≤ x ∧ x ≤ 9223372036854775807 := by have := rec_small h; omega
theorem rec_name {r : RecD} (h : szRecD r ≤ 1048576) : r.name.size ≤ 1048576 := by unfold szRecD at h; omega
theorem post_worldR {P : WorldResultD → Prop} {w wc w9 : World} {c : Int} {d : WorldD} {cs : List Value} {lo hi r : Nat} (hr : w.heap.size ≤ r) (hx : -9223372036854775808 ≤ c ∧ c ≤ 9223372036854775807) (hb : Below w.heap.size w wc) (hc : ChgL [r] wc w9) (ho : OwnT layWorld wc lo hi d cs) (hlo : r < lo) (hhi : hi ≤ wc.heap.size) (hP : P ⟨c, d⟩) : ResPost P w (.returned (.agg (.int .i64 c :: cs).toArray)) w9 :=
  ⟨⟨c, d⟩, .int .i64 c :: cs, rfl, hP, (own_resOf c hx (ho.chgk hc (fun b hb => by simp at hb; omega))).weaken (by omega) (Nat.le_trans hhi hc.size), hb.trans (hc.bel (fun b hb => by simp at hb; omega) hb.size)⟩
theorem Three.chgK {w wc w' : World} {c1 c2 c3 : Array Value} {t1 t2 t3 : TypeId} {K : List Nat} (h : Three w wc c1 c2 c3 t1 t2 t3) (hc : ChgL K wc w') (hK : ∀ b, b ∈ K → w.heap.size + 1 + 1 < b) : Three w w' c1 c2 c3 t1 t2 t3 :=
  ⟨h.b1.chgl hc (fun hb => by have := hK _ hb; omega), h.b2.chgl hc (fun hb => by have := hK _ hb; omega), h.b3.chgl hc (fun hb => by have := hK _ hb; omega), h.bel.trans (hc.bel (fun b hb => by have := hK b hb; omega) h.bel.size)⟩
theorem cell_off (w : World) (b i j : Nat) (u : Value) (h : i ≠ j) : (w.setCell ⟨b, i, none⟩ u).cell? ⟨b, j, none⟩ = w.cell? ⟨b, j, none⟩ := by
  unfold World.setCell World.cell?
  simp only [Array.getElem?_modify]
  cases w.heap[b]? with
  | none => rfl
  | some o => cases o <;> simp [Array.getElem?_setIfInBounds, h]
theorem frozen_off (w : World) (a : Addr) (b : Addr) (u : Value) : (w.setCell a u).frozen? b = w.frozen? b := by
  unfold World.setCell World.frozen?
  simp only [Array.getElem?_modify]
  by_cases h : a.block = b.block
  · rw [if_pos h]
    cases w.heap[b.block]? with
    | none => rfl
    | some o => cases o <;> rfl
  · rw [if_neg h]
theorem setCell_comm (w : World) (b i j : Nat) (u v : Value) (h : i ≠ j) : (w.setCell ⟨b, i, none⟩ u).setCell ⟨b, j, none⟩ v = (w.setCell ⟨b, j, none⟩ v).setCell ⟨b, i, none⟩ u := by
  have hh : ((w.setCell ⟨b, i, none⟩ u).setCell ⟨b, j, none⟩ v).heap = ((w.setCell ⟨b, j, none⟩ v).setCell ⟨b, i, none⟩ u).heap := by
    unfold World.setCell
    apply Array.ext_getElem?
    intro k
    simp only [Array.getElem?_modify]
    split
    · cases w.heap[k]? with
      | none => rfl
      | some o => cases o <;> simp [Array.setIfInBounds_comm _ _ h]
    · rfl
  show ({ w with heap := ((w.setCell ⟨b, i, none⟩ u).setCell ⟨b, j, none⟩ v).heap } : World) = { w with heap := ((w.setCell ⟨b, j, none⟩ v).setCell ⟨b, i, none⟩ u).heap }
  rw [hh]
end Go.Proofs.YtfafbojaeedhfaaGreat

namespace Go.Proofs.YtfafbojaeedhfaaGreat
open Go.RowKit F256
set_option linter.unusedVariables false
set_option linter.unusedSimpArgs false
set_option maxHeartbeats 32000000 in
set_option maxRecDepth 20000 in
theorem specAppend_any (d : WorldD) (t : Int) (r : RecD) (cs csr : List Value) (hi : Nat) (w : World) (h : layWorld.rd w hi d cs) (hr : layRec.rd w hi r csr) (hhi : hi ≤ w.heap.size) (hsz : szWorldD d ≤ 1048576) (hsr : szRecD r ≤ 1048576) (ht : -9223372036854775808 ≤ t ∧ t ≤ 9223372036854775807) :
    Calls Tryz.prog 48 #[.agg cs.toArray, .int .i64 t, .agg csr.toArray] w (ResPost (AppAns d t r) w) := by
  have h' := h
  obtain ⟨ao1, cap1, ao2, cap2, ao3, cap3, rfl, g1, g2, g3, k0, k4, k5⟩ := World_rd h'
  obtain ⟨o6, k6, o7, k7, o8, k8, rfl, -⟩ := Rec_rd hr
  have HRD : Hid (layWorld.rd w hi d [.int .i64 (d.shape 0), .int .i64 (d.shape 1), .int .i64 (d.shape 2), .int .i64 (d.shape 3), .int .i64 (d.shape 4), .int .i64 (d.shape 5), .int .i64 (d.shape 6), .int .i64 (d.shape 7), .int .i64 (d.shape 8), .slice ao1 d.groups.1 cap1, .slice ao2 d.on.1 cap2, .slice ao3 d.tapes.1 cap3, .int .i64 d.writes, .int .i64 d.stop, .bool d.down]) := h
  have HRR : Hid (layRec.rd w hi r [.int .i64 r.kind, .int .i64 r.seq, .string r.name, .int .i64 r.length, .int .i64 r.group, .int .i64 r.row, .slice o6 r.rows.1 k6, .slice o7 r.data.1 k7, .slice o8 r.delta.1 k8]) := hr
  have HSZ : Hid (szWorldD d ≤ 1048576) := hsz
  have HSR : Hid (szRecD r ≤ 1048576) := hsr
  have HG3 : Hid ((layTape.slice 96).rd w hi d.tapes [.slice ao3 d.tapes.1 cap3]) := g3
  have hmf : ∀ (fn : Fn) (first cap : Array Value) (w : World), (Instr.makeFunc fn first cap).run Tryz.prog w = .ok (.func fn first cap) w := fun _ _ _ _ => rfl
  clear h h' hr hsz hsr g1 g2 g3 k0 k4 k5 ht
  have T0 := three_newb w #[.int .i64 (d.shape 0), .int .i64 (d.shape 1), .int .i64 (d.shape 2), .int .i64 (d.shape 3), .int .i64 (d.shape 4), .int .i64 (d.shape 5), .int .i64 (d.shape 6), .int .i64 (d.shape 7), .int .i64 (d.shape 8), .slice ao1 d.groups.1 cap1, .slice ao2 d.on.1 cap2, .slice ao3 d.tapes.1 cap3, .int .i64 d.writes, .int .i64 d.stop, .bool d.down] #[.int .i64 r.kind, .int .i64 r.seq, .string r.name, .int .i64 r.length, .int .i64 r.group, .int .i64 r.row, .slice o6 r.rows.1 k6, .slice o7 r.data.1 k7, .slice o8 r.delta.1 k8] #[.int .i64 0, .int .i64 0, .int .i64 0, .int .i64 0, .int .i64 0, .int .i64 0, .int .i64 0, .int .i64 0, .int .i64 0, .int .i64 0, .slice none 0 0, .slice none 0 0, .slice none 0 0, .int .i64 0, .int .i64 0, .bool false] 30 78 34
  go_enter Tryz.func48, Tryz.ntmps48
  go_wp2_with (refine wp_loadBox 30 (.tmp 3) rfl rfl (w.heap.size) rfl (cs := [.int .i64 (d.shape 0), .int .i64 (d.shape 1), .int .i64 (d.shape 2), .int .i64 (d.shape 3), .int .i64 (d.shape 4), .int .i64 (d.shape 5), .int .i64 (d.shape 6), .int .i64 (d.shape 7), .int .i64 (d.shape 8), .slice ao1 d.groups.1 cap1, .slice ao2 d.on.1 cap2, .slice ao3 d.tapes.1 cap3, .int .i64 d.writes, .int .i64 d.stop, .bool d.down]) (T0.b1) Tryz.underlying30 size_W rfl ?_)
  refine (l5Asked_any d _ hi _ (layWorld.rd_below HRD.out T0.bel hhi) (Nat.le_trans hhi T0.bel.size) HSZ.out).mono ?_
  rintro e w1 ⟨x, rfl, hx, b1⟩
  have HT1 : Hid (Three w w1 #[.int .i64 (d.shape 0), .int .i64 (d.shape 1), .int .i64 (d.shape 2), .int .i64 (d.shape 3), .int .i64 (d.shape 4), .int .i64 (d.shape 5), .int .i64 (d.shape 6), .int .i64 (d.shape 7), .int .i64 (d.shape 8), .slice ao1 d.groups.1 cap1, .slice ao2 d.on.1 cap2, .slice ao3 d.tapes.1 cap3, .int .i64 d.writes, .int .i64 d.stop, .bool d.down] #[.int .i64 r.kind, .int .i64 r.seq, .string r.name, .int .i64 r.length, .int .i64 r.group, .int .i64 r.row, .slice o6 r.rows.1 k6, .slice o7 r.data.1 k7, .slice o8 r.delta.1 k8] #[.int .i64 0, .int .i64 0, .int .i64 0, .int .i64 0, .int .i64 0, .int .i64 0, .int .i64 0, .int .i64 0, .int .i64 0, .int .i64 0, .slice none 0 0, .slice none 0 0, .slice none 0 0, .int .i64 0, .int .i64 0, .bool false] 30 78 34) := T0.call b1
  have HX : Hid (AskAns d x) := hx
  have z1 : w.heap.size + 1 + 1 < w1.heap.size := HT1.out.b3.lt
  clear b1 T0 hx
  by_cases hx0 : x = 0
  case neg =>
    have hne : (x != 0) = true := by simp [hx0]
    go_wp2_with (refine wp_storeBox 34 _ _ rfl rfl (w.heap.size + 1 + 1) rfl (cs := [.int .i64 x, .int .i64 0, .int .i64 0, .int .i64 0, .int .i64 0, .int .i64 0, .int .i64 0, .int .i64 0, .int .i64 0, .int .i64 0, .slice none 0 0, .slice none 0 0, .slice none 0 0, .int .i64 0, .int .i64 0, .bool false]) (old := [.int .i64 0, .int .i64 0, .int .i64 0, .int .i64 0, .int .i64 0, .int .i64 0, .int .i64 0, .int .i64 0, .int .i64 0, .int .i64 0, .slice none 0 0, .slice none 0 0, .slice none 0 0, .int .i64 0, .int .i64 0, .bool false]) rfl (HT1.out.b3) size_WR rfl rfl (code_one _ (ask_small HX.out) w) ?_; intro w9 X9 C9 z9)
    refine ret_box Tryz.results48 rfl X9 Tryz.underlying34 size_WR rfl rfl ?_
    exact post_codeR (by omega) (ask_small HX.out) HT1.out.bel C9 (.inl ⟨x, hx0, HX.out, rfl⟩)
  subst hx0
  have HOK : Hid (OkWorld d) := ask_ok HX.out
  skip
  obtain ⟨b, hb⟩ := exB (InP t 0 1)
  have Hb : Hid (b = true ↔ InP t 0 1) := hb
  have CI := fun w' => l1In_b hb w'
  clear hb
  go_wp2_with fail
  refine (CI _).mono ?_
  rintro e w1' ⟨rfl, e1⟩
  obtain rfl := e1.symm
  clear CI 
  cases b with
  | false =>
    go_wp2_with (refine wp_storeBox 34 _ _ rfl rfl (w.heap.size + 1 + 1) rfl (cs := [.int .i64 3, .int .i64 0, .int .i64 0, .int .i64 0, .int .i64 0, .int .i64 0, .int .i64 0, .int .i64 0, .int .i64 0, .int .i64 0, .slice none 0 0, .slice none 0 0, .slice none 0 0, .int .i64 0, .int .i64 0, .bool false]) (old := [.int .i64 0, .int .i64 0, .int .i64 0, .int .i64 0, .int .i64 0, .int .i64 0, .int .i64 0, .int .i64 0, .int .i64 0, .int .i64 0, .slice none 0 0, .slice none 0 0, .slice none 0 0, .int .i64 0, .int .i64 0, .bool false]) rfl (HT1.out.b3) size_WR rfl rfl (code_one _ (by decide) w) ?_; intro w9 X9 C9 z9)
    refine ret_box Tryz.results48 rfl X9 Tryz.underlying34 size_WR rfl rfl ?_
    exact post_codeR (by omega) (by decide) HT1.out.bel C9 (.inr ⟨HX.out, .inl ⟨fun h => (by have := Hb.out.2 h; cases this), rfl⟩⟩)
  | true =>
  have HIN : Hid (InP t 0 1) := Hb.out.1 (by simp)
  have x_0 : w1.cell? ⟨w.heap.size, 0, none⟩ = some (.int .i64 (d.shape 0)) := HT1.out.b1.cell 0
  have x_1 : w1.cell? ⟨w.heap.size, 1, none⟩ = some (.int .i64 (d.shape 1)) := HT1.out.b1.cell 1
  have x_2 : w1.cell? ⟨w.heap.size, 2, none⟩ = some (.int .i64 (d.shape 2)) := HT1.out.b1.cell 2
  have x_3 : w1.cell? ⟨w.heap.size, 3, none⟩ = some (.int .i64 (d.shape 3)) := HT1.out.b1.cell 3
  have x_4 : w1.cell? ⟨w.heap.size, 4, none⟩ = some (.int .i64 (d.shape 4)) := HT1.out.b1.cell 4
  have x_5 : w1.cell? ⟨w.heap.size, 5, none⟩ = some (.int .i64 (d.shape 5)) := HT1.out.b1.cell 5
  have x_6 : w1.cell? ⟨w.heap.size, 6, none⟩ = some (.int .i64 (d.shape 6)) := HT1.out.b1.cell 6
  have x_7 : w1.cell? ⟨w.heap.size, 7, none⟩ = some (.int .i64 (d.shape 7)) := HT1.out.b1.cell 7
  have x_8 : w1.cell? ⟨w.heap.size, 8, none⟩ = some (.int .i64 (d.shape 8)) := HT1.out.b1.cell 8
  have CRF := specRec_any d.shape r [.int .i64 r.kind, .int .i64 r.seq, .string r.name, .int .i64 r.length, .int .i64 r.group, .int .i64 r.row, .slice o6 r.rows.1 k6, .slice o7 r.data.1 k7, .slice o8 r.delta.1 k8] hi w1 (layRec.rd_below HRR.out HT1.out.bel hhi) (Nat.le_trans hhi HT1.out.bel.size) (rec_name HSR.out)
  unfold shapeV at CRF
  go_wp2_with (refine wp_loadBox 78 (.tmp 5) rfl rfl (w.heap.size + 1) rfl (cs := [.int .i64 r.kind, .int .i64 r.seq, .string r.name, .int .i64 r.length, .int .i64 r.group, .int .i64 r.row, .slice o6 r.rows.1 k6, .slice o7 r.data.1 k7, .slice o8 r.delta.1 k8]) (HT1.out.b2) Tryz.underlying78 size_R rfl ?_)
  refine CRF.mono ?_
  rintro e wA ⟨y, rfl, hy, bA⟩
  have HTA : Hid (Three w wA #[.int .i64 (d.shape 0), .int .i64 (d.shape 1), .int .i64 (d.shape 2), .int .i64 (d.shape 3), .int .i64 (d.shape 4), .int .i64 (d.shape 5), .int .i64 (d.shape 6), .int .i64 (d.shape 7), .int .i64 (d.shape 8), .slice ao1 d.groups.1 cap1, .slice ao2 d.on.1 cap2, .slice ao3 d.tapes.1 cap3, .int .i64 d.writes, .int .i64 d.stop, .bool d.down] #[.int .i64 r.kind, .int .i64 r.seq, .string r.name, .int .i64 r.length, .int .i64 r.group, .int .i64 r.row, .slice o6 r.rows.1 k6, .slice o7 r.data.1 k7, .slice o8 r.delta.1 k8] #[.int .i64 0, .int .i64 0, .int .i64 0, .int .i64 0, .int .i64 0, .int .i64 0, .int .i64 0, .int .i64 0, .int .i64 0, .int .i64 0, .slice none 0 0, .slice none 0 0, .slice none 0 0, .int .i64 0, .int .i64 0, .bool false] 30 78 34) := HT1.out.call bA
  have zA : w1.heap.size ≤ wA.heap.size := bA.size
  have HY : Hid (RecAns d.shape r y) := hy
  clear bA CRF hy x_0 x_1 x_2 x_3 x_4 x_5 x_6 x_7 x_8
  by_cases hy0 : y = 0
  case neg =>
    have hne : (y != 0) = true := by simp [hy0]
    go_wp2_with (refine wp_storeBox 34 _ _ rfl rfl (w.heap.size + 1 + 1) rfl (cs := [.int .i64 y, .int .i64 0, .int .i64 0, .int .i64 0, .int .i64 0, .int .i64 0, .int .i64 0, .int .i64 0, .int .i64 0, .int .i64 0, .slice none 0 0, .slice none 0 0, .slice none 0 0, .int .i64 0, .int .i64 0, .bool false]) (old := [.int .i64 0, .int .i64 0, .int .i64 0, .int .i64 0, .int .i64 0, .int .i64 0, .int .i64 0, .int .i64 0, .int .i64 0, .int .i64 0, .slice none 0 0, .slice none 0 0, .slice none 0 0, .int .i64 0, .int .i64 0, .bool false]) rfl (HTA.out.b3) size_WR rfl rfl (code_one _ (rec_wide HY.out) w) ?_; intro w9 X9 C9 z9)
    refine ret_box Tryz.results48 rfl X9 Tryz.underlying34 size_WR rfl rfl ?_
    exact post_codeR (by omega) (rec_wide HY.out) HTA.out.bel C9 (.inr ⟨HX.out, .inr ⟨HIN.out, .inl ⟨y, hy0, HY.out, rfl⟩⟩⟩)
  subst hy0
  obtain ⟨T, rfl, hT, hn⟩ := tape_at2 HOK.out HIN.out
  obtain ⟨_, _, e3, -, hc3⟩ := HG3.out
  cases e3
  obtain ⟨b3, off3, he3, hb3, hel3⟩ := hc3 (by omega)
  subst he3
  obtain ⟨ct, hrt, hct⟩ := elem_rd (t := 0) hel3 HTA.out.bel hhi hb3 hT
  obtain ⟨ap, cp, rfl, -⟩ := Tape_rd hrt
  have xT : wA.cell? ⟨w.heap.size, 11, none⟩ = some (.slice (some ⟨b3, off3, none⟩) d.tapes.1 cap3) := HTA.out.b1.cell 11
  skip
  have xr : wA.cell? ⟨b3, off3 + T * 2 + 1, none⟩ = some (.slice ap (d.tapes.2 T).recs.1 cp) := hct 1 (by decide)
  have i1 : (0 : Int) ≤ (T : Int) := by omega
  have i2 : (T : Int) < (d.tapes.1 : Int) := by omega
  clear hct hrt hel3 hc3
  by_cases hm : (200 : Int) ≤ ((d.tapes.2 T).recs.1 : Int)
  case pos =>
    have HM : Hid (FullP d (T : Int)) := hm
    have dm : decide ((200 : Int) ≤ ((d.tapes.2 T).recs.1 : Int)) = true := decide_eq_true hm
    go_wp2_with (refine wp_storeBox 34 _ _ rfl rfl (w.heap.size + 1 + 1) rfl (cs := [.int .i64 2, .int .i64 0, .int .i64 0, .int .i64 0, .int .i64 0, .int .i64 0, .int .i64 0, .int .i64 0, .int .i64 0, .int .i64 0, .slice none 0 0, .slice none 0 0, .slice none 0 0, .int .i64 0, .int .i64 0, .bool false]) (old := [.int .i64 0, .int .i64 0, .int .i64 0, .int .i64 0, .int .i64 0, .int .i64 0, .int .i64 0, .int .i64 0, .int .i64 0, .int .i64 0, .slice none 0 0, .slice none 0 0, .slice none 0 0, .int .i64 0, .int .i64 0, .bool false]) rfl (HTA.out.b3) size_WR rfl rfl (code_one _ (by decide) w) ?_; intro w9 X9 C9 z9)
    refine ret_box Tryz.results48 rfl X9 Tryz.underlying34 size_WR rfl rfl ?_
    exact post_codeR (by omega) (by decide) HTA.out.bel C9 (.inr ⟨HX.out, .inr ⟨HIN.out, .inr ⟨HY.out, .inl ⟨HM.out, rfl⟩⟩⟩⟩)
  have HM : Hid (¬ FullP d (T : Int)) := hm
  have dm : decide ((200 : Int) ≤ ((d.tapes.2 T).recs.1 : Int)) = false := decide_eq_false hm
  go_wp2_with (refine wp_loadBox 30 (.tmp 3) rfl rfl (w.heap.size) rfl (cs := [.int .i64 (d.shape 0), .int .i64 (d.shape 1), .int .i64 (d.shape 2), .int .i64 (d.shape 3), .int .i64 (d.shape 4), .int .i64 (d.shape 5), .int .i64 (d.shape 6), .int .i64 (d.shape 7), .int .i64 (d.shape 8), .slice ao1 d.groups.1 cap1, .slice ao2 d.on.1 cap2, .slice (some ⟨b3, off3, none⟩) d.tapes.1 cap3, .int .i64 d.writes, .int .i64 d.stop, .bool d.down]) (HTA.out.b1) Tryz.underlying30 size_W rfl ?_)
  refine (l5Copy_is _ d hi _ (layWorld.rd_below HRD.out HTA.out.bel hhi) (Nat.le_trans hhi HTA.out.bel.size) HSZ.out).mono ?_
  rintro e w2 ⟨c2, rfl, o2, b2⟩
  obtain ⟨p1, c1, p2, c2, p3, c3, K1, K2, K3, rfl, WO2⟩ := world_open o2
  have z2 : wA.heap.size ≤ w2.heap.size := b2.size
  go_upto_region 12 with (refine wp_allocStore 30 9 (.tmp 38) [.int .i64 (d.shape 0), .int .i64 (d.shape 1), .int .i64 (d.shape 2), .int .i64 (d.shape 3), .int .i64 (d.shape 4), .int .i64 (d.shape 5), .int .i64 (d.shape 6), .int .i64 (d.shape 7), .int .i64 (d.shape 8), .slice p1 d.groups.1 c1, .slice p2 d.on.1 c2, .slice p3 d.tapes.1 c3, .int .i64 d.writes, .int .i64 d.stop, .bool d.down] _ 15 rfl rfl rfl rfl rfl rfl rfl rfl info_W rfl rfl o2.one ?_)
  have bA : Below w2.heap.size w2 (w2.alloc (.cells #[.int .i64 (d.shape 0), .int .i64 (d.shape 1), .int .i64 (d.shape 2), .int .i64 (d.shape 3), .int .i64 (d.shape 4), .int .i64 (d.shape 5), .int .i64 (d.shape 6), .int .i64 (d.shape 7), .int .i64 (d.shape 8), .slice p1 d.groups.1 c1, .slice p2 d.on.1 c2, .slice p3 d.tapes.1 c3, .int .i64 d.writes, .int .i64 d.stop, .bool d.down] 30)) := (Below.refl _ _).alloc (Nat.le_refl _) _
  have X3 : Box (w2.alloc (.cells #[.int .i64 (d.shape 0), .int .i64 (d.shape 1), .int .i64 (d.shape 2), .int .i64 (d.shape 3), .int .i64 (d.shape 4), .int .i64 (d.shape 5), .int .i64 (d.shape 6), .int .i64 (d.shape 7), .int .i64 (d.shape 8), .slice p1 d.groups.1 c1, .slice p2 d.on.1 c2, .slice p3 d.tapes.1 c3, .int .i64 d.writes, .int .i64 d.stop, .bool d.down] 30)) w2.heap.size #[.int .i64 (d.shape 0), .int .i64 (d.shape 1), .int .i64 (d.shape 2), .int .i64 (d.shape 3), .int .i64 (d.shape 4), .int .i64 (d.shape 5), .int .i64 (d.shape 6), .int .i64 (d.shape 7), .int .i64 (d.shape 8), .slice p1 d.groups.1 c1, .slice p2 d.on.1 c2, .slice p3 d.tapes.1 c3, .int .i64 d.writes, .int .i64 d.stop, .bool d.down] 30 := box_new _ _ _
  obtain ⟨W3, hW3⟩ : ∃ x, x = w2.alloc (.cells #[.int .i64 (d.shape 0), .int .i64 (d.shape 1), .int .i64 (d.shape 2), .int .i64 (d.shape 3), .int .i64 (d.shape 4), .int .i64 (d.shape 5), .int .i64 (d.shape 6), .int .i64 (d.shape 7), .int .i64 (d.shape 8), .slice p1 d.groups.1 c1, .slice p2 d.on.1 c2, .slice p3 d.tapes.1 c3, .int .i64 d.writes, .int .i64 d.stop, .bool d.down] 30) := ⟨_, rfl⟩
  rw [← hW3] at bA X3 ⊢
  have T3 := (HTA.out.call b2).call bA
  have WO := WO2.below bA (Nat.le_refl _)
  have z3 : w2.heap.size < W3.heap.size := X3.lt
  clear bA hW3 o2 b2 WO2
  clear hm dm xT xr
  have hup := ask_up HX.out
  by_cases hf : FailsP d
  · have HF : Hid (FailsP d) := hf
    have CR := l5Raw_fail w2.heap.size _ _ _ _ _ _ _ _ _ _ _ _ _ _ _ _ _ _ _ _ _ W3 X3 hup hf.1 hf.2
    have O3 := own_cut WO.own
    clear hf hup
    go_wp2_with fail
    refine CR.mono ?_
    rintro e w5 ⟨rfl, X5, C5⟩
    have T5 := T3.chgK C5 (fun b hb => by simp at hb; omega)
    have O5 := O3.chgk C5 (fun b hb => by simp at hb; omega)
    have z5 := C5.size
    clear X3 T3 WO O3 C5 CR
    go_wp2_with (first | (refine wp_loadBox 30 (.tmp 9) rfl rfl (w2.heap.size) rfl (cs := [.int .i64 (d.shape 0), .int .i64 (d.shape 1), .int .i64 (d.shape 2), .int .i64 (d.shape 3), .int .i64 (d.shape 4), .int .i64 (d.shape 5), .int .i64 (d.shape 6), .int .i64 (d.shape 7), .int .i64 (d.shape 8), .slice p1 d.groups.1 c1, .slice none 0 0, .slice p3 d.tapes.1 c3, .int .i64 d.writes, .int .i64 d.stop, .bool true]) (X5) Tryz.underlying30 size_W rfl ?_) | (refine wp_storeBox 34 _ _ rfl rfl (w.heap.size + 1 + 1) rfl (cs := [.int .i64 9, .int .i64 (d.shape 0), .int .i64 (d.shape 1), .int .i64 (d.shape 2), .int .i64 (d.shape 3), .int .i64 (d.shape 4), .int .i64 (d.shape 5), .int .i64 (d.shape 6), .int .i64 (d.shape 7), .int .i64 (d.shape 8), .slice p1 d.groups.1 c1, .slice none 0 0, .slice p3 d.tapes.1 c3, .int .i64 d.writes, .int .i64 d.stop, .bool true]) (old := [.int .i64 0, .int .i64 0, .int .i64 0, .int .i64 0, .int .i64 0, .int .i64 0, .int .i64 0, .int .i64 0, .int .i64 0, .int .i64 0, .slice none 0 0, .slice none 0 0, .slice none 0 0, .int .i64 0, .int .i64 0, .bool false]) rfl (T5.b3) size_WR rfl rfl ((own_resOf 9 (by decide) O5).one) ?_; intro w9 X9 C9 z9))
    refine ret_box Tryz.results48 rfl X9 Tryz.underlying34 size_WR rfl rfl ?_
    exact post_worldR (by omega) (by decide) T5.bel C9 O5 (by omega) (by omega) (.inr ⟨HX.out, .inr ⟨HIN.out, .inr ⟨HY.out, .inr ⟨HM.out, .inl ⟨HF.out, rfl⟩⟩⟩⟩⟩)
  have HF : Hid (¬ FailsP d) := hf
  have CR := l5Raw_ok w2.heap.size _ _ _ _ _ _ _ _ _ _ _ _ _ _ _ _ _ _ _ _ _ W3 X3 hup hf (count_in HOK.out)
  clear hf hup
  go_upto_region 13 with fail
  all_goals skip
  refine CR.mono ?_
  rintro e w5 ⟨rfl, X5, C5⟩
  have T5 := T3.chgK C5 (fun b hb => by simp at hb; omega)
  have WO5 := WO.chgn C5 (fun b hb hm => by simp at hb; have := WO.inn b hm; omega)
  have z5 := C5.size
  clear X3 T3 WO C5 CR
  go_upto_region 14 with fail
  have WO0 : WOpen w5.drew wA.heap.size w2.heap.size d _ _ _ K1 K2 K3 := WO5.chgn (K := []) ((ChgL.refl _ _).drew) (fun b hb => by cases hb)
  obtain ⟨gt, cap, ce, Ls, e3, eL, S3⟩ := slice_form WO0.t (by omega)
  simp only [List.cons.injEq, Value.slice.injEq, and_true, true_and] at e3
  obtain ⟨rfl, rfl⟩ := e3
  subst eL
  have nd3 : (gt :: catN d.tapes.1 Ls).Nodup := (List.nodup_append.1 (List.nodup_append.1 WO0.nd).2.1).2.1
  obtain ⟨ao9, cap9, K9, e9, eK9, o9⟩ := Tape_own (S3.each T hT)
  have nd9 : K9.Nodup := by rw [← eK9]; exact catN_each (List.nodup_cons.1 nd3).2 hT
  have in3 : ∀ b, b ∈ gt :: catN d.tapes.1 Ls → wA.heap.size ≤ b ∧ b < w2.heap.size := fun b hb => WO0.inn b (List.mem_append_right _ (List.mem_append_right _ hb))
  have in9 : ∀ b, b ∈ K9 → wA.heap.size ≤ b ∧ b < w2.heap.size := fun b hb => in3 b (SlO.sub T hT b (by rw [eK9]; exact hb))
  have hgt : gt ∉ K9 := fun hb => (List.nodup_cons.1 nd3).1 (mem_catN.2 ⟨T, hT, by rw [eK9]; exact hb⟩)
  have x11 : w5.cell? ⟨w2.heap.size, 11, none⟩ = some (.slice (some ⟨gt, 0, none⟩) d.tapes.1 c3) := X5.cell 11
  have y0 : w5.drew.cell? ⟨gt, T * 2, none⟩ = some (.bool (d.tapes.2 T).wiped) := (S3.cell hT (j := 0) (by decide)).trans (by rw [e9]; rfl)
  have y1 : w5.drew.cell? ⟨gt, T * 2 + 1, none⟩ = some (.slice ao9 (d.tapes.2 T).recs.1 cap9) := (S3.cell hT (j := 1) (by decide)).trans (by rw [e9]; rfl)
  have hgl : gt < w5.drew.heap.size := S3.lt
  have hbl : w2.heap.size < w5.drew.heap.size := X5.lt
  have hql : w.heap.size + 1 < w5.drew.heap.size := T5.b2.lt
  have T5b := T5.b2
  have KS : ∀ w', ChgL K9 w5.drew w' → (w'.cell? ⟨w2.heap.size, 11, none⟩ = some (.slice (some ⟨gt, 0, none⟩) d.tapes.1 c3) ∧ w'.cell? ⟨gt, T * 2 + 1, none⟩ = some (.slice ao9 (d.tapes.2 T).recs.1 cap9) ∧ w'.cell? ⟨w.heap.size + 1, 0, none⟩ = some (.int .i64 r.kind) ∧ w'.cell? ⟨w.heap.size + 1, 1, none⟩ = some (.int .i64 r.seq) ∧ w'.cell? ⟨w.heap.size + 1, 2, none⟩ = some (.string r.name) ∧ w'.cell? ⟨w.heap.size + 1, 3, none⟩ = some (.int .i64 r.length) ∧ w'.cell? ⟨w.heap.size + 1, 4, none⟩ = some (.int .i64 r.group) ∧ w'.cell? ⟨w.heap.size + 1, 5, none⟩ = some (.int .i64 r.row) ∧ w'.cell? ⟨w.heap.size + 1, 6, none⟩ = some (.slice o6 r.rows.1 k6) ∧ w'.cell? ⟨w.heap.size + 1, 7, none⟩ = some (.slice o7 r.data.1 k7) ∧ w'.cell? ⟨w.heap.size + 1, 8, none⟩ = some (.slice o8 r.delta.1 k8)) := fun w' hc => ⟨(World.cell?_of_block (hc.block w2.heap.size hbl (fun hb => by have := in9 _ hb; omega))).trans x11, (World.cell?_of_block (hc.block gt hgl hgt)).trans y1, (World.cell?_of_block (hc.block (w.heap.size + 1) hql (fun hb => by have := in9 _ hb; omega))).trans (T5b.cell 0), (World.cell?_of_block (hc.block (w.heap.size + 1) hql (fun hb => by have := in9 _ hb; omega))).trans (T5b.cell 1), (World.cell?_of_block (hc.block (w.heap.size + 1) hql (fun hb => by have := in9 _ hb; omega))).trans (T5b.cell 2), (World.cell?_of_block (hc.block (w.heap.size + 1) hql (fun hb => by have := in9 _ hb; omega))).trans (T5b.cell 3), (World.cell?_of_block (hc.block (w.heap.size + 1) hql (fun hb => by have := in9 _ hb; omega))).trans (T5b.cell 4), (World.cell?_of_block (hc.block (w.heap.size + 1) hql (fun hb => by have := in9 _ hb; omega))).trans (T5b.cell 5), (World.cell?_of_block (hc.block (w.heap.size + 1) hql (fun hb => by have := in9 _ hb; omega))).trans (T5b.cell 6), (World.cell?_of_block (hc.block (w.heap.size + 1) hql (fun hb => by have := in9 _ hb; omega))).trans (T5b.cell 7), (World.cell?_of_block (hc.block (w.heap.size + 1) hql (fun hb => by have := in9 _ hb; omega))).trans (T5b.cell 8)⟩
  have CC := (l5CopyRec_is [.int .i64 r.kind, .int .i64 r.seq, .string r.name, .int .i64 r.length, .int .i64 r.group, .int .i64 r.row, .slice o6 r.rows.1 k6, .slice o7 r.data.1 k7, .slice o8 r.delta.1 k8] r hi w5.drew (layRec.rd_below (B := w5.heap.size) (layRec.rd_below HRR.out T5.bel hhi) ⟨rfl, rfl, rfl, Nat.le_refl _, fun _ _ => rfl⟩ (Nat.le_trans hhi T5.bel.size)) (Nat.le_trans hhi T5.bel.size) HSR.out).mono (R' := fun e w' => ∃ s6 m6 s7 m7 s8 m8, e = .returned (.agg #[.int .i64 r.kind, .int .i64 r.seq, .string r.name, .int .i64 r.length, .int .i64 r.group, .int .i64 r.row, .slice s6 r.rows.1 m6, .slice s7 r.data.1 m7, .slice s8 r.delta.1 m8]) ∧ OwnT layRec w' w5.drew.heap.size w'.heap.size r [.int .i64 r.kind, .int .i64 r.seq, .string r.name, .int .i64 r.length, .int .i64 r.group, .int .i64 r.row, .slice s6 r.rows.1 m6, .slice s7 r.data.1 m7, .slice s8 r.delta.1 m8] ∧ Below w5.drew.heap.size w5.drew w') (fun e w' ⟨cs', he, o5, b5⟩ => by
    obtain ⟨s6, m6, s7, m7, s8, m8, rfl⟩ := Rec_cellsT o5
    exact ⟨s6, m6, s7, m7, s8, m8, he, o5, b5⟩)
  have AP := fun (W : World) (hW : Below w5.drew.heap.size w5.drew W) (La : List Nat) (cs : List Value) (ha : layRec.own W r cs La) => app_rec o9 nd9 (Nat.le_trans hn (by decide)) hW ha
  have i1 : (0 : Int) ≤ (T : Int) := by omega
  have i2 : (T : Int) < (d.tapes.1 : Int) := by omega
  refine wp_region_L 15 (fun w' => w'.cell? ⟨w2.heap.size, 11, none⟩ = some (.slice (some ⟨gt, 0, none⟩) d.tapes.1 c3) ∧ w'.cell? ⟨gt, T * 2 + 1, none⟩ = some (.slice ao9 (d.tapes.2 T).recs.1 cap9) ∧ w'.cell? ⟨w.heap.size + 1, 0, none⟩ = some (.int .i64 r.kind) ∧ w'.cell? ⟨w.heap.size + 1, 1, none⟩ = some (.int .i64 r.seq) ∧ w'.cell? ⟨w.heap.size + 1, 2, none⟩ = some (.string r.name) ∧ w'.cell? ⟨w.heap.size + 1, 3, none⟩ = some (.int .i64 r.length) ∧ w'.cell? ⟨w.heap.size + 1, 4, none⟩ = some (.int .i64 r.group) ∧ w'.cell? ⟨w.heap.size + 1, 5, none⟩ = some (.int .i64 r.row) ∧ w'.cell? ⟨w.heap.size + 1, 6, none⟩ = some (.slice o6 r.rows.1 k6) ∧ w'.cell? ⟨w.heap.size + 1, 7, none⟩ = some (.slice o7 r.data.1 k7) ∧ w'.cell? ⟨w.heap.size + 1, 8, none⟩ = some (.slice o8 r.delta.1 k8)) (by kernel_rfl) (KS _ (ChgL.refl _ _)) (fun hHeld => ?_)
  refine wpAnyL_take (i := 0) (oi := _) (v := ?_) 16 rfl (by kernel_rfl) (fun _ _ _ h => h) (Or.inl ⟨by rfl, ?_⟩) (by assumption) ?_
  rotate_left
  · intro w' hSw
    try dsimp only at hSw
    obtain ⟨hq0, hq1, hq2, hq3, hq4, hq5, hq6, hq7, hq8, hq9, hq10⟩ := hSw
    go_simp
    try with_reducible rfl
  try simp only [Act.put, List.setIfInBounds_toArray, List.set_cons_zero, List.set_cons_succ]
  refine wpAnyL_take (i := 1) (oi := _) (v := ?_) 16 rfl (by kernel_rfl) (fun _ _ _ h => h) (Or.inl ⟨by rfl, ?_⟩) (by assumption) ?_
  rotate_left
  · intro w' hSw
    try dsimp only at hSw
    obtain ⟨hq0, hq1, hq2, hq3, hq4, hq5, hq6, hq7, hq8, hq9, hq10⟩ := hSw
    go_simp
    try with_reducible rfl
  try simp only [Act.put, List.setIfInBounds_toArray, List.set_cons_zero, List.set_cons_succ]
  refine wpAnyL_take (i := 2) (oi := _) (v := ?_) 16 rfl (by kernel_rfl) (fun _ _ _ h => h) (Or.inl ⟨by rfl, ?_⟩) (by assumption) ?_
  rotate_left
  · intro w' hSw
    try dsimp only at hSw
    obtain ⟨hq0, hq1, hq2, hq3, hq4, hq5, hq6, hq7, hq8, hq9, hq10⟩ := hSw
    go_simp
    try with_reducible rfl
  try simp only [Act.put, List.setIfInBounds_toArray, List.set_cons_zero, List.set_cons_succ]
  refine wpAnyL_take (i := 3) (oi := _) (v := ?_) 16 rfl (by kernel_rfl) (fun _ _ _ h => h) (Or.inl ⟨by rfl, ?_⟩) (by assumption) ?_
  rotate_left
  · intro w' hSw
    try dsimp only at hSw
    obtain ⟨hq0, hq1, hq2, hq3, hq4, hq5, hq6, hq7, hq8, hq9, hq10⟩ := hSw
    go_simp
    try with_reducible rfl
  try simp only [Act.put, List.setIfInBounds_toArray, List.set_cons_zero, List.set_cons_succ]
  refine wpAnyL_take (i := 4) (oi := _) (v := ?_) 16 rfl (by kernel_rfl) (fun _ _ _ h => h) (Or.inl ⟨by rfl, ?_⟩) (by assumption) ?_
  rotate_left
  · intro w' hSw
    try dsimp only at hSw
    obtain ⟨hq0, hq1, hq2, hq3, hq4, hq5, hq6, hq7, hq8, hq9, hq10⟩ := hSw
    go_simp
    try with_reducible rfl
  try simp only [Act.put, List.setIfInBounds_toArray, List.set_cons_zero, List.set_cons_succ]
  refine wpAnyL_take (i := 5) (oi := _) (v := ?_) 16 rfl (by kernel_rfl) (fun _ _ _ h => h) (Or.inl ⟨by rfl, ?_⟩) (by assumption) ?_
  rotate_left
  · intro w' hSw
    try dsimp only at hSw
    obtain ⟨hq0, hq1, hq2, hq3, hq4, hq5, hq6, hq7, hq8, hq9, hq10⟩ := hSw
    go_simp
    try with_reducible rfl
  try simp only [Act.put, List.setIfInBounds_toArray, List.set_cons_zero, List.set_cons_succ]
  refine wpAnyL_take (i := 6) (oi := _) (v := ?_) 16 rfl (by kernel_rfl) (fun _ _ _ h => h) (Or.inl ⟨by rfl, ?_⟩) (by assumption) ?_
  rotate_left
  · intro w' hSw
    try dsimp only at hSw
    obtain ⟨hq0, hq1, hq2, hq3, hq4, hq5, hq6, hq7, hq8, hq9, hq10⟩ := hSw
    go_simp
    try with_reducible rfl
  try simp only [Act.put, List.setIfInBounds_toArray, List.set_cons_zero, List.set_cons_succ]
  refine wpAnyL_take (i := 7) (oi := _) (v := ?_) 16 rfl (by kernel_rfl) (fun _ _ _ h => h) (Or.inl ⟨by rfl, ?_⟩) (by assumption) ?_
  rotate_left
  · intro w' hSw
    try dsimp only at hSw
    obtain ⟨hq0, hq1, hq2, hq3, hq4, hq5, hq6, hq7, hq8, hq9, hq10⟩ := hSw
    go_simp
    try with_reducible rfl
  try simp only [Act.put, List.setIfInBounds_toArray, List.set_cons_zero, List.set_cons_succ]
  refine wpAnyL_take (i := 8) (oi := _) (v := ?_) 16 rfl (by kernel_rfl) (fun _ _ _ h => h) (Or.inl ⟨by rfl, ?_⟩) (by assumption) ?_
  rotate_left
  · intro w' hSw
    try dsimp only at hSw
    obtain ⟨hq0, hq1, hq2, hq3, hq4, hq5, hq6, hq7, hq8, hq9, hq10⟩ := hSw
    go_simp
    try with_reducible rfl
  try simp only [Act.put, List.setIfInBounds_toArray, List.set_cons_zero, List.set_cons_succ]
  refine wpAnyL_take (i := 9) (oi := _) (v := ?_) 16 rfl (by kernel_rfl) (fun _ _ _ h => h) (Or.inl ⟨by rfl, ?_⟩) (by assumption) ?_
  rotate_left
  · intro w' hSw
    try dsimp only at hSw
    obtain ⟨hq0, hq1, hq2, hq3, hq4, hq5, hq6, hq7, hq8, hq9, hq10⟩ := hSw
    go_simp
    try with_reducible rfl
  try simp only [Act.put, List.setIfInBounds_toArray, List.set_cons_zero, List.set_cons_succ]
  refine wpAnyL_one (i := 10) (o := _) rfl (by kernel_rfl) (fun KC hKC => ?_)
  refine step_call rfl 126 _ _ rfl #[.agg #[.int .i64 r.kind, .int .i64 r.seq, .string r.name, .int .i64 r.length, .int .i64 r.group, .int .i64 r.row, .slice o6 r.rows.1 k6, .slice o7 r.data.1 k7, .slice o8 r.delta.1 k8]] ?_ Tryz.func126 (by kernel_rfl) (by kernel_rfl) CC ?_; (simp [Act.eval, Act.put]); rintro ee w5a ⟨s6, m6, s7, m7, s8, m8, rfl, o5, b5⟩; have k5 := KS w5a (ChgL.of_below b5); have bA : Below w5a.heap.size w5a (w5a.alloc (.cells #[.int .i64 r.kind, .int .i64 r.seq, .string r.name, .int .i64 r.length, .int .i64 r.group, .int .i64 r.row, .slice s6 r.rows.1 m6, .slice s7 r.data.1 m7, .slice s8 r.delta.1 m8] 78)) := (Below.refl _ _).alloc (Nat.le_refl _) _; have kA := KS _ (ChgL.of_below (b5.trans (bA.mono b5.size))); obtain ⟨La, a1, a2, a3⟩ := o5; have e1 : Below w5.drew.heap.size w5.drew (w5a.alloc (.cells #[.int .i64 r.kind, .int .i64 r.seq, .string r.name, .int .i64 r.length, .int .i64 r.group, .int .i64 r.row, .slice s6 r.rows.1 m6, .slice s7 r.data.1 m7, .slice s8 r.delta.1 m8] 78)) := b5.trans (bA.mono b5.size); have e2 : layRec.own (w5a.alloc (.cells #[.int .i64 r.kind, .int .i64 r.seq, .string r.name, .int .i64 r.length, .int .i64 r.group, .int .i64 r.row, .slice s6 r.rows.1 m6, .slice s7 r.data.1 m7, .slice s8 r.delta.1 m8] 78)) r [.int .i64 r.kind, .int .i64 r.seq, .string r.name, .int .i64 r.length, .int .i64 r.group, .int .i64 r.row, .slice s6 r.rows.1 m6, .slice s7 r.data.1 m7, .slice s8 r.delta.1 m8] La := layRec.own_kept a1 (fun b hb => bA.block b (a3 b hb).2); have e3 : ∀ b, b ∈ La → w5.drew.heap.size ≤ b := fun b hb => (a3 b hb).1; have e4 := cells_new w5a [.int .i64 r.kind, .int .i64 r.seq, .string r.name, .int .i64 r.length, .int .i64 r.group, .int .i64 r.row, .slice s6 r.rows.1 m6, .slice s7 r.data.1 m7, .slice s8 r.delta.1 m8] 78; have e5 := AP (w5a.alloc (.cells #[.int .i64 r.kind, .int .i64 r.seq, .string r.name, .int .i64 r.length, .int .i64 r.group, .int .i64 r.row, .slice s6 r.rows.1 m6, .slice s7 r.data.1 m7, .slice s8 r.delta.1 m8] 78)) e1 La [.int .i64 r.kind, .int .i64 r.seq, .string r.name, .int .i64 r.length, .int .i64 r.group, .int .i64 r.row, .slice s6 r.rows.1 m6, .slice s7 r.data.1 m7, .slice s8 r.delta.1 m8] e2 a2 e3 w5a.heap.size e4; clear e1 e2 e3 e4; obtain ⟨s9, m9, w6, L', hrun, TT⟩ := e5; have k6' := KS w6 TT.chg; have f0 : w6.frozen? ⟨gt, T * 2, none⟩ = false := (World.frozen?_of_block (a := ⟨gt, T * 2, none⟩) (TT.chg.block gt S3.lt hgt)).trans (S3.frozen _); have f1 : w6.frozen? ⟨gt, T * 2 + 1, none⟩ = false := (World.frozen?_of_block (a := ⟨gt, T * 2 + 1, none⟩) (TT.chg.block gt S3.lt hgt)).trans (S3.frozen _); have t0 : w6.cell? ⟨gt, T * 2, none⟩ = some (.bool (d.tapes.2 T).wiped) := (World.cell?_of_block (a := ⟨gt, T * 2, none⟩) (TT.chg.block gt S3.lt hgt)).trans y0; have t1 : w6.cell? ⟨gt, T * 2 + 1, none⟩ = some (.slice ao9 (d.tapes.2 T).recs.1 cap9) := k6'.2.1; refine ⟨_, rfl, ?_⟩
  refine hKC.out _ _ (k5) (fun hHeld => ?_)
  clear hKC KC
  try simp only [Act.put, List.setIfInBounds_toArray, List.set_cons_zero, List.set_cons_succ]
  refine wpAnyL_one (i := 11) (o := _) rfl (by kernel_rfl) (fun KC hKC => ?_)
  go_simp
  refine hKC.out _ _ (kA) (fun hHeld => ?_)
  clear hKC KC
  try simp only [Act.put, List.setIfInBounds_toArray, List.set_cons_zero, List.set_cons_succ]
  refine wpAnyL_one (i := 12) (o := _) rfl (by kernel_rfl) (fun KC hKC => ?_)
  refine step_run2 rfl (.tmp 51) (.tmp 54) rfl ?_ ?_ hrun ?_; (simp [Act.eval, Act.put]); (simp [Act.eval, Act.put])
  refine hKC.out _ _ (k6') (fun hHeld => ?_)
  clear hKC KC
  try simp only [Act.put, List.setIfInBounds_toArray, List.set_cons_zero, List.set_cons_succ]
  refine wpAnyL_take (i := 13) (oi := _) (v := ?_) 16 rfl (by kernel_rfl) (fun _ _ _ h => h) (Or.inl ⟨by rfl, ?_⟩) (by assumption) ?_
  rotate_left
  · intro w' hSw
    try dsimp only at hSw
    obtain ⟨hq0, hq1, hq2, hq3, hq4, hq5, hq6, hq7, hq8, hq9, hq10⟩ := hSw
    go_simp
    try with_reducible rfl
  try simp only [Act.put, List.setIfInBounds_toArray, List.set_cons_zero, List.set_cons_succ]
  refine wpAnyL_take (i := 14) (oi := _) (v := ?_) 16 rfl (by kernel_rfl) (fun _ _ _ h => h) (Or.inl ⟨by rfl, ?_⟩) (by assumption) ?_
  rotate_left
  · intro w' hSw
    try dsimp only at hSw
    obtain ⟨hq0, hq1, hq2, hq3, hq4, hq5, hq6, hq7, hq8, hq9, hq10⟩ := hSw
    go_simp
    try with_reducible rfl
  try simp only [Act.put, List.setIfInBounds_toArray, List.set_cons_zero, List.set_cons_succ]
  refine wpAnyL_last (o := _) rfl (by kernel_rfl) (fun KC hKC => ?_)
  go_simp
  refine hKC.out _ _ ?_
  clear hKC KC
  try simp only [Act.put, List.setIfInBounds_toArray, List.set_cons_zero, List.set_cons_succ]
  refine wpAnyL_done (by kernel_rfl) ?_ _
  have TK : Turn layTape w5.drew (Ls T) w6 (laidT (d.tapes.2 T) r) [.bool false, (.slice s9 ((d.tapes.2 T).recs.1 + 1) m9)] L' := by
    rw [eK9]
    exact ⟨Tape_mk (laidT (d.tapes.2 T) r) TT.own, TT.nd, TT.sub, TT.chg⟩
  have T7 := S3.turn_at nd3 hT TK (w' := (stN w6 gt (T * layTape.sz) [.bool false, (.slice s9 ((d.tapes.2 T).recs.1 + 1) m9)])) rfl
  have WO7 := WO0.tapes (by omega) (by omega) T7
  have X7 := X5.drew.chgl T7.chg (fun hb => by have := in3 _ hb; omega)
  have T5d : Three w w5.drew #[.int .i64 (d.shape 0), .int .i64 (d.shape 1), .int .i64 (d.shape 2), .int .i64 (d.shape 3), .int .i64 (d.shape 4), .int .i64 (d.shape 5), .int .i64 (d.shape 6), .int .i64 (d.shape 7), .int .i64 (d.shape 8), .slice ao1 d.groups.1 cap1, .slice ao2 d.on.1 cap2, .slice (some ⟨b3, off3, none⟩) d.tapes.1 cap3, .int .i64 d.writes, .int .i64 d.stop, .bool d.down] #[.int .i64 r.kind, .int .i64 r.seq, .string r.name, .int .i64 r.length, .int .i64 r.group, .int .i64 r.row, .slice o6 r.rows.1 k6, .slice o7 r.data.1 k7, .slice o8 r.delta.1 k8] #[.int .i64 0, .int .i64 0, .int .i64 0, .int .i64 0, .int .i64 0, .int .i64 0, .int .i64 0, .int .i64 0, .int .i64 0, .int .i64 0, .slice none 0 0, .slice none 0 0, .slice none 0 0, .int .i64 0, .int .i64 0, .bool false] 30 78 34 := T5.chgK ((ChgL.refl [] _).drew) (fun b hb => by cases hb)
  have TW7 := T5d.chgK T7.chg (fun b hb => by have := in3 _ hb; omega)
  have O7 : OwnT layWorld (stN w6 gt (T * layTape.sz) [.bool false, (.slice s9 ((d.tapes.2 T).recs.1 + 1) m9)]) wA.heap.size (stN w6 gt (T * layTape.sz) [.bool false, (.slice s9 ((d.tapes.2 T).recs.1 + 1) m9)]).heap.size (laidW d T r) [.int .i64 (d.shape 0), .int .i64 (d.shape 1), .int .i64 (d.shape 2), .int .i64 (d.shape 3), .int .i64 (d.shape 4), .int .i64 (d.shape 5), .int .i64 (d.shape 6), .int .i64 (d.shape 7), .int .i64 (d.shape 8), .slice p1 d.groups.1 c1, .slice p2 d.on.1 c2, .slice (some ⟨gt, 0, none⟩) d.tapes.1 c3, .int .i64 (d.writes + 1), .int .i64 d.stop, .bool d.down] := (WO7.writes (d.writes + 1) (by have := count_in HOK.out; omega)).own
  have in0 : gt ≠ w2.heap.size := fun h => by have := in3 gt (List.mem_cons_self ..); omega
  have x11' : (w6.setCell ⟨gt, T * 2 + 1, none⟩ (.slice s9 ((d.tapes.2 T).recs.1 + 1) m9)).cell? ⟨w2.heap.size, 11, none⟩ = some (.slice (some ⟨gt, 0, none⟩) d.tapes.1 c3) := (World.cell?_of_block (heap_setCell_other w6 _ _ _ (fun h => in0 h.symm))).trans k6'.1
  have y0' : (w6.setCell ⟨gt, T * 2 + 1, none⟩ (.slice s9 ((d.tapes.2 T).recs.1 + 1) m9)).cell? ⟨gt, T * 2, none⟩ = some (.bool (d.tapes.2 T).wiped) := (cell_off w6 gt (T * 2 + 1) (T * 2) _ (by omega)).trans t0
  have f0' : (w6.setCell ⟨gt, T * 2 + 1, none⟩ (.slice s9 ((d.tapes.2 T).recs.1 + 1) m9)).frozen? ⟨gt, T * 2, none⟩ = false := (frozen_off w6 _ _ _).trans f0
  have e8 : (w6.setCell ⟨gt, T * 2 + 1, none⟩ (.slice s9 ((d.tapes.2 T).recs.1 + 1) m9)).setCell ⟨gt, T * 2, none⟩ (.bool false) = (stN w6 gt (T * layTape.sz) [.bool false, (.slice s9 ((d.tapes.2 T).recs.1 + 1) m9)]) := setCell_comm w6 gt (T * 2 + 1) (T * 2) _ _ (by omega)
  clear WO7 T7 TK TT WO5 WO0 S3 nd3 e9 eK9 o9 X5 T5 T5d KS CC AP k5 kA k6' hrun nd9 T5b t0 t1 f0 f1 y0 y1
  obtain ⟨W8, hW8⟩ : ∃ x, x = (w6.setCell ⟨gt, T * 2 + 1, none⟩ (.slice s9 ((d.tapes.2 T).recs.1 + 1) m9)) := ⟨_, rfl⟩
  obtain ⟨W7, hW7⟩ : ∃ x, x = (stN w6 gt (T * layTape.sz) [.bool false, (.slice s9 ((d.tapes.2 T).recs.1 + 1) m9)]) := ⟨_, rfl⟩
  rw [← hW8] at x11' y0' f0' e8 ⊢
  rw [← hW7] at X7 TW7 O7 e8
  clear hW8 hW7
  go_upto_region 16 with fail
  clear x11' y0' f0' e8
  go_wp2_with (first | (refine wp_loadBox 30 (.tmp 9) rfl rfl (w2.heap.size) rfl (cs := [.int .i64 (d.shape 0), .int .i64 (d.shape 1), .int .i64 (d.shape 2), .int .i64 (d.shape 3), .int .i64 (d.shape 4), .int .i64 (d.shape 5), .int .i64 (d.shape 6), .int .i64 (d.shape 7), .int .i64 (d.shape 8), .slice p1 d.groups.1 c1, .slice p2 d.on.1 c2, .slice (some ⟨gt, 0, none⟩) d.tapes.1 c3, .int .i64 (d.writes + 1), .int .i64 d.stop, .bool d.down]) (X7) Tryz.underlying30 size_W rfl ?_) | (refine wp_storeBox 34 _ _ rfl rfl (w.heap.size + 1 + 1) rfl (cs := [.int .i64 0, .int .i64 (d.shape 0), .int .i64 (d.shape 1), .int .i64 (d.shape 2), .int .i64 (d.shape 3), .int .i64 (d.shape 4), .int .i64 (d.shape 5), .int .i64 (d.shape 6), .int .i64 (d.shape 7), .int .i64 (d.shape 8), .slice p1 d.groups.1 c1, .slice p2 d.on.1 c2, .slice (some ⟨gt, 0, none⟩) d.tapes.1 c3, .int .i64 (d.writes + 1), .int .i64 d.stop, .bool d.down]) (old := [.int .i64 0, .int .i64 0, .int .i64 0, .int .i64 0, .int .i64 0, .int .i64 0, .int .i64 0, .int .i64 0, .int .i64 0, .int .i64 0, .slice none 0 0, .slice none 0 0, .slice none 0 0, .int .i64 0, .int .i64 0, .bool false]) rfl (TW7.b3) size_WR rfl rfl ((own_resOf 0 (by decide) O7).one) ?_; intro w9 X9 C9 z9))
  refine ret_box Tryz.results48 rfl X9 Tryz.underlying34 size_WR rfl rfl ?_
  exact post_worldR (by omega) (by decide) TW7.bel C9 O7 (by omega) (by omega) (.inr ⟨HX.out, .inr ⟨HIN.out, .inr ⟨HY.out, .inr ⟨HM.out, .inr ⟨HF.out, rfl⟩⟩⟩⟩⟩)
end Go.Proofs.YtfafbojaeedhfaaGreat

namespace Go.Proofs.YtfafbojaeedhfaaGreat
open Go.RowKit F256
set_option linter.unusedVariables false
set_option linter.unusedSimpArgs false
/-- a world's box, a number's, a struct's, the result's -/
structure CapS (w wc : World) (c1 : Array Value) (x : Int) (c3 c4 : Array Value) (t1 t3 t4 : TypeId) : Prop where
  b1 : Box wc w.heap.size c1 t1
  b2 : Box wc (w.heap.size + 1) #[.int .i64 x] 2
  b3 : Box wc (w.heap.size + 1 + 1) c3 t3
  b4 : Box wc (w.heap.size + 1 + 1 + 1) c4 t4
  bel : Below w.heap.size w wc
theorem capS_new (w : World) (c1 c3 c4 : Array Value) (x : Int) (t1 t3 t4 : TypeId) : CapS w ((((w.alloc (.cells c1 t1)).alloc (.cells #[.int .i64 x] 2)).alloc (.cells c3 t3)).alloc (.cells c4 t4)) c1 x c3 c4 t1 t3 t4 := by
  have A := two_newb w c1 #[.int .i64 x] t1 2
  have B := two_newb ((w.alloc (.cells c1 t1)).alloc (.cells #[.int .i64 x] 2)) c3 c4 t3 t4
  have e : ((w.alloc (.cells c1 t1)).alloc (.cells #[.int .i64 x] 2)).heap.size = w.heap.size + 1 + 1 := by simp
  have A' := A.call B.bel
  obtain ⟨B1, B2, _⟩ := B
  rw [e] at B1 B2
  exact ⟨A'.b1, A'.b2, B1, B2, A'.bel⟩
theorem CapS.call {w wc w' : World} {c1 c3 c4 : Array Value} {x : Int} {t1 t3 t4 : TypeId} (h : CapS w wc c1 x c3 c4 t1 t3 t4) (hb : Below wc.heap.size wc w') : CapS w w' c1 x c3 c4 t1 t3 t4 := ⟨h.b1.call hb, h.b2.call hb, h.b3.call hb, h.b4.call hb, h.bel.trans (hb.mono h.bel.size)⟩
set_option maxHeartbeats 32000000 in
set_option maxRecDepth 20000 in
theorem implAppend_any (d : WorldD) (t : Int) (r : RecD) (cs csr : List Value) (hi : Nat) (w : World) (h : layWorld.rd w hi d cs) (hr : layRec.rd w hi r csr) (hhi : hi ≤ w.heap.size) (hsz : szWorldD d ≤ 1048576) (hsr : szRecD r ≤ 1048576) (ht : -9223372036854775808 ≤ t ∧ t ≤ 9223372036854775807) :
    Calls Tryz.prog 50 #[.agg cs.toArray, .int .i64 t, .agg csr.toArray] w (ResPost (AppAns d t r) w) := by
  have h' := h
  obtain ⟨ao1, cap1, ao2, cap2, ao3, cap3, rfl, g1, g2, g3, k0, k4, k5⟩ := World_rd h'
  obtain ⟨o6, k6, o7, k7, o8, k8, rfl, -⟩ := Rec_rd hr
  have HRD : Hid (layWorld.rd w hi d [.int .i64 (d.shape 0), .int .i64 (d.shape 1), .int .i64 (d.shape 2), .int .i64 (d.shape 3), .int .i64 (d.shape 4), .int .i64 (d.shape 5), .int .i64 (d.shape 6), .int .i64 (d.shape 7), .int .i64 (d.shape 8), .slice ao1 d.groups.1 cap1, .slice ao2 d.on.1 cap2, .slice ao3 d.tapes.1 cap3, .int .i64 d.writes, .int .i64 d.stop, .bool d.down]) := h
  have HRR : Hid (layRec.rd w hi r [.int .i64 r.kind, .int .i64 r.seq, .string r.name, .int .i64 r.length, .int .i64 r.group, .int .i64 r.row, .slice o6 r.rows.1 k6, .slice o7 r.data.1 k7, .slice o8 r.delta.1 k8]) := hr
  have HSZ : Hid (szWorldD d ≤ 1048576) := hsz
  have HSR : Hid (szRecD r ≤ 1048576) := hsr
  have HG3 : Hid ((layTape.slice 96).rd w hi d.tapes [.slice ao3 d.tapes.1 cap3]) := g3
  have hmf : ∀ (fn : Fn) (first cap : Array Value) (w : World), (Instr.makeFunc fn first cap).run Tryz.prog w = .ok (.func fn first cap) w := fun _ _ _ _ => rfl
  clear h h' hr hsz hsr g1 g2 g3 k0 k4 k5 ht
  have T0 := capS_new w #[.int .i64 (d.shape 0), .int .i64 (d.shape 1), .int .i64 (d.shape 2), .int .i64 (d.shape 3), .int .i64 (d.shape 4), .int .i64 (d.shape 5), .int .i64 (d.shape 6), .int .i64 (d.shape 7), .int .i64 (d.shape 8), .slice ao1 d.groups.1 cap1, .slice ao2 d.on.1 cap2, .slice ao3 d.tapes.1 cap3, .int .i64 d.writes, .int .i64 d.stop, .bool d.down] #[.int .i64 r.kind, .int .i64 r.seq, .string r.name, .int .i64 r.length, .int .i64 r.group, .int .i64 r.row, .slice o6 r.rows.1 k6, .slice o7 r.data.1 k7, .slice o8 r.delta.1 k8] #[.int .i64 0, .int .i64 0, .int .i64 0, .int .i64 0, .int .i64 0, .int .i64 0, .int .i64 0, .int .i64 0, .int .i64 0, .int .i64 0, .slice none 0 0, .slice none 0 0, .slice none 0 0, .int .i64 0, .int .i64 0, .bool false] t 30 78 34
  go_enter Tryz.func50, Tryz.ntmps50
  go_wp2_with (refine wp_loadBox 30 (.tmp 3) rfl rfl (w.heap.size) rfl (cs := [.int .i64 (d.shape 0), .int .i64 (d.shape 1), .int .i64 (d.shape 2), .int .i64 (d.shape 3), .int .i64 (d.shape 4), .int .i64 (d.shape 5), .int .i64 (d.shape 6), .int .i64 (d.shape 7), .int .i64 (d.shape 8), .slice ao1 d.groups.1 cap1, .slice ao2 d.on.1 cap2, .slice ao3 d.tapes.1 cap3, .int .i64 d.writes, .int .i64 d.stop, .bool d.down]) (T0.b1) Tryz.underlying30 size_W rfl ?_)
  refine (powered_any d _ hi _ (layWorld.rd_below HRD.out T0.bel hhi) (Nat.le_trans hhi T0.bel.size) HSZ.out).mono ?_
  rintro e w1 ⟨x, rfl, hx, b1⟩
  have HT1 : Hid (CapS w w1 #[.int .i64 (d.shape 0), .int .i64 (d.shape 1), .int .i64 (d.shape 2), .int .i64 (d.shape 3), .int .i64 (d.shape 4), .int .i64 (d.shape 5), .int .i64 (d.shape 6), .int .i64 (d.shape 7), .int .i64 (d.shape 8), .slice ao1 d.groups.1 cap1, .slice ao2 d.on.1 cap2, .slice ao3 d.tapes.1 cap3, .int .i64 d.writes, .int .i64 d.stop, .bool d.down] t #[.int .i64 r.kind, .int .i64 r.seq, .string r.name, .int .i64 r.length, .int .i64 r.group, .int .i64 r.row, .slice o6 r.rows.1 k6, .slice o7 r.data.1 k7, .slice o8 r.delta.1 k8] #[.int .i64 0, .int .i64 0, .int .i64 0, .int .i64 0, .int .i64 0, .int .i64 0, .int .i64 0, .int .i64 0, .int .i64 0, .int .i64 0, .slice none 0 0, .slice none 0 0, .slice none 0 0, .int .i64 0, .int .i64 0, .bool false] 30 78 34) := T0.call b1
  have HX : Hid (AskAns d x) := hx
  have z1 : w.heap.size + 1 + 1 + 1 < w1.heap.size := HT1.out.b4.lt
  clear b1 T0 hx
  by_cases hx0 : x = 0
  case neg =>
    have hne : (x != 0) = true := by simp [hx0]
    go_wp2_with (refine wp_storeBox 34 _ _ rfl rfl (w.heap.size + 1 + 1 + 1) rfl (cs := [.int .i64 x, .int .i64 0, .int .i64 0, .int .i64 0, .int .i64 0, .int .i64 0, .int .i64 0, .int .i64 0, .int .i64 0, .int .i64 0, .slice none 0 0, .slice none 0 0, .slice none 0 0, .int .i64 0, .int .i64 0, .bool false]) (old := [.int .i64 0, .int .i64 0, .int .i64 0, .int .i64 0, .int .i64 0, .int .i64 0, .int .i64 0, .int .i64 0, .int .i64 0, .int .i64 0, .slice none 0 0, .slice none 0 0, .slice none 0 0, .int .i64 0, .int .i64 0, .bool false]) rfl (HT1.out.b4) size_WR rfl rfl (code_one _ (ask_small HX.out) w) ?_; intro w9 X9 C9 z9)
    refine ret_box Tryz.results50 rfl X9 Tryz.underlying34 size_WR rfl rfl ?_
    exact post_codeR (by omega) (ask_small HX.out) HT1.out.bel C9 (.inl ⟨x, hx0, HX.out, rfl⟩)
  subst hx0
  have HOK : Hid (OkWorld d) := ask_ok HX.out
  have xt : w1.cell? ⟨w.heap.size + 1, 0, none⟩ = some (.int .i64 t) := HT1.out.b2.cell 0
  obtain ⟨b, hb⟩ := exB (InP t 0 1)
  have Hb : Hid (b = true ↔ InP t 0 1) := hb
  have CI := fun w' => isTape_c hb w'
  clear hb
  go_wp2_with fail
  refine (CI _).mono ?_
  rintro e w1' ⟨rfl, e1⟩
  obtain rfl := e1.symm
  clear CI xt
  cases b with
  | false =>
    go_wp2_with (refine wp_storeBox 34 _ _ rfl rfl (w.heap.size + 1 + 1 + 1) rfl (cs := [.int .i64 3, .int .i64 0, .int .i64 0, .int .i64 0, .int .i64 0, .int .i64 0, .int .i64 0, .int .i64 0, .int .i64 0, .int .i64 0, .slice none 0 0, .slice none 0 0, .slice none 0 0, .int .i64 0, .int .i64 0, .bool false]) (old := [.int .i64 0, .int .i64 0, .int .i64 0, .int .i64 0, .int .i64 0, .int .i64 0, .int .i64 0, .int .i64 0, .int .i64 0, .int .i64 0, .slice none 0 0, .slice none 0 0, .slice none 0 0, .int .i64 0, .int .i64 0, .bool false]) rfl (HT1.out.b4) size_WR rfl rfl (code_one _ (by decide) w) ?_; intro w9 X9 C9 z9)
    refine ret_box Tryz.results50 rfl X9 Tryz.underlying34 size_WR rfl rfl ?_
    exact post_codeR (by omega) (by decide) HT1.out.bel C9 (.inr ⟨HX.out, .inl ⟨fun h => (by have := Hb.out.2 h; cases this), rfl⟩⟩)
  | true =>
  have HIN : Hid (InP t 0 1) := Hb.out.1 (by simp)
  have x_0 : w1.cell? ⟨w.heap.size, 0, none⟩ = some (.int .i64 (d.shape 0)) := HT1.out.b1.cell 0
  have x_1 : w1.cell? ⟨w.heap.size, 1, none⟩ = some (.int .i64 (d.shape 1)) := HT1.out.b1.cell 1
  have x_2 : w1.cell? ⟨w.heap.size, 2, none⟩ = some (.int .i64 (d.shape 2)) := HT1.out.b1.cell 2
  have x_3 : w1.cell? ⟨w.heap.size, 3, none⟩ = some (.int .i64 (d.shape 3)) := HT1.out.b1.cell 3
  have x_4 : w1.cell? ⟨w.heap.size, 4, none⟩ = some (.int .i64 (d.shape 4)) := HT1.out.b1.cell 4
  have x_5 : w1.cell? ⟨w.heap.size, 5, none⟩ = some (.int .i64 (d.shape 5)) := HT1.out.b1.cell 5
  have x_6 : w1.cell? ⟨w.heap.size, 6, none⟩ = some (.int .i64 (d.shape 6)) := HT1.out.b1.cell 6
  have x_7 : w1.cell? ⟨w.heap.size, 7, none⟩ = some (.int .i64 (d.shape 7)) := HT1.out.b1.cell 7
  have x_8 : w1.cell? ⟨w.heap.size, 8, none⟩ = some (.int .i64 (d.shape 8)) := HT1.out.b1.cell 8
  have CRF := implRec_any d.shape r [.int .i64 r.kind, .int .i64 r.seq, .string r.name, .int .i64 r.length, .int .i64 r.group, .int .i64 r.row, .slice o6 r.rows.1 k6, .slice o7 r.data.1 k7, .slice o8 r.delta.1 k8] hi w1 (layRec.rd_below HRR.out HT1.out.bel hhi) (Nat.le_trans hhi HT1.out.bel.size) (rec_name HSR.out)
  unfold shapeV at CRF
  go_wp2_with (refine wp_loadBox 78 (.tmp 5) rfl rfl (w.heap.size + 1 + 1) rfl (cs := [.int .i64 r.kind, .int .i64 r.seq, .string r.name, .int .i64 r.length, .int .i64 r.group, .int .i64 r.row, .slice o6 r.rows.1 k6, .slice o7 r.data.1 k7, .slice o8 r.delta.1 k8]) (HT1.out.b3) Tryz.underlying78 size_R rfl ?_)
  refine CRF.mono ?_
  rintro e wA ⟨y, rfl, hy, bA⟩
  have HTA : Hid (CapS w wA #[.int .i64 (d.shape 0), .int .i64 (d.shape 1), .int .i64 (d.shape 2), .int .i64 (d.shape 3), .int .i64 (d.shape 4), .int .i64 (d.shape 5), .int .i64 (d.shape 6), .int .i64 (d.shape 7), .int .i64 (d.shape 8), .slice ao1 d.groups.1 cap1, .slice ao2 d.on.1 cap2, .slice ao3 d.tapes.1 cap3, .int .i64 d.writes, .int .i64 d.stop, .bool d.down] t #[.int .i64 r.kind, .int .i64 r.seq, .string r.name, .int .i64 r.length, .int .i64 r.group, .int .i64 r.row, .slice o6 r.rows.1 k6, .slice o7 r.data.1 k7, .slice o8 r.delta.1 k8] #[.int .i64 0, .int .i64 0, .int .i64 0, .int .i64 0, .int .i64 0, .int .i64 0, .int .i64 0, .int .i64 0, .int .i64 0, .int .i64 0, .slice none 0 0, .slice none 0 0, .slice none 0 0, .int .i64 0, .int .i64 0, .bool false] 30 78 34) := HT1.out.call bA
  have zA : w1.heap.size ≤ wA.heap.size := bA.size
  have HY : Hid (RecAns d.shape r y) := hy
  clear bA CRF hy x_0 x_1 x_2 x_3 x_4 x_5 x_6 x_7 x_8
  by_cases hy0 : y = 0
  case neg =>
    have hne : (y != 0) = true := by simp [hy0]
    go_wp2_with (refine wp_storeBox 34 _ _ rfl rfl (w.heap.size + 1 + 1 + 1) rfl (cs := [.int .i64 y, .int .i64 0, .int .i64 0, .int .i64 0, .int .i64 0, .int .i64 0, .int .i64 0, .int .i64 0, .int .i64 0, .int .i64 0, .slice none 0 0, .slice none 0 0, .slice none 0 0, .int .i64 0, .int .i64 0, .bool false]) (old := [.int .i64 0, .int .i64 0, .int .i64 0, .int .i64 0, .int .i64 0, .int .i64 0, .int .i64 0, .int .i64 0, .int .i64 0, .int .i64 0, .slice none 0 0, .slice none 0 0, .slice none 0 0, .int .i64 0, .int .i64 0, .bool false]) rfl (HTA.out.b4) size_WR rfl rfl (code_one _ (rec_wide HY.out) w) ?_; intro w9 X9 C9 z9)
    refine ret_box Tryz.results50 rfl X9 Tryz.underlying34 size_WR rfl rfl ?_
    exact post_codeR (by omega) (rec_wide HY.out) HTA.out.bel C9 (.inr ⟨HX.out, .inr ⟨HIN.out, .inl ⟨y, hy0, HY.out, rfl⟩⟩⟩)
  subst hy0
  obtain ⟨T, rfl, hT, hn⟩ := tape_at2 HOK.out HIN.out
  obtain ⟨_, _, e3, -, hc3⟩ := HG3.out
  cases e3
  obtain ⟨b3, off3, he3, hb3, hel3⟩ := hc3 (by omega)
  subst he3
  obtain ⟨ct, hrt, hct⟩ := elem_rd (t := 0) hel3 HTA.out.bel hhi hb3 hT
  obtain ⟨ap, cp, rfl, -⟩ := Tape_rd hrt
  have xT : wA.cell? ⟨w.heap.size, 11, none⟩ = some (.slice (some ⟨b3, off3, none⟩) d.tapes.1 cap3) := HTA.out.b1.cell 11
  have xt : wA.cell? ⟨w.heap.size + 1, 0, none⟩ = some (.int .i64 (T : Int)) := HTA.out.b2.cell 0
  have xr : wA.cell? ⟨b3, off3 + T * 2 + 1, none⟩ = some (.slice ap (d.tapes.2 T).recs.1 cp) := hct 1 (by decide)
  have i1 : (0 : Int) ≤ (T : Int) := by omega
  have i2 : (T : Int) < (d.tapes.1 : Int) := by omega
  clear hct hrt hel3 hc3
  by_cases hm : (200 : Int) ≤ ((d.tapes.2 T).recs.1 : Int)
  case pos =>
    have HM : Hid (FullP d (T : Int)) := hm
    have dm : decide ((200 : Int) ≤ ((d.tapes.2 T).recs.1 : Int)) = true := decide_eq_true hm
    go_wp2_with (refine wp_storeBox 34 _ _ rfl rfl (w.heap.size + 1 + 1 + 1) rfl (cs := [.int .i64 2, .int .i64 0, .int .i64 0, .int .i64 0, .int .i64 0, .int .i64 0, .int .i64 0, .int .i64 0, .int .i64 0, .int .i64 0, .slice none 0 0, .slice none 0 0, .slice none 0 0, .int .i64 0, .int .i64 0, .bool false]) (old := [.int .i64 0, .int .i64 0, .int .i64 0, .int .i64 0, .int .i64 0, .int .i64 0, .int .i64 0, .int .i64 0, .int .i64 0, .int .i64 0, .slice none 0 0, .slice none 0 0, .slice none 0 0, .int .i64 0, .int .i64 0, .bool false]) rfl (HTA.out.b4) size_WR rfl rfl (code_one _ (by decide) w) ?_; intro w9 X9 C9 z9)
    refine ret_box Tryz.results50 rfl X9 Tryz.underlying34 size_WR rfl rfl ?_
    exact post_codeR (by omega) (by decide) HTA.out.bel C9 (.inr ⟨HX.out, .inr ⟨HIN.out, .inr ⟨HY.out, .inl ⟨HM.out, rfl⟩⟩⟩⟩)
  have HM : Hid (¬ FullP d (T : Int)) := hm
  have dm : decide ((200 : Int) ≤ ((d.tapes.2 T).recs.1 : Int)) = false := decide_eq_false hm
  have CW := power_append d [.int .i64 (d.shape 0), .int .i64 (d.shape 1), .int .i64 (d.shape 2), .int .i64 (d.shape 3), .int .i64 (d.shape 4), .int .i64 (d.shape 5), .int .i64 (d.shape 6), .int .i64 (d.shape 7), .int .i64 (d.shape 8), .slice ao1 d.groups.1 cap1, .slice ao2 d.on.1 cap2, .slice (some ⟨b3, off3, none⟩) d.tapes.1 cap3, .int .i64 d.writes, .int .i64 d.stop, .bool d.down] hi T r o6 o7 o8 k6 k7 k8 hi (w.heap.size + 1) (w.heap.size + 1 + 1) wA (layWorld.rd_below HRD.out HTA.out.bel hhi) (Nat.le_trans hhi HTA.out.bel.size) HSZ.out (HTA.out.b2.cell 0) HTA.out.b2.lt HTA.out.b3 hT (by omega) (layRec.rd_below HRR.out HTA.out.bel hhi) (Nat.le_trans hhi HTA.out.bel.size) HSR.out (count_in HOK.out) (AppAns d T r) (fun hf => .inr ⟨HX.out, .inr ⟨HIN.out, .inr ⟨HY.out, .inr ⟨HM.out, .inl ⟨hf, rfl⟩⟩⟩⟩⟩) (fun hf => .inr ⟨HX.out, .inr ⟨HIN.out, .inr ⟨HY.out, .inr ⟨HM.out, .inr ⟨hf, rfl⟩⟩⟩⟩⟩)
  have CW := CW.mono (R' := fun e w' => ∃ d' sc s0 s1 s2 s3 s4 s5 s6 s7 s8 sp0 sl0 sq0 sp1 sl1 sq1 sp2 sl2 sq2 s9 s10 sb, e = .returned (.agg #[.int .i64 sc, .int .i64 s0, .int .i64 s1, .int .i64 s2, .int .i64 s3, .int .i64 s4, .int .i64 s5, .int .i64 s6, .int .i64 s7, .int .i64 s8, .slice sp0 sl0 sq0, .slice sp1 sl1 sq1, .slice sp2 sl2 sq2, .int .i64 s9, .int .i64 s10, .bool sb]) ∧ AppAns d T r d' ∧ OwnT layWorldResult w' wA.heap.size w'.heap.size d' [.int .i64 sc, .int .i64 s0, .int .i64 s1, .int .i64 s2, .int .i64 s3, .int .i64 s4, .int .i64 s5, .int .i64 s6, .int .i64 s7, .int .i64 s8, .slice sp0 sl0 sq0, .slice sp1 sl1 sq1, .slice sp2 sl2 sq2, .int .i64 s9, .int .i64 s10, .bool sb] ∧ Below wA.heap.size wA w') (fun e w' ⟨d', cs', he, hP, ho, hb⟩ => by
    obtain ⟨sc, s0, s1, s2, s3, s4, s5, s6, s7, s8, sp0, sl0, sq0, sp1, sl1, sq1, sp2, sl2, sq2, s9, s10, sb, rfl⟩ := wres16 ho.rd
    exact ⟨d', sc, s0, s1, s2, s3, s4, s5, s6, s7, s8, sp0, sl0, sq0, sp1, sl1, sq1, sp2, sl2, sq2, s9, s10, sb, he, hP, ho, hb⟩)
  clear hm
  go_wp2_with (first | (refine wp_loadBox 30 (.tmp 3) rfl rfl (w.heap.size) rfl (cs := [.int .i64 (d.shape 0), .int .i64 (d.shape 1), .int .i64 (d.shape 2), .int .i64 (d.shape 3), .int .i64 (d.shape 4), .int .i64 (d.shape 5), .int .i64 (d.shape 6), .int .i64 (d.shape 7), .int .i64 (d.shape 8), .slice ao1 d.groups.1 cap1, .slice ao2 d.on.1 cap2, .slice (some ⟨b3, off3, none⟩) d.tapes.1 cap3, .int .i64 d.writes, .int .i64 d.stop, .bool d.down]) (HTA.out.b1) Tryz.underlying30 size_W rfl ?_) | (go_at_call 87; refine CW.mono ?_; rintro e w5 ⟨d', sc, s0, s1, s2, s3, s4, s5, s6, s7, s8, sp0, sl0, sq0, sp1, sl1, sq1, sp2, sl2, sq2, s9, s10, sb, rfl, hP, o5, b5⟩; have T5 := HTA.out.call b5; have z5 : wA.heap.size ≤ w5.heap.size := b5.size) | (refine wp_storeBox 34 _ _ rfl rfl (w.heap.size + 1 + 1 + 1) rfl (cs := [.int .i64 sc, .int .i64 s0, .int .i64 s1, .int .i64 s2, .int .i64 s3, .int .i64 s4, .int .i64 s5, .int .i64 s6, .int .i64 s7, .int .i64 s8, .slice sp0 sl0 sq0, .slice sp1 sl1 sq1, .slice sp2 sl2 sq2, .int .i64 s9, .int .i64 s10, .bool sb]) (old := [.int .i64 0, .int .i64 0, .int .i64 0, .int .i64 0, .int .i64 0, .int .i64 0, .int .i64 0, .int .i64 0, .int .i64 0, .int .i64 0, .slice none 0 0, .slice none 0 0, .slice none 0 0, .int .i64 0, .int .i64 0, .bool false]) rfl (T5.b4) size_WR rfl rfl (o5.one) ?_; intro w9 X9 C9 z9))
  refine ret_box Tryz.results50 rfl X9 Tryz.underlying34 size_WR rfl rfl ?_
  refine ⟨d', [.int .i64 sc, .int .i64 s0, .int .i64 s1, .int .i64 s2, .int .i64 s3, .int .i64 s4, .int .i64 s5, .int .i64 s6, .int .i64 s7, .int .i64 s8, .slice sp0 sl0 sq0, .slice sp1 sl1 sq1, .slice sp2 sl2 sq2, .int .i64 s9, .int .i64 s10, .bool sb], rfl, hP, (o5.chgk C9 (fun b hb => by simp at hb; omega)).weaken (by omega) C9.size, T5.bel.trans (C9.bel (fun b hb => by simp at hb; omega) T5.bel.size)⟩
end Go.Proofs.YtfafbojaeedhfaaGreat
