/- Walk of the specification's l5Raw. -/
import Derived.Test.YtdgbnongbmgdcaaGreatZwE
import Derived.Test.YtdgbnongbmgdcaaGreatZwI
import Derived.Deep.DeepCutAuto
import Derived.BigQuiet
import Derived.Deep.QuietTactic
import Derived.Test.YtdgbnongbmgdcaaGreatZxM
import Derived.Test.YtdgbnongbmgdcaaGreatZxQ
import Derived.Test.YtdgbnongbmgdcaaGreatZwK
import Derived.Test.YtdgbnongbmgdcaaGreatRows
import Derived.Test.YtdgbnongbmgdcaaGreatOpensW
import Derived.Test.YtdgbnongbmgdcaaGreatZwB
import Derived.Test.YtdgbnongbmgdcaaGreatZwC
import Derived.Deep.RegionLaw
namespace Go.Proofs.YtdgbnongbmgdcaaGreat
open Go.RowKit F256
set_option linter.unusedVariables false
set_option linter.unusedSimpArgs false
set_option maxHeartbeats 8000000 in
set_option maxRecDepth 20000 in
theorem l5Raw_fail (b : Nat) (v0 v1 v2 v3 v4 v5 v6 v7 v8 vp0 vl0 vq0 vp1 vl1 vq1 vp2 vl2 vq2 v9 v10 vb : _) (w : World) (hB : Box w b #[.int .i64 v0, .int .i64 v1, .int .i64 v2, .int .i64 v3, .int .i64 v4, .int .i64 v5, .int .i64 v6, .int .i64 v7, .int .i64 v8, .slice vp0 vl0 vq0, .slice vp1 vl1 vq1, .slice vp2 vl2 vq2, .int .i64 v9, .int .i64 v10, .bool vb] 30) (hd : vb = false) (hs : v10 ≠ -1) (hw : v10 ≤ v9) :
    Calls Tryz.prog 101 #[.pointer (some ⟨b, 0, none⟩)] w fun e w' => e = .returned (.bool false) ∧ Box w' b #[.int .i64 v0, .int .i64 v1, .int .i64 v2, .int .i64 v3, .int .i64 v4, .int .i64 v5, .int .i64 v6, .int .i64 v7, .int .i64 v8, .slice vp0 vl0 vq0, .slice none 0 0, .slice vp2 vl2 vq2, .int .i64 v9, .int .i64 v10, .bool true] 30 ∧ ChgL [b] w w' := by
  subst hd
  have d1 : (v10 != -1) = true := by simpa using hs
  have d2 : decide (v10 ≤ v9) = true := by simpa using hw
  have x12 : w.cell? ⟨b, 12, none⟩ = some (.int .i64 v9) := hB.cell 12
  have x13 : w.cell? ⟨b, 13, none⟩ = some (.int .i64 v10) := hB.cell 13
  have x14 : w.cell? ⟨b, 14, none⟩ = some (.bool false) := hB.cell 14
  clear hs hw
  go_enter Tryz.func101, Tryz.ntmps101
  go_upto_region 3 with fail
  go_quiet (fail)
  go_upto_region 4 with fail
  obtain ⟨W, hW⟩ : ∃ x, x = w.drewN nq := ⟨_, rfl⟩
  rw [← hW]
  have X1 : Box W b #[.int .i64 v0, .int .i64 v1, .int .i64 v2, .int .i64 v3, .int .i64 v4, .int .i64 v5, .int .i64 v6, .int .i64 v7, .int .i64 v8, .slice vp0 vl0 vq0, .slice vp1 vl1 vq1, .slice vp2 vl2 vq2, .int .i64 v9, .int .i64 v10, .bool false] 30 := by rw [hW]; exact hB
  have C1 : ChgL [b] w W := by rw [hW]; exact ⟨rfl, rfl, rfl, Nat.le_refl _, fun _ _ _ => rfl⟩
  clear hW x12 x13 x14 hB
  have y0 : W.cell? ⟨b, 14, none⟩ = some (.bool false) := X1.cell 14
  have yf0 : W.frozen? ⟨b, 14, none⟩ = false := X1.frozen 14
  have X2 : Box (W.setCell ⟨b, 14, none⟩ (.bool true)) b #[.int .i64 v0, .int .i64 v1, .int .i64 v2, .int .i64 v3, .int .i64 v4, .int .i64 v5, .int .i64 v6, .int .i64 v7, .int .i64 v8, .slice vp0 vl0 vq0, .slice vp1 vl1 vq1, .slice vp2 vl2 vq2, .int .i64 v9, .int .i64 v10, .bool true] 30 := X1.setc 14 _
  have y1 : (W.setCell ⟨b, 14, none⟩ (.bool true)).cell? ⟨b, 10, none⟩ = some (.slice vp1 vl1 vq1) := X2.cell 10
  have yf1 : (W.setCell ⟨b, 14, none⟩ (.bool true)).frozen? ⟨b, 10, none⟩ = false := X2.frozen 10
  have X3 : Box ((W.setCell ⟨b, 14, none⟩ (.bool true)).setCell ⟨b, 10, none⟩ (.slice none 0 0)) b #[.int .i64 v0, .int .i64 v1, .int .i64 v2, .int .i64 v3, .int .i64 v4, .int .i64 v5, .int .i64 v6, .int .i64 v7, .int .i64 v8, .slice vp0 vl0 vq0, .slice none 0 0, .slice vp2 vl2 vq2, .int .i64 v9, .int .i64 v10, .bool true] 30 := X2.setc 10 _
  have C3 : ChgL [b] w ((W.setCell ⟨b, 14, none⟩ (.bool true)).setCell ⟨b, 10, none⟩ (.slice none 0 0)) := (C1.st _ 14 _ (by simp)).st _ 10 _ (by simp)
  clear X1 X2 C1
  go_wp2
  go_ret
  exact ⟨rfl, X3, C3⟩
set_option maxHeartbeats 8000000 in
set_option maxRecDepth 20000 in
theorem l5Raw_ok1 (b : Nat) (v0 v1 v2 v3 v4 v5 v6 v7 v8 vp0 vl0 vq0 vp1 vl1 vq1 vp2 vl2 vq2 v9 v10 vb : _) (w : World) (hB : Box w b #[.int .i64 v0, .int .i64 v1, .int .i64 v2, .int .i64 v3, .int .i64 v4, .int .i64 v5, .int .i64 v6, .int .i64 v7, .int .i64 v8, .slice vp0 vl0 vq0, .slice vp1 vl1 vq1, .slice vp2 vl2 vq2, .int .i64 v9, .int .i64 v10, .bool vb] 30) (hd : vb = false) (d1 : (v10 != -1) = false) (hwr : -9223372036854775808 ≤ v9 ∧ v9 + 1 ≤ 9223372036854775807) :
    Calls Tryz.prog 101 #[.pointer (some ⟨b, 0, none⟩)] w fun e w' => e = .returned (.bool true) ∧ Box w' b #[.int .i64 v0, .int .i64 v1, .int .i64 v2, .int .i64 v3, .int .i64 v4, .int .i64 v5, .int .i64 v6, .int .i64 v7, .int .i64 v8, .slice vp0 vl0 vq0, .slice vp1 vl1 vq1, .slice vp2 vl2 vq2, .int .i64 (v9 + 1), .int .i64 v10, .bool vb] 30 ∧ ChgL [b] w w' := by
  have HD : Hid (vb = false) := hd
  obtain ⟨vc, hvc⟩ : ∃ x : Bool, x = vb := ⟨_, rfl⟩
  have zz : IntKind.i64.wrap (v9 + 1) = v9 + 1 := by rw [IntKind.wrap_i64]; omega
  have x12 : w.cell? ⟨b, 12, none⟩ = some (.int .i64 v9) := hB.cell 12
  have x13 : w.cell? ⟨b, 13, none⟩ = some (.int .i64 v10) := hB.cell 13
  have x14 : w.cell? ⟨b, 14, none⟩ = some (.bool false) := by rw [← HD.out]; exact hB.cell 14
  clear hwr hd
  go_enter Tryz.func101, Tryz.ntmps101
  go_upto_region 3 with fail
  go_quiet (fail)
  go_upto_region 7 with fail
  obtain ⟨W, hW⟩ : ∃ x, x = w.drewN nq := ⟨_, rfl⟩
  rw [← hW]
  have X1 : Box W b #[.int .i64 v0, .int .i64 v1, .int .i64 v2, .int .i64 v3, .int .i64 v4, .int .i64 v5, .int .i64 v6, .int .i64 v7, .int .i64 v8, .slice vp0 vl0 vq0, .slice vp1 vl1 vq1, .slice vp2 vl2 vq2, .int .i64 v9, .int .i64 v10, .bool vb] 30 := by rw [hW]; exact hB
  have C1 : ChgL [b] w W := by rw [hW]; exact ⟨rfl, rfl, rfl, Nat.le_refl _, fun _ _ _ => rfl⟩
  clear hW x12 x13 x14 hB
  have y0 : W.cell? ⟨b, 12, none⟩ = some (.int .i64 v9) := X1.cell 12
  have yf0 : W.frozen? ⟨b, 12, none⟩ = false := X1.frozen 12
  have X2 : Box (W.setCell ⟨b, 12, none⟩ (.int .i64 (v9 + 1))) b #[.int .i64 v0, .int .i64 v1, .int .i64 v2, .int .i64 v3, .int .i64 v4, .int .i64 v5, .int .i64 v6, .int .i64 v7, .int .i64 v8, .slice vp0 vl0 vq0, .slice vp1 vl1 vq1, .slice vp2 vl2 vq2, .int .i64 (v9 + 1), .int .i64 v10, .bool vb] 30 := X1.setc 12 _
  have C2' : ChgL [b] w (W.setCell ⟨b, 12, none⟩ (.int .i64 (v9 + 1))) := C1.st _ 12 _ (by simp)
  clear X1 C1
  go_wp2
  go_ret
  exact ⟨rfl, X2, C2'⟩
set_option maxHeartbeats 8000000 in
set_option maxRecDepth 20000 in
theorem l5Raw_ok2 (b : Nat) (v0 v1 v2 v3 v4 v5 v6 v7 v8 vp0 vl0 vq0 vp1 vl1 vq1 vp2 vl2 vq2 v9 v10 vb : _) (w : World) (hB : Box w b #[.int .i64 v0, .int .i64 v1, .int .i64 v2, .int .i64 v3, .int .i64 v4, .int .i64 v5, .int .i64 v6, .int .i64 v7, .int .i64 v8, .slice vp0 vl0 vq0, .slice vp1 vl1 vq1, .slice vp2 vl2 vq2, .int .i64 v9, .int .i64 v10, .bool vb] 30) (hd : vb = false) (d1 : (v10 != -1) = true) (d2 : decide (v10 ≤ v9) = false) (hwr : -9223372036854775808 ≤ v9 ∧ v9 + 1 ≤ 9223372036854775807) :
    Calls Tryz.prog 101 #[.pointer (some ⟨b, 0, none⟩)] w fun e w' => e = .returned (.bool true) ∧ Box w' b #[.int .i64 v0, .int .i64 v1, .int .i64 v2, .int .i64 v3, .int .i64 v4, .int .i64 v5, .int .i64 v6, .int .i64 v7, .int .i64 v8, .slice vp0 vl0 vq0, .slice vp1 vl1 vq1, .slice vp2 vl2 vq2, .int .i64 (v9 + 1), .int .i64 v10, .bool vb] 30 ∧ ChgL [b] w w' := by
  have HD : Hid (vb = false) := hd
  obtain ⟨vc, hvc⟩ : ∃ x : Bool, x = vb := ⟨_, rfl⟩
  have zz : IntKind.i64.wrap (v9 + 1) = v9 + 1 := by rw [IntKind.wrap_i64]; omega
  have x12 : w.cell? ⟨b, 12, none⟩ = some (.int .i64 v9) := hB.cell 12
  have x13 : w.cell? ⟨b, 13, none⟩ = some (.int .i64 v10) := hB.cell 13
  have x14 : w.cell? ⟨b, 14, none⟩ = some (.bool false) := by rw [← HD.out]; exact hB.cell 14
  clear hwr hd
  go_enter Tryz.func101, Tryz.ntmps101
  go_upto_region 3 with fail
  go_quiet (fail)
  go_upto_region 7 with fail
  obtain ⟨W, hW⟩ : ∃ x, x = w.drewN nq := ⟨_, rfl⟩
  rw [← hW]
  have X1 : Box W b #[.int .i64 v0, .int .i64 v1, .int .i64 v2, .int .i64 v3, .int .i64 v4, .int .i64 v5, .int .i64 v6, .int .i64 v7, .int .i64 v8, .slice vp0 vl0 vq0, .slice vp1 vl1 vq1, .slice vp2 vl2 vq2, .int .i64 v9, .int .i64 v10, .bool vb] 30 := by rw [hW]; exact hB
  have C1 : ChgL [b] w W := by rw [hW]; exact ⟨rfl, rfl, rfl, Nat.le_refl _, fun _ _ _ => rfl⟩
  clear hW x12 x13 x14 hB
  have y0 : W.cell? ⟨b, 12, none⟩ = some (.int .i64 v9) := X1.cell 12
  have yf0 : W.frozen? ⟨b, 12, none⟩ = false := X1.frozen 12
  have X2 : Box (W.setCell ⟨b, 12, none⟩ (.int .i64 (v9 + 1))) b #[.int .i64 v0, .int .i64 v1, .int .i64 v2, .int .i64 v3, .int .i64 v4, .int .i64 v5, .int .i64 v6, .int .i64 v7, .int .i64 v8, .slice vp0 vl0 vq0, .slice vp1 vl1 vq1, .slice vp2 vl2 vq2, .int .i64 (v9 + 1), .int .i64 v10, .bool vb] 30 := X1.setc 12 _
  have C2' : ChgL [b] w (W.setCell ⟨b, 12, none⟩ (.int .i64 (v9 + 1))) := C1.st _ 12 _ (by simp)
  clear X1 C1
  go_wp2
  go_ret
  exact ⟨rfl, X2, C2'⟩
theorem l5Raw_ok (b : Nat) (v0 v1 v2 v3 v4 v5 v6 v7 v8 vp0 vl0 vq0 vp1 vl1 vq1 vp2 vl2 vq2 v9 v10 vb : _) (w : World) (hB : Box w b #[.int .i64 v0, .int .i64 v1, .int .i64 v2, .int .i64 v3, .int .i64 v4, .int .i64 v5, .int .i64 v6, .int .i64 v7, .int .i64 v8, .slice vp0 vl0 vq0, .slice vp1 vl1 vq1, .slice vp2 vl2 vq2, .int .i64 v9, .int .i64 v10, .bool vb] 30) (hd : vb = false) (hpw : ¬ (v10 ≠ -1 ∧ v10 ≤ v9)) (hwr : -9223372036854775808 ≤ v9 ∧ v9 + 1 ≤ 9223372036854775807) :
    Calls Tryz.prog 101 #[.pointer (some ⟨b, 0, none⟩)] w fun e w' => e = .returned (.bool true) ∧ Box w' b #[.int .i64 v0, .int .i64 v1, .int .i64 v2, .int .i64 v3, .int .i64 v4, .int .i64 v5, .int .i64 v6, .int .i64 v7, .int .i64 v8, .slice vp0 vl0 vq0, .slice vp1 vl1 vq1, .slice vp2 vl2 vq2, .int .i64 (v9 + 1), .int .i64 v10, .bool vb] 30 ∧ ChgL [b] w w' := by
  by_cases hs : v10 = -1
  · exact l5Raw_ok1 b v0 v1 v2 v3 v4 v5 v6 v7 v8 vp0 vl0 vq0 vp1 vl1 vq1 vp2 vl2 vq2 v9 v10 vb w hB hd (by simpa using hs) hwr
  · exact l5Raw_ok2 b v0 v1 v2 v3 v4 v5 v6 v7 v8 vp0 vl0 vq0 vp1 vl1 vq1 vp2 vl2 vq2 v9 v10 vb w hB hd (by simpa using hs) (by simp only [decide_eq_false_iff_not]; exact fun h => hpw ⟨hs, h⟩) hwr
end Go.Proofs.YtdgbnongbmgdcaaGreat

namespace Go.Proofs.YtdgbnongbmgdcaaGreat
open Go.RowKit F256
set_option linter.unusedVariables false
set_option linter.unusedSimpArgs false
def FailsP (d : WorldD) : Prop := d.stop ≠ -1 ∧ d.stop ≤ d.writes
def trustedW (d : WorldD) (G k : Nat) : WorldD := { trustW d G k with writes := d.writes + 1 }
def TrustAns (d : WorldD) (g k : Int) (r : WorldResultD) : Prop := (∃ x, x ≠ 0 ∧ AskAns d x ∧ r = ⟨x, zeroW⟩) ∨ (AskAns d 0 ∧ ((¬ DriveP d.shape g k ∧ r = ⟨3, zeroW⟩) ∨ (DriveP d.shape g k ∧ ((¬ HasP d.on.1 d.on.2 g ∧ r = ⟨8, zeroW⟩) ∨ (HasP d.on.1 d.on.2 g ∧ ((FailsP d ∧ r = ⟨9, cutW d⟩) ∨ (¬ FailsP d ∧ r = ⟨0, trustedW d g.toNat k.toNat⟩)))))))
theorem TrustAns.one {d : WorldD} {g k : Int} {r q : WorldResultD} (h : TrustAns d g k r) (l : TrustAns d g k q) : r = q := by
  rcases h with ⟨x, h1, h2, rfl⟩ | ⟨h1, h⟩ <;> rcases l with ⟨y, k1, k2, rfl⟩ | ⟨k1, l⟩
  · rw [h2.one k2]
  · exact absurd (h2.one k1) h1
  · exact absurd (k2.one h1) k1
  · rcases h with ⟨h2, rfl⟩ | ⟨h2, h⟩ <;> rcases l with ⟨k2, rfl⟩ | ⟨k2, l⟩
    · rfl
    · exact absurd k2 h2
    · exact absurd h2 k2
    · rcases h with ⟨h3, rfl⟩ | ⟨h3, h⟩ <;> rcases l with ⟨k3, rfl⟩ | ⟨k3, l⟩
      · rfl
      · exact absurd k3 h3
      · exact absurd h3 k3
      · rcases h with ⟨h4, rfl⟩ | ⟨h4, rfl⟩ <;> rcases l with ⟨k4, rfl⟩ | ⟨k4, rfl⟩
        · rfl
        · exact absurd h4 k4
        · exact absurd k4 h4
        · rfl
theorem ask_up {d : WorldD} (h : AskAns d 0) : d.down = false := by
  rcases h with ⟨h, _⟩ | ⟨_, ⟨_, h⟩ | ⟨h, _⟩⟩
  · exact absurd rfl h
  · cases h
  · exact h
theorem WOpen.writes {w : World} {lo hi : Nat} {d : WorldD} {v1 v2 v3 : Value} {K1 K2 K3 : List Nat} (h : WOpen w lo hi d v1 v2 v3 K1 K2 K3) (n : Int) (hn : -9223372036854775808 ≤ n ∧ n ≤ 9223372036854775807) : WOpen w lo hi { d with writes := n } v1 v2 v3 K1 K2 K3 := ⟨h.g, h.o, h.t, h.nd, h.inn, h.k0, hn, h.k5⟩
theorem count_in {d : WorldD} (h : OkWorld d) : -9223372036854775808 ≤ d.writes ∧ d.writes + 1 ≤ 9223372036854775807 := by
  have hc := h.count
  unfold CountP InP at hc
  omega
end Go.Proofs.YtdgbnongbmgdcaaGreat

namespace Go.Proofs.YtdgbnongbmgdcaaGreat
open Go.RowKit F256
set_option linter.unusedVariables false
set_option linter.unusedSimpArgs false
/-- a world's box, two numbers' boxes, the result's -/
structure Cap2 (w wc : World) (c1 : Array Value) (x y : Int) (c4 : Array Value) (t1 t4 : TypeId) : Prop where
  b1 : Box wc w.heap.size c1 t1
  b2 : Box wc (w.heap.size + 1) #[.int .i64 x] 2
  b3 : Box wc (w.heap.size + 1 + 1) #[.int .i64 y] 2
  b4 : Box wc (w.heap.size + 1 + 1 + 1) c4 t4
  bel : Below w.heap.size w wc
theorem cap2_new (w : World) (c1 c4 : Array Value) (x y : Int) (t1 t4 : TypeId) : Cap2 w ((((w.alloc (.cells c1 t1)).alloc (.cells #[.int .i64 x] 2)).alloc (.cells #[.int .i64 y] 2)).alloc (.cells c4 t4)) c1 x y c4 t1 t4 := by
  have A := two_newb w c1 #[.int .i64 x] t1 2
  have B := two_newb ((w.alloc (.cells c1 t1)).alloc (.cells #[.int .i64 x] 2)) #[.int .i64 y] c4 2 t4
  have e : ((w.alloc (.cells c1 t1)).alloc (.cells #[.int .i64 x] 2)).heap.size = w.heap.size + 1 + 1 := by simp
  have A' := A.call B.bel
  obtain ⟨B1, B2, _⟩ := B
  rw [e] at B1 B2
  exact ⟨A'.b1, A'.b2, B1, B2, A'.bel⟩
theorem Cap2.call {w wc w' : World} {c1 c4 : Array Value} {x y : Int} {t1 t4 : TypeId} (h : Cap2 w wc c1 x y c4 t1 t4) (hb : Below wc.heap.size wc w') : Cap2 w w' c1 x y c4 t1 t4 := ⟨h.b1.call hb, h.b2.call hb, h.b3.call hb, h.b4.call hb, h.bel.trans (hb.mono h.bel.size)⟩
theorem post_codeR {P : WorldResultD → Prop} {w wc w9 : World} {x : Int} {r : Nat} (hr : w.heap.size ≤ r) (hx : -9223372036854775808 ≤ x ∧ x ≤ 9223372036854775807) (hb : Below w.heap.size w wc) (hc : ChgL [r] wc w9) (hP : P ⟨x, zeroW⟩) : ResPost P w (.returned (.agg #[.int .i64 x, .int .i64 0, .int .i64 0, .int .i64 0, .int .i64 0, .int .i64 0, .int .i64 0, .int .i64 0, .int .i64 0, .int .i64 0, .slice none 0 0, .slice none 0 0, .slice none 0 0, .int .i64 0, .int .i64 0, .bool false])) w9 :=
  ⟨⟨x, zeroW⟩, [.int .i64 x, .int .i64 0, .int .i64 0, .int .i64 0, .int .i64 0, .int .i64 0, .int .i64 0, .int .i64 0, .int .i64 0, .int .i64 0, .slice none 0 0, .slice none 0 0, .slice none 0 0, .int .i64 0, .int .i64 0, .bool false], rfl, hP, own_resCode _ x hx _ _, hb.trans (hc.bel (fun b hb => by simp at hb; omega) hb.size)⟩
end Go.Proofs.YtdgbnongbmgdcaaGreat

namespace Go.Proofs.YtdgbnongbmgdcaaGreat
open Go.RowKit F256
set_option linter.unusedVariables false
set_option linter.unusedSimpArgs false
set_option maxHeartbeats 32000000 in
set_option maxRecDepth 20000 in
theorem specTrust_any (d : WorldD) (g : Int) (k : Int) (cs : List Value) (hi : Nat) (w : World) (h : layWorld.rd w hi d cs) (hhi : hi ≤ w.heap.size) (hsz : szWorldD d ≤ 1048576) (hg : -9223372036854775808 ≤ g ∧ g ≤ 9223372036854775807) (hk : -9223372036854775808 ≤ k ∧ k ≤ 9223372036854775807) :
    Calls Tryz.prog 45 #[.agg cs.toArray, .int .i64 g, .int .i64 k] w (ResPost (TrustAns d g k) w) := by
  have h' := h
  obtain ⟨ao1, cap1, ao2, cap2, ao3, cap3, rfl, g1, g2, g3, k0, k4, k5⟩ := World_rd h'
  have HRD : Hid (layWorld.rd w hi d [.int .i64 (d.shape 0), .int .i64 (d.shape 1), .int .i64 (d.shape 2), .int .i64 (d.shape 3), .int .i64 (d.shape 4), .int .i64 (d.shape 5), .int .i64 (d.shape 6), .int .i64 (d.shape 7), .int .i64 (d.shape 8), .slice ao1 d.groups.1 cap1, .slice ao2 d.on.1 cap2, .slice ao3 d.tapes.1 cap3, .int .i64 d.writes, .int .i64 d.stop, .bool d.down]) := h
  have HSZ : Hid (szWorldD d ≤ 1048576) := hsz
  have HG2 : Hid (RdI w hi (.slice ao2 d.on.1 cap2) d.on.1 d.on.2) := by
    obtain ⟨_, e2, ⟨h2, _⟩, _⟩ := g2
    cases e2
    exact h2
  have Hg : Hid (-9223372036854775808 ≤ g ∧ g ≤ 9223372036854775807) := hg
  have Hk : Hid (-9223372036854775808 ≤ k ∧ k ≤ 9223372036854775807) := hk
  clear h h' hsz g1 g2 g3 k0 k4 k5 hg hk
  have T0 := two_newb w #[.int .i64 (d.shape 0), .int .i64 (d.shape 1), .int .i64 (d.shape 2), .int .i64 (d.shape 3), .int .i64 (d.shape 4), .int .i64 (d.shape 5), .int .i64 (d.shape 6), .int .i64 (d.shape 7), .int .i64 (d.shape 8), .slice ao1 d.groups.1 cap1, .slice ao2 d.on.1 cap2, .slice ao3 d.tapes.1 cap3, .int .i64 d.writes, .int .i64 d.stop, .bool d.down] #[.int .i64 0, .int .i64 0, .int .i64 0, .int .i64 0, .int .i64 0, .int .i64 0, .int .i64 0, .int .i64 0, .int .i64 0, .int .i64 0, .slice none 0 0, .slice none 0 0, .slice none 0 0, .int .i64 0, .int .i64 0, .bool false] 30 34
  go_enter Tryz.func45, Tryz.ntmps45
  go_wp2_with (refine wp_loadBox 30 (.tmp 3) rfl rfl (w.heap.size) rfl (cs := [.int .i64 (d.shape 0), .int .i64 (d.shape 1), .int .i64 (d.shape 2), .int .i64 (d.shape 3), .int .i64 (d.shape 4), .int .i64 (d.shape 5), .int .i64 (d.shape 6), .int .i64 (d.shape 7), .int .i64 (d.shape 8), .slice ao1 d.groups.1 cap1, .slice ao2 d.on.1 cap2, .slice ao3 d.tapes.1 cap3, .int .i64 d.writes, .int .i64 d.stop, .bool d.down]) (T0.b1) Tryz.underlying30 size_W rfl ?_)
  refine (l5Asked_any d _ hi _ (layWorld.rd_below HRD.out T0.bel hhi) (Nat.le_trans hhi T0.bel.size) HSZ.out).mono ?_
  rintro e w1 ⟨x, rfl, hx, b1⟩
  have HT1 : Hid (Two w w1 #[.int .i64 (d.shape 0), .int .i64 (d.shape 1), .int .i64 (d.shape 2), .int .i64 (d.shape 3), .int .i64 (d.shape 4), .int .i64 (d.shape 5), .int .i64 (d.shape 6), .int .i64 (d.shape 7), .int .i64 (d.shape 8), .slice ao1 d.groups.1 cap1, .slice ao2 d.on.1 cap2, .slice ao3 d.tapes.1 cap3, .int .i64 d.writes, .int .i64 d.stop, .bool d.down] #[.int .i64 0, .int .i64 0, .int .i64 0, .int .i64 0, .int .i64 0, .int .i64 0, .int .i64 0, .int .i64 0, .int .i64 0, .int .i64 0, .slice none 0 0, .slice none 0 0, .slice none 0 0, .int .i64 0, .int .i64 0, .bool false] 30 34) := T0.call b1
  have HX : Hid (AskAns d x) := hx
  have z1 : w.heap.size + 1 < w1.heap.size := HT1.out.b2.lt
  clear b1 T0 hx
  by_cases hx0 : x = 0
  case neg =>
    have hne : (x != 0) = true := by simp [hx0]
    go_wp2_with (refine wp_storeBox 34 _ _ rfl rfl (w.heap.size + 1) rfl (cs := [.int .i64 x, .int .i64 0, .int .i64 0, .int .i64 0, .int .i64 0, .int .i64 0, .int .i64 0, .int .i64 0, .int .i64 0, .int .i64 0, .slice none 0 0, .slice none 0 0, .slice none 0 0, .int .i64 0, .int .i64 0, .bool false]) (old := [.int .i64 0, .int .i64 0, .int .i64 0, .int .i64 0, .int .i64 0, .int .i64 0, .int .i64 0, .int .i64 0, .int .i64 0, .int .i64 0, .slice none 0 0, .slice none 0 0, .slice none 0 0, .int .i64 0, .int .i64 0, .bool false]) rfl (HT1.out.b2) size_WR rfl rfl (code_one _ (ask_small HX.out) w) ?_; intro w9 X9 C9 z9)
    refine ret_box Tryz.results45 rfl X9 Tryz.underlying34 size_WR rfl rfl ?_
    exact post_code (ask_small HX.out) HT1.out.bel C9 (.inl ⟨x, hx0, HX.out, rfl⟩)
  subst hx0
  have HOK : Hid (OkWorld d) := ask_ok HX.out
  have x_0 : w1.cell? ⟨w.heap.size, 0, none⟩ = some (.int .i64 (d.shape 0)) := HT1.out.b1.cell 0
  have x_1 : w1.cell? ⟨w.heap.size, 1, none⟩ = some (.int .i64 (d.shape 1)) := HT1.out.b1.cell 1
  have x_2 : w1.cell? ⟨w.heap.size, 2, none⟩ = some (.int .i64 (d.shape 2)) := HT1.out.b1.cell 2
  have x_3 : w1.cell? ⟨w.heap.size, 3, none⟩ = some (.int .i64 (d.shape 3)) := HT1.out.b1.cell 3
  have x_4 : w1.cell? ⟨w.heap.size, 4, none⟩ = some (.int .i64 (d.shape 4)) := HT1.out.b1.cell 4
  have x_5 : w1.cell? ⟨w.heap.size, 5, none⟩ = some (.int .i64 (d.shape 5)) := HT1.out.b1.cell 5
  have x_6 : w1.cell? ⟨w.heap.size, 6, none⟩ = some (.int .i64 (d.shape 6)) := HT1.out.b1.cell 6
  have x_7 : w1.cell? ⟨w.heap.size, 7, none⟩ = some (.int .i64 (d.shape 7)) := HT1.out.b1.cell 7
  have x_8 : w1.cell? ⟨w.heap.size, 8, none⟩ = some (.int .i64 (d.shape 8)) := HT1.out.b1.cell 8
  have CP := fun w' => l5Place_any d.shape HOK.out.shape g k 0 w'
  unfold shapeV at CP
  go_wp2_with fail
  refine (CP _).mono ?_
  rintro e wA ⟨b, rfl, hb, bA⟩
  have HTA : Hid (Two w wA #[.int .i64 (d.shape 0), .int .i64 (d.shape 1), .int .i64 (d.shape 2), .int .i64 (d.shape 3), .int .i64 (d.shape 4), .int .i64 (d.shape 5), .int .i64 (d.shape 6), .int .i64 (d.shape 7), .int .i64 (d.shape 8), .slice ao1 d.groups.1 cap1, .slice ao2 d.on.1 cap2, .slice ao3 d.tapes.1 cap3, .int .i64 d.writes, .int .i64 d.stop, .bool d.down] #[.int .i64 0, .int .i64 0, .int .i64 0, .int .i64 0, .int .i64 0, .int .i64 0, .int .i64 0, .int .i64 0, .int .i64 0, .int .i64 0, .slice none 0 0, .slice none 0 0, .slice none 0 0, .int .i64 0, .int .i64 0, .bool false] 30 34) := HT1.out.call bA
  have zA : w1.heap.size ≤ wA.heap.size := bA.size
  have Hb : Hid (b = true ↔ PlaceP d.shape g k 0) := hb
  clear bA CP hb x_0 x_1 x_2 x_3 x_4 x_5 x_6 x_7 x_8
  cases b with
  | false =>
    go_wp2_with (refine wp_storeBox 34 _ _ rfl rfl (w.heap.size + 1) rfl (cs := [.int .i64 3, .int .i64 0, .int .i64 0, .int .i64 0, .int .i64 0, .int .i64 0, .int .i64 0, .int .i64 0, .int .i64 0, .int .i64 0, .slice none 0 0, .slice none 0 0, .slice none 0 0, .int .i64 0, .int .i64 0, .bool false]) (old := [.int .i64 0, .int .i64 0, .int .i64 0, .int .i64 0, .int .i64 0, .int .i64 0, .int .i64 0, .int .i64 0, .int .i64 0, .int .i64 0, .slice none 0 0, .slice none 0 0, .slice none 0 0, .int .i64 0, .int .i64 0, .bool false]) rfl (HTA.out.b2) size_WR rfl rfl (code_one _ (by decide) w) ?_; intro w9 X9 C9 z9)
    refine ret_box Tryz.results45 rfl X9 Tryz.underlying34 size_WR rfl rfl ?_
    exact post_code (by decide) HTA.out.bel C9 (.inr ⟨HX.out, .inl ⟨fun h => (by have := Hb.out.2 ((place0 HOK.out.shape g k).2 h); cases this), rfl⟩⟩)
  | true =>
  have HD : Hid (DriveP d.shape g k) := (place0 HOK.out.shape g k).1 (Hb.out.1 (by simp))
  have x10 : wA.cell? ⟨w.heap.size, 10, none⟩ = some (.slice ao2 d.on.1 cap2) := HTA.out.b1.cell 10
  have CH := l1Has_any _ _ _ hi g wA (HG2.out.below HTA.out.bel hhi)
  go_wp2_with fail
  refine CH.mono ?_
  rintro e w4 ⟨t, rfl, ht, b4⟩
  have HT4 : Hid (Two w w4 #[.int .i64 (d.shape 0), .int .i64 (d.shape 1), .int .i64 (d.shape 2), .int .i64 (d.shape 3), .int .i64 (d.shape 4), .int .i64 (d.shape 5), .int .i64 (d.shape 6), .int .i64 (d.shape 7), .int .i64 (d.shape 8), .slice ao1 d.groups.1 cap1, .slice ao2 d.on.1 cap2, .slice ao3 d.tapes.1 cap3, .int .i64 d.writes, .int .i64 d.stop, .bool d.down] #[.int .i64 0, .int .i64 0, .int .i64 0, .int .i64 0, .int .i64 0, .int .i64 0, .int .i64 0, .int .i64 0, .int .i64 0, .int .i64 0, .slice none 0 0, .slice none 0 0, .slice none 0 0, .int .i64 0, .int .i64 0, .bool false] 30 34) := HTA.out.call b4
  have z4 : wA.heap.size ≤ w4.heap.size := b4.size
  have HH : Hid (t = true ↔ HasP d.on.1 d.on.2 g) := ht
  clear CH b4 x10 ht
  cases t with
  | false =>
    go_wp2_with (refine wp_storeBox 34 _ _ rfl rfl (w.heap.size + 1) rfl (cs := [.int .i64 8, .int .i64 0, .int .i64 0, .int .i64 0, .int .i64 0, .int .i64 0, .int .i64 0, .int .i64 0, .int .i64 0, .int .i64 0, .slice none 0 0, .slice none 0 0, .slice none 0 0, .int .i64 0, .int .i64 0, .bool false]) (old := [.int .i64 0, .int .i64 0, .int .i64 0, .int .i64 0, .int .i64 0, .int .i64 0, .int .i64 0, .int .i64 0, .int .i64 0, .int .i64 0, .slice none 0 0, .slice none 0 0, .slice none 0 0, .int .i64 0, .int .i64 0, .bool false]) rfl (HT4.out.b2) size_WR rfl rfl (code_one _ (by decide) w) ?_; intro w9 X9 C9 z9)
    refine ret_box Tryz.results45 rfl X9 Tryz.underlying34 size_WR rfl rfl ?_
    exact post_code (by decide) HT4.out.bel C9 (.inr ⟨HX.out, .inr ⟨HD.out, .inl ⟨fun h => (by have := HH.out.2 h; cases this), rfl⟩⟩⟩)
  | true =>
  have HON : Hid (HasP d.on.1 d.on.2 g) := HH.out.1 (by simp)
  go_wp2_with (refine wp_loadBox 30 (.tmp 3) rfl rfl (w.heap.size) rfl (cs := [.int .i64 (d.shape 0), .int .i64 (d.shape 1), .int .i64 (d.shape 2), .int .i64 (d.shape 3), .int .i64 (d.shape 4), .int .i64 (d.shape 5), .int .i64 (d.shape 6), .int .i64 (d.shape 7), .int .i64 (d.shape 8), .slice ao1 d.groups.1 cap1, .slice ao2 d.on.1 cap2, .slice ao3 d.tapes.1 cap3, .int .i64 d.writes, .int .i64 d.stop, .bool d.down]) (HT4.out.b1) Tryz.underlying30 size_W rfl ?_)
  refine (l5Copy_is _ d hi _ (layWorld.rd_below HRD.out HT4.out.bel hhi) (Nat.le_trans hhi HT4.out.bel.size) HSZ.out).mono ?_
  rintro e w2 ⟨c2, rfl, o2, b2⟩
  obtain ⟨p1, c1, p2, c2, p3, c3, K1, K2, K3, rfl, WO2⟩ := world_open o2
  have z2 : w4.heap.size ≤ w2.heap.size := b2.size
  go_upto_region 9 with (refine wp_allocStore 30 8 (.tmp 29) [.int .i64 (d.shape 0), .int .i64 (d.shape 1), .int .i64 (d.shape 2), .int .i64 (d.shape 3), .int .i64 (d.shape 4), .int .i64 (d.shape 5), .int .i64 (d.shape 6), .int .i64 (d.shape 7), .int .i64 (d.shape 8), .slice p1 d.groups.1 c1, .slice p2 d.on.1 c2, .slice p3 d.tapes.1 c3, .int .i64 d.writes, .int .i64 d.stop, .bool d.down] _ 15 rfl rfl rfl rfl rfl rfl rfl rfl info_W rfl rfl o2.one ?_)
  have bA : Below w2.heap.size w2 (w2.alloc (.cells #[.int .i64 (d.shape 0), .int .i64 (d.shape 1), .int .i64 (d.shape 2), .int .i64 (d.shape 3), .int .i64 (d.shape 4), .int .i64 (d.shape 5), .int .i64 (d.shape 6), .int .i64 (d.shape 7), .int .i64 (d.shape 8), .slice p1 d.groups.1 c1, .slice p2 d.on.1 c2, .slice p3 d.tapes.1 c3, .int .i64 d.writes, .int .i64 d.stop, .bool d.down] 30)) := (Below.refl _ _).alloc (Nat.le_refl _) _
  have X3 : Box (w2.alloc (.cells #[.int .i64 (d.shape 0), .int .i64 (d.shape 1), .int .i64 (d.shape 2), .int .i64 (d.shape 3), .int .i64 (d.shape 4), .int .i64 (d.shape 5), .int .i64 (d.shape 6), .int .i64 (d.shape 7), .int .i64 (d.shape 8), .slice p1 d.groups.1 c1, .slice p2 d.on.1 c2, .slice p3 d.tapes.1 c3, .int .i64 d.writes, .int .i64 d.stop, .bool d.down] 30)) w2.heap.size #[.int .i64 (d.shape 0), .int .i64 (d.shape 1), .int .i64 (d.shape 2), .int .i64 (d.shape 3), .int .i64 (d.shape 4), .int .i64 (d.shape 5), .int .i64 (d.shape 6), .int .i64 (d.shape 7), .int .i64 (d.shape 8), .slice p1 d.groups.1 c1, .slice p2 d.on.1 c2, .slice p3 d.tapes.1 c3, .int .i64 d.writes, .int .i64 d.stop, .bool d.down] 30 := box_new _ _ _
  obtain ⟨W3, hW3⟩ : ∃ x, x = w2.alloc (.cells #[.int .i64 (d.shape 0), .int .i64 (d.shape 1), .int .i64 (d.shape 2), .int .i64 (d.shape 3), .int .i64 (d.shape 4), .int .i64 (d.shape 5), .int .i64 (d.shape 6), .int .i64 (d.shape 7), .int .i64 (d.shape 8), .slice p1 d.groups.1 c1, .slice p2 d.on.1 c2, .slice p3 d.tapes.1 c3, .int .i64 d.writes, .int .i64 d.stop, .bool d.down] 30) := ⟨_, rfl⟩
  rw [← hW3] at bA X3 ⊢
  have T3 := (HT4.out.call b2).call bA
  have WO := WO2.below bA (Nat.le_refl _)
  have z3 : w2.heap.size < W3.heap.size := X3.lt
  clear bA hW3 o2 b2 WO2
  have hup := ask_up HX.out
  by_cases hf : FailsP d
  · have HF : Hid (FailsP d) := hf
    have CR := l5Raw_fail w2.heap.size _ _ _ _ _ _ _ _ _ _ _ _ _ _ _ _ _ _ _ _ _ W3 X3 hup hf.1 hf.2
    have O3 := own_cut WO.own
    clear hf hup
    go_wp2_with fail
    refine CR.mono ?_
    rintro e w5 ⟨rfl, X5, C5⟩
    have T5 := T3.chgK C5 (fun b hb => by simp at hb; omega)
    have O5 := O3.chgk C5 (fun b hb => by simp at hb; omega)
    have z5 := C5.size
    clear X3 T3 WO O3 C5 CR
    go_wp2_with (first | (refine wp_loadBox 30 (.tmp 8) rfl rfl (w2.heap.size) rfl (cs := [.int .i64 (d.shape 0), .int .i64 (d.shape 1), .int .i64 (d.shape 2), .int .i64 (d.shape 3), .int .i64 (d.shape 4), .int .i64 (d.shape 5), .int .i64 (d.shape 6), .int .i64 (d.shape 7), .int .i64 (d.shape 8), .slice p1 d.groups.1 c1, .slice none 0 0, .slice p3 d.tapes.1 c3, .int .i64 d.writes, .int .i64 d.stop, .bool true]) (X5) Tryz.underlying30 size_W rfl ?_) | (refine wp_storeBox 34 _ _ rfl rfl (w.heap.size + 1) rfl (cs := [.int .i64 9, .int .i64 (d.shape 0), .int .i64 (d.shape 1), .int .i64 (d.shape 2), .int .i64 (d.shape 3), .int .i64 (d.shape 4), .int .i64 (d.shape 5), .int .i64 (d.shape 6), .int .i64 (d.shape 7), .int .i64 (d.shape 8), .slice p1 d.groups.1 c1, .slice none 0 0, .slice p3 d.tapes.1 c3, .int .i64 d.writes, .int .i64 d.stop, .bool true]) (old := [.int .i64 0, .int .i64 0, .int .i64 0, .int .i64 0, .int .i64 0, .int .i64 0, .int .i64 0, .int .i64 0, .int .i64 0, .int .i64 0, .slice none 0 0, .slice none 0 0, .slice none 0 0, .int .i64 0, .int .i64 0, .bool false]) rfl (T5.b2) size_WR rfl rfl ((own_resOf 9 (by decide) O5).one) ?_; intro w9 X9 C9 z9))
    refine ret_box Tryz.results45 rfl X9 Tryz.underlying34 size_WR rfl rfl ?_
    exact post_world (by decide) T5.bel C9 O5 (by omega) (by omega) (.inr ⟨HX.out, .inr ⟨HD.out, .inr ⟨HON.out, .inl ⟨HF.out, rfl⟩⟩⟩⟩)
  have HF : Hid (¬ FailsP d) := hf
  have CR := l5Raw_ok w2.heap.size _ _ _ _ _ _ _ _ _ _ _ _ _ _ _ _ _ _ _ _ _ W3 X3 hup hf (count_in HOK.out)
  clear hf hup
  go_wp2_with fail
  refine CR.mono ?_
  rintro e w5 ⟨rfl, X5, C5⟩
  have T5 := T3.chgK C5 (fun b hb => by simp at hb; omega)
  have WO5 := WO.chgn C5 (fun b hb hm => by simp at hb; have := WO.inn b hm; omega)
  have z5 := C5.size
  clear X3 T3 WO C5 CR
  obtain ⟨G, K, rfl, rfl, hG, hK⟩ := drive_at HOK.out HD.out
  obtain ⟨g1, cc1, gg, cap, ce, Ls, e1, c0, S2, nd2, in2, in1, ng1, back⟩ := WO5.drives (by omega) (by omega) hG (by omega)
  simp only [Value.slice.injEq, true_and] at e1
  obtain ⟨rfl, rfl⟩ := e1
  obtain ⟨ao9, cap9, K9, e9, eK9, o9⟩ := Drive_own (S2.each K hK)
  have y0 : w5.cell? ⟨gg, K * 2, none⟩ = some (.bool ((d.groups.2 G).2 K).wiped) := (S2.cell hK (j := 0) (by decide)).trans (by rw [e9]; rfl)
  have f0 : w5.frozen? ⟨gg, K * 2, none⟩ = false := S2.frozen _
  have xg : w5.cell? ⟨w2.heap.size, 9, none⟩ = some (.slice (some ⟨g1, 0, none⟩) d.groups.1 c1) := X5.cell 9
  have i1 : (0 : Int) ≤ (G : Int) := by omega
  have i2 : (G : Int) < (d.groups.1 : Int) := by omega
  have i3 : (0 : Int) ≤ (K : Int) := by omega
  have i4 : (K : Int) < ((d.groups.2 G).1 : Int) := by omega
  have TK : Turn layDrive w5 (Ls K) w5 (trustD ((d.groups.2 G).2 K)) ((ce K).set 0 (.bool false)) (Ls K) := by
    rw [e9, eK9]
    exact ⟨Drive_mk (trustD ((d.groups.2 G).2 K)) o9, by rw [← eK9]; exact catN_each (List.nodup_cons.1 nd2).2 hK, fun b hb => .inl hb, ChgL.refl _ _⟩
  obtain ⟨TT, -⟩ := S2.turn_cell nd2 hK (j := 0) (by decide) (.bool false) TK (w' := w5.setCell ⟨gg, K * layDrive.sz + 0, none⟩ (.bool false)) rfl
  obtain ⟨K1', WO7⟩ := back _ _ _ TT
  have X7 := X5.chgl TT.chg (fun hb => by have := in2 _ hb; omega)
  have T7 := T5.chgK TT.chg (fun b hb => by have := in2 _ hb; omega)
  have O7 : OwnT layWorld (w5.setCell ⟨gg, K * layDrive.sz + 0, none⟩ (.bool false)) w4.heap.size (w5.setCell ⟨gg, K * layDrive.sz + 0, none⟩ (.bool false)).heap.size (trustedW d G K) [.int .i64 (d.shape 0), .int .i64 (d.shape 1), .int .i64 (d.shape 2), .int .i64 (d.shape 3), .int .i64 (d.shape 4), .int .i64 (d.shape 5), .int .i64 (d.shape 6), .int .i64 (d.shape 7), .int .i64 (d.shape 8), .slice (some ⟨g1, 0, none⟩) d.groups.1 c1, .slice p2 d.on.1 c2, .slice p3 d.tapes.1 c3, .int .i64 (d.writes + 1), .int .i64 d.stop, .bool d.down] := (WO7.writes (d.writes + 1) (by have := count_in HOK.out; omega)).own
  clear WO7 TT back WO5 S2 nd2 e9 eK9 o9 TK X5 T5
  go_upto_region 12 with fail
  obtain ⟨W7, hW7⟩ : ∃ x, x = w5.setCell ⟨gg, K * layDrive.sz + 0, none⟩ (.bool false) := ⟨_, rfl⟩
  change Code.wp Tryz.prog _ _ _ (w5.setCell ⟨gg, K * layDrive.sz + 0, none⟩ (.bool false))
  have z7 : W7.heap.size = w5.heap.size := by rw [hW7]; simp
  rw [← hW7] at X7 T7 O7 ⊢
  clear hW7 y0 f0 xg c0
  go_wp2_with (first | (refine wp_loadBox 30 (.tmp 8) rfl rfl (w2.heap.size) rfl (cs := [.int .i64 (d.shape 0), .int .i64 (d.shape 1), .int .i64 (d.shape 2), .int .i64 (d.shape 3), .int .i64 (d.shape 4), .int .i64 (d.shape 5), .int .i64 (d.shape 6), .int .i64 (d.shape 7), .int .i64 (d.shape 8), .slice (some ⟨g1, 0, none⟩) d.groups.1 c1, .slice p2 d.on.1 c2, .slice p3 d.tapes.1 c3, .int .i64 (d.writes + 1), .int .i64 d.stop, .bool d.down]) (X7) Tryz.underlying30 size_W rfl ?_) | (refine wp_storeBox 34 _ _ rfl rfl (w.heap.size + 1) rfl (cs := [.int .i64 0, .int .i64 (d.shape 0), .int .i64 (d.shape 1), .int .i64 (d.shape 2), .int .i64 (d.shape 3), .int .i64 (d.shape 4), .int .i64 (d.shape 5), .int .i64 (d.shape 6), .int .i64 (d.shape 7), .int .i64 (d.shape 8), .slice (some ⟨g1, 0, none⟩) d.groups.1 c1, .slice p2 d.on.1 c2, .slice p3 d.tapes.1 c3, .int .i64 (d.writes + 1), .int .i64 d.stop, .bool d.down]) (old := [.int .i64 0, .int .i64 0, .int .i64 0, .int .i64 0, .int .i64 0, .int .i64 0, .int .i64 0, .int .i64 0, .int .i64 0, .int .i64 0, .slice none 0 0, .slice none 0 0, .slice none 0 0, .int .i64 0, .int .i64 0, .bool false]) rfl (T7.b2) size_WR rfl rfl ((own_resOf 0 (by decide) O7).one) ?_; intro w9 X9 C9 z9))
  refine ret_box Tryz.results45 rfl X9 Tryz.underlying34 size_WR rfl rfl ?_
  exact post_world (by decide) T7.bel C9 O7 (by omega) (by omega) (.inr ⟨HX.out, .inr ⟨HD.out, .inr ⟨HON.out, .inr ⟨HF.out, rfl⟩⟩⟩⟩)
end Go.Proofs.YtdgbnongbmgdcaaGreat

namespace Go.Proofs.YtdgbnongbmgdcaaGreat
open Go.RowKit F256
set_option linter.unusedVariables false
set_option linter.unusedSimpArgs false
set_option maxHeartbeats 32000000 in
set_option maxRecDepth 20000 in
theorem implTrust_any (d : WorldD) (g k : Int) (cs : List Value) (hi : Nat) (w : World) (h : layWorld.rd w hi d cs) (hhi : hi ≤ w.heap.size) (hsz : szWorldD d ≤ 1048576) (hg : -9223372036854775808 ≤ g ∧ g ≤ 9223372036854775807) (hk : -9223372036854775808 ≤ k ∧ k ≤ 9223372036854775807) :
    Calls Tryz.prog 46 #[.agg cs.toArray, .int .i64 g, .int .i64 k] w (ResPost (TrustAns d g k) w) := by
  have h' := h
  obtain ⟨ao1, cap1, ao2, cap2, ao3, cap3, rfl, g1, g2, g3, k0, k4, k5⟩ := World_rd h'
  have HRD : Hid (layWorld.rd w hi d [.int .i64 (d.shape 0), .int .i64 (d.shape 1), .int .i64 (d.shape 2), .int .i64 (d.shape 3), .int .i64 (d.shape 4), .int .i64 (d.shape 5), .int .i64 (d.shape 6), .int .i64 (d.shape 7), .int .i64 (d.shape 8), .slice ao1 d.groups.1 cap1, .slice ao2 d.on.1 cap2, .slice ao3 d.tapes.1 cap3, .int .i64 d.writes, .int .i64 d.stop, .bool d.down]) := h
  have HSZ : Hid (szWorldD d ≤ 1048576) := hsz
  have hmf : ∀ (fn : Fn) (first cap : Array Value) (w : World), (Instr.makeFunc fn first cap).run Tryz.prog w = .ok (.func fn first cap) w := fun _ _ _ _ => rfl
  clear h h' hsz g1 g2 g3 k0 k4 k5 hg hk
  have T0 := cap2_new w #[.int .i64 (d.shape 0), .int .i64 (d.shape 1), .int .i64 (d.shape 2), .int .i64 (d.shape 3), .int .i64 (d.shape 4), .int .i64 (d.shape 5), .int .i64 (d.shape 6), .int .i64 (d.shape 7), .int .i64 (d.shape 8), .slice ao1 d.groups.1 cap1, .slice ao2 d.on.1 cap2, .slice ao3 d.tapes.1 cap3, .int .i64 d.writes, .int .i64 d.stop, .bool d.down] #[.int .i64 0, .int .i64 0, .int .i64 0, .int .i64 0, .int .i64 0, .int .i64 0, .int .i64 0, .int .i64 0, .int .i64 0, .int .i64 0, .slice none 0 0, .slice none 0 0, .slice none 0 0, .int .i64 0, .int .i64 0, .bool false] g k 30 34
  go_enter Tryz.func46, Tryz.ntmps46
  go_wp2_with (refine wp_loadBox 30 (.tmp 3) rfl rfl (w.heap.size) rfl (cs := [.int .i64 (d.shape 0), .int .i64 (d.shape 1), .int .i64 (d.shape 2), .int .i64 (d.shape 3), .int .i64 (d.shape 4), .int .i64 (d.shape 5), .int .i64 (d.shape 6), .int .i64 (d.shape 7), .int .i64 (d.shape 8), .slice ao1 d.groups.1 cap1, .slice ao2 d.on.1 cap2, .slice ao3 d.tapes.1 cap3, .int .i64 d.writes, .int .i64 d.stop, .bool d.down]) (T0.b1) Tryz.underlying30 size_W rfl ?_)
  refine (powered_any d _ hi _ (layWorld.rd_below HRD.out T0.bel hhi) (Nat.le_trans hhi T0.bel.size) HSZ.out).mono ?_
  rintro e w1 ⟨x, rfl, hx, b1⟩
  have HT1 : Hid (Cap2 w w1 #[.int .i64 (d.shape 0), .int .i64 (d.shape 1), .int .i64 (d.shape 2), .int .i64 (d.shape 3), .int .i64 (d.shape 4), .int .i64 (d.shape 5), .int .i64 (d.shape 6), .int .i64 (d.shape 7), .int .i64 (d.shape 8), .slice ao1 d.groups.1 cap1, .slice ao2 d.on.1 cap2, .slice ao3 d.tapes.1 cap3, .int .i64 d.writes, .int .i64 d.stop, .bool d.down] g k #[.int .i64 0, .int .i64 0, .int .i64 0, .int .i64 0, .int .i64 0, .int .i64 0, .int .i64 0, .int .i64 0, .int .i64 0, .int .i64 0, .slice none 0 0, .slice none 0 0, .slice none 0 0, .int .i64 0, .int .i64 0, .bool false] 30 34) := T0.call b1
  have HX : Hid (AskAns d x) := hx
  have z1 : w.heap.size + 1 + 1 + 1 < w1.heap.size := HT1.out.b4.lt
  clear b1 T0 hx
  by_cases hx0 : x = 0
  case neg =>
    have hne : (x != 0) = true := by simp [hx0]
    go_wp2_with (refine wp_storeBox 34 _ _ rfl rfl (w.heap.size + 1 + 1 + 1) rfl (cs := [.int .i64 x, .int .i64 0, .int .i64 0, .int .i64 0, .int .i64 0, .int .i64 0, .int .i64 0, .int .i64 0, .int .i64 0, .int .i64 0, .slice none 0 0, .slice none 0 0, .slice none 0 0, .int .i64 0, .int .i64 0, .bool false]) (old := [.int .i64 0, .int .i64 0, .int .i64 0, .int .i64 0, .int .i64 0, .int .i64 0, .int .i64 0, .int .i64 0, .int .i64 0, .int .i64 0, .slice none 0 0, .slice none 0 0, .slice none 0 0, .int .i64 0, .int .i64 0, .bool false]) rfl (HT1.out.b4) size_WR rfl rfl (code_one _ (ask_small HX.out) w) ?_; intro w9 X9 C9 z9)
    refine ret_box Tryz.results46 rfl X9 Tryz.underlying34 size_WR rfl rfl ?_
    exact post_codeR (by omega) (ask_small HX.out) HT1.out.bel C9 (.inl ⟨x, hx0, HX.out, rfl⟩)
  subst hx0
  have HOK : Hid (OkWorld d) := ask_ok HX.out
  have x_0 : w1.cell? ⟨w.heap.size, 0, none⟩ = some (.int .i64 (d.shape 0)) := HT1.out.b1.cell 0
  have x_1 : w1.cell? ⟨w.heap.size, 1, none⟩ = some (.int .i64 (d.shape 1)) := HT1.out.b1.cell 1
  have x_2 : w1.cell? ⟨w.heap.size, 2, none⟩ = some (.int .i64 (d.shape 2)) := HT1.out.b1.cell 2
  have x_3 : w1.cell? ⟨w.heap.size, 3, none⟩ = some (.int .i64 (d.shape 3)) := HT1.out.b1.cell 3
  have x_4 : w1.cell? ⟨w.heap.size, 4, none⟩ = some (.int .i64 (d.shape 4)) := HT1.out.b1.cell 4
  have x_5 : w1.cell? ⟨w.heap.size, 5, none⟩ = some (.int .i64 (d.shape 5)) := HT1.out.b1.cell 5
  have x_6 : w1.cell? ⟨w.heap.size, 6, none⟩ = some (.int .i64 (d.shape 6)) := HT1.out.b1.cell 6
  have x_7 : w1.cell? ⟨w.heap.size, 7, none⟩ = some (.int .i64 (d.shape 7)) := HT1.out.b1.cell 7
  have x_8 : w1.cell? ⟨w.heap.size, 8, none⟩ = some (.int .i64 (d.shape 8)) := HT1.out.b1.cell 8
  have xg : w1.cell? ⟨w.heap.size + 1, 0, none⟩ = some (.int .i64 g) := HT1.out.b2.cell 0
  have xk : w1.cell? ⟨w.heap.size + 1 + 1, 0, none⟩ = some (.int .i64 k) := HT1.out.b3.cell 0
  have CP := fun w' => isDrive_any d.shape HOK.out.shape g k w'
  unfold shapeV at CP
  go_wp2_with fail
  refine (CP _).mono ?_
  rintro e wA ⟨b, rfl, hb, bA⟩
  have HTA : Hid (Cap2 w wA #[.int .i64 (d.shape 0), .int .i64 (d.shape 1), .int .i64 (d.shape 2), .int .i64 (d.shape 3), .int .i64 (d.shape 4), .int .i64 (d.shape 5), .int .i64 (d.shape 6), .int .i64 (d.shape 7), .int .i64 (d.shape 8), .slice ao1 d.groups.1 cap1, .slice ao2 d.on.1 cap2, .slice ao3 d.tapes.1 cap3, .int .i64 d.writes, .int .i64 d.stop, .bool d.down] g k #[.int .i64 0, .int .i64 0, .int .i64 0, .int .i64 0, .int .i64 0, .int .i64 0, .int .i64 0, .int .i64 0, .int .i64 0, .int .i64 0, .slice none 0 0, .slice none 0 0, .slice none 0 0, .int .i64 0, .int .i64 0, .bool false] 30 34) := HT1.out.call bA
  have zA : w1.heap.size ≤ wA.heap.size := bA.size
  have Hb : Hid (b = true ↔ DriveP d.shape g k) := hb
  clear bA CP hb xg xk x_0 x_1 x_2 x_3 x_4 x_5 x_6 x_7 x_8
  cases b with
  | false =>
    go_wp2_with (refine wp_storeBox 34 _ _ rfl rfl (w.heap.size + 1 + 1 + 1) rfl (cs := [.int .i64 3, .int .i64 0, .int .i64 0, .int .i64 0, .int .i64 0, .int .i64 0, .int .i64 0, .int .i64 0, .int .i64 0, .int .i64 0, .slice none 0 0, .slice none 0 0, .slice none 0 0, .int .i64 0, .int .i64 0, .bool false]) (old := [.int .i64 0, .int .i64 0, .int .i64 0, .int .i64 0, .int .i64 0, .int .i64 0, .int .i64 0, .int .i64 0, .int .i64 0, .int .i64 0, .slice none 0 0, .slice none 0 0, .slice none 0 0, .int .i64 0, .int .i64 0, .bool false]) rfl (HTA.out.b4) size_WR rfl rfl (code_one _ (by decide) w) ?_; intro w9 X9 C9 z9)
    refine ret_box Tryz.results46 rfl X9 Tryz.underlying34 size_WR rfl rfl ?_
    exact post_codeR (by omega) (by decide) HTA.out.bel C9 (.inr ⟨HX.out, .inl ⟨fun h => (by have := Hb.out.2 h; cases this), rfl⟩⟩)
  | true =>
  have HD : Hid (DriveP d.shape g k) := Hb.out.1 (by simp)
  have xg : wA.cell? ⟨w.heap.size + 1, 0, none⟩ = some (.int .i64 g) := HTA.out.b2.cell 0
  go_wp2_with (refine wp_loadBox 30 (.tmp 3) rfl rfl (w.heap.size) rfl (cs := [.int .i64 (d.shape 0), .int .i64 (d.shape 1), .int .i64 (d.shape 2), .int .i64 (d.shape 3), .int .i64 (d.shape 4), .int .i64 (d.shape 5), .int .i64 (d.shape 6), .int .i64 (d.shape 7), .int .i64 (d.shape 8), .slice ao1 d.groups.1 cap1, .slice ao2 d.on.1 cap2, .slice ao3 d.tapes.1 cap3, .int .i64 d.writes, .int .i64 d.stop, .bool d.down]) (HTA.out.b1) Tryz.underlying30 size_W rfl ?_)
  refine (isOn_any d _ hi g _ (layWorld.rd_below HRD.out HTA.out.bel hhi) (Nat.le_trans hhi HTA.out.bel.size)).mono ?_
  rintro e w4 ⟨t, rfl, ht, b4⟩
  have HT4 : Hid (Cap2 w w4 #[.int .i64 (d.shape 0), .int .i64 (d.shape 1), .int .i64 (d.shape 2), .int .i64 (d.shape 3), .int .i64 (d.shape 4), .int .i64 (d.shape 5), .int .i64 (d.shape 6), .int .i64 (d.shape 7), .int .i64 (d.shape 8), .slice ao1 d.groups.1 cap1, .slice ao2 d.on.1 cap2, .slice ao3 d.tapes.1 cap3, .int .i64 d.writes, .int .i64 d.stop, .bool d.down] g k #[.int .i64 0, .int .i64 0, .int .i64 0, .int .i64 0, .int .i64 0, .int .i64 0, .int .i64 0, .int .i64 0, .int .i64 0, .int .i64 0, .slice none 0 0, .slice none 0 0, .slice none 0 0, .int .i64 0, .int .i64 0, .bool false] 30 34) := HTA.out.call b4
  have z4 : wA.heap.size ≤ w4.heap.size := b4.size
  have HH : Hid (t = true ↔ HasP d.on.1 d.on.2 g) := ht
  clear b4 ht xg
  cases t with
  | false =>
    go_wp2_with (refine wp_storeBox 34 _ _ rfl rfl (w.heap.size + 1 + 1 + 1) rfl (cs := [.int .i64 8, .int .i64 0, .int .i64 0, .int .i64 0, .int .i64 0, .int .i64 0, .int .i64 0, .int .i64 0, .int .i64 0, .int .i64 0, .slice none 0 0, .slice none 0 0, .slice none 0 0, .int .i64 0, .int .i64 0, .bool false]) (old := [.int .i64 0, .int .i64 0, .int .i64 0, .int .i64 0, .int .i64 0, .int .i64 0, .int .i64 0, .int .i64 0, .int .i64 0, .int .i64 0, .slice none 0 0, .slice none 0 0, .slice none 0 0, .int .i64 0, .int .i64 0, .bool false]) rfl (HT4.out.b4) size_WR rfl rfl (code_one _ (by decide) w) ?_; intro w9 X9 C9 z9)
    refine ret_box Tryz.results46 rfl X9 Tryz.underlying34 size_WR rfl rfl ?_
    exact post_codeR (by omega) (by decide) HT4.out.bel C9 (.inr ⟨HX.out, .inr ⟨HD.out, .inl ⟨fun h => (by have := HH.out.2 h; cases this), rfl⟩⟩⟩)
  | true =>
  have HON : Hid (HasP d.on.1 d.on.2 g) := HH.out.1 (by simp)
  obtain ⟨G, K, rfl, rfl, hG, hK⟩ := drive_at HOK.out HD.out
  have CW := power_trust d [.int .i64 (d.shape 0), .int .i64 (d.shape 1), .int .i64 (d.shape 2), .int .i64 (d.shape 3), .int .i64 (d.shape 4), .int .i64 (d.shape 5), .int .i64 (d.shape 6), .int .i64 (d.shape 7), .int .i64 (d.shape 8), .slice ao1 d.groups.1 cap1, .slice ao2 d.on.1 cap2, .slice ao3 d.tapes.1 cap3, .int .i64 d.writes, .int .i64 d.stop, .bool d.down] hi G K (w.heap.size + 1) (w.heap.size + 1 + 1) w4 (layWorld.rd_below HRD.out HT4.out.bel hhi) (Nat.le_trans hhi HT4.out.bel.size) HSZ.out (HT4.out.b2.cell 0) HT4.out.b2.lt (HT4.out.b3.cell 0) HT4.out.b3.lt hG hK (count_in HOK.out) (TrustAns d G K) (fun hf => .inr ⟨HX.out, .inr ⟨HD.out, .inr ⟨HON.out, .inl ⟨hf, rfl⟩⟩⟩⟩) (fun hf => .inr ⟨HX.out, .inr ⟨HD.out, .inr ⟨HON.out, .inr ⟨hf, rfl⟩⟩⟩⟩)
  have CW := CW.mono (R' := fun e w' => ∃ d' sc s0 s1 s2 s3 s4 s5 s6 s7 s8 sp0 sl0 sq0 sp1 sl1 sq1 sp2 sl2 sq2 s9 s10 sb, e = .returned (.agg #[.int .i64 sc, .int .i64 s0, .int .i64 s1, .int .i64 s2, .int .i64 s3, .int .i64 s4, .int .i64 s5, .int .i64 s6, .int .i64 s7, .int .i64 s8, .slice sp0 sl0 sq0, .slice sp1 sl1 sq1, .slice sp2 sl2 sq2, .int .i64 s9, .int .i64 s10, .bool sb]) ∧ TrustAns d G K d' ∧ OwnT layWorldResult w' w4.heap.size w'.heap.size d' [.int .i64 sc, .int .i64 s0, .int .i64 s1, .int .i64 s2, .int .i64 s3, .int .i64 s4, .int .i64 s5, .int .i64 s6, .int .i64 s7, .int .i64 s8, .slice sp0 sl0 sq0, .slice sp1 sl1 sq1, .slice sp2 sl2 sq2, .int .i64 s9, .int .i64 s10, .bool sb] ∧ Below w4.heap.size w4 w') (fun e w' ⟨d', cs', he, hP, ho, hb⟩ => by
    obtain ⟨sc, s0, s1, s2, s3, s4, s5, s6, s7, s8, sp0, sl0, sq0, sp1, sl1, sq1, sp2, sl2, sq2, s9, s10, sb, rfl⟩ := wres16 ho.rd
    exact ⟨d', sc, s0, s1, s2, s3, s4, s5, s6, s7, s8, sp0, sl0, sq0, sp1, sl1, sq1, sp2, sl2, sq2, s9, s10, sb, he, hP, ho, hb⟩)
  go_wp2_with (first | (refine wp_loadBox 30 (.tmp 3) rfl rfl (w.heap.size) rfl (cs := [.int .i64 (d.shape 0), .int .i64 (d.shape 1), .int .i64 (d.shape 2), .int .i64 (d.shape 3), .int .i64 (d.shape 4), .int .i64 (d.shape 5), .int .i64 (d.shape 6), .int .i64 (d.shape 7), .int .i64 (d.shape 8), .slice ao1 d.groups.1 cap1, .slice ao2 d.on.1 cap2, .slice ao3 d.tapes.1 cap3, .int .i64 d.writes, .int .i64 d.stop, .bool d.down]) (HT4.out.b1) Tryz.underlying30 size_W rfl ?_) | (go_at_call 87; refine CW.mono ?_; rintro e w5 ⟨d', sc, s0, s1, s2, s3, s4, s5, s6, s7, s8, sp0, sl0, sq0, sp1, sl1, sq1, sp2, sl2, sq2, s9, s10, sb, rfl, hP, o5, b5⟩; have T5 := HT4.out.call b5; have z5 : w4.heap.size ≤ w5.heap.size := b5.size) | (refine wp_storeBox 34 _ _ rfl rfl (w.heap.size + 1 + 1 + 1) rfl (cs := [.int .i64 sc, .int .i64 s0, .int .i64 s1, .int .i64 s2, .int .i64 s3, .int .i64 s4, .int .i64 s5, .int .i64 s6, .int .i64 s7, .int .i64 s8, .slice sp0 sl0 sq0, .slice sp1 sl1 sq1, .slice sp2 sl2 sq2, .int .i64 s9, .int .i64 s10, .bool sb]) (old := [.int .i64 0, .int .i64 0, .int .i64 0, .int .i64 0, .int .i64 0, .int .i64 0, .int .i64 0, .int .i64 0, .int .i64 0, .int .i64 0, .slice none 0 0, .slice none 0 0, .slice none 0 0, .int .i64 0, .int .i64 0, .bool false]) rfl (T5.b4) size_WR rfl rfl (o5.one) ?_; intro w9 X9 C9 z9))
  refine ret_box Tryz.results46 rfl X9 Tryz.underlying34 size_WR rfl rfl ?_
  refine ⟨d', [.int .i64 sc, .int .i64 s0, .int .i64 s1, .int .i64 s2, .int .i64 s3, .int .i64 s4, .int .i64 s5, .int .i64 s6, .int .i64 s7, .int .i64 s8, .slice sp0 sl0 sq0, .slice sp1 sl1 sq1, .slice sp2 sl2 sq2, .int .i64 s9, .int .i64 s10, .bool sb], rfl, hP, (o5.chgk C9 (fun b hb => by simp at hb; omega)).weaken (by omega) C9.size, T5.bel.trans (C9.bel (fun b hb => by simp at hb; omega) T5.bel.size)⟩
end Go.Proofs.YtdgbnongbmgdcaaGreat

namespace Go.Proofs.YtdgbnongbmgdcaaGreat
open Go.ChangeShapes Go.WideShapes Go.ChangeAt Go.RowKit F256
set_option linter.unusedVariables false
set_option linter.unusedSimpArgs false
theorem fifteen {w : World} {b : Nat} {t : TypeId} {a0 a1 a2 a3 a4 a5 a6 a7 a8 a9 a10 a11 a12 a13 a14 : Value} (h : Box w b #[a0, a1, a2, a3, a4, a5, a6, a7, a8, a9, a10, a11, a12, a13, a14] t) :
    w.cell? ⟨b, 0, none⟩ = some a0 ∧ w.cell? ⟨b, 1, none⟩ = some a1 ∧ w.cell? ⟨b, 2, none⟩ = some a2 ∧ w.cell? ⟨b, 3, none⟩ = some a3 ∧ w.cell? ⟨b, 4, none⟩ = some a4 ∧ w.cell? ⟨b, 5, none⟩ = some a5 ∧ w.cell? ⟨b, 6, none⟩ = some a6 ∧ w.cell? ⟨b, 7, none⟩ = some a7 ∧ w.cell? ⟨b, 8, none⟩ = some a8 ∧ w.cell? ⟨b, 9, none⟩ = some a9 ∧ w.cell? ⟨b, 10, none⟩ = some a10 ∧ w.cell? ⟨b, 11, none⟩ = some a11 ∧ w.cell? ⟨b, 12, none⟩ = some a12 ∧ w.cell? ⟨b, 13, none⟩ = some a13 ∧ w.cell? ⟨b, 14, none⟩ = some a14 :=
  ⟨h.cell 0, h.cell 1, h.cell 2, h.cell 3, h.cell 4, h.cell 5, h.cell 6, h.cell 7, h.cell 8, h.cell 9, h.cell 10, h.cell 11, h.cell 12, h.cell 13, h.cell 14⟩
theorem sum_upd {α : Type} (c : α → Nat) (x : Nat → α) (k : Nat) (a : α) : ∀ n : Nat, sumN (fun i => c (upd x k a i)) n ≤ sumN (fun i => c (x i)) n + (if k < n then c a else 0)
  | 0 => by simp [sumN]
  | n + 1 => by
    have ih := sum_upd c x k a n
    rw [sumN_succ, sumN_succ]
    by_cases h : n = k
    · subst h
      rw [upd_at, if_pos (by omega)]
      rw [if_neg (by omega)] at ih
      omega
    · rw [upd_ne x a h]
      by_cases h2 : k < n
      · rw [if_pos h2] at ih; rw [if_pos (by omega)]; omega
      · rw [if_neg h2] at ih; rw [if_neg (by omega)]; omega
theorem cSl_upd {α : Type} (c : α → Nat) (p : Nat × (Nat → α)) (k : Nat) (a : α) : cSl c (p.1, upd p.2 k a) ≤ cSl c p + c a := by
  have := sum_upd c p.2 k a p.1
  unfold cSl
  show sumN (fun i => c (upd p.2 k a i)) p.1 ≤ _
  split at this <;> omega
theorem ask_ex (d : WorldD) : ∃ x, AskAns d x := by
  obtain ⟨x, hx⟩ := world_ex d
  by_cases h : x = 0
  · subst h
    cases hd : d.down with
    | true => exact ⟨9, .inr ⟨hx, .inl ⟨hd, rfl⟩⟩⟩
    | false => exact ⟨0, .inr ⟨hx, .inr ⟨hd, rfl⟩⟩⟩
  · exact ⟨x, .inl ⟨h, hx⟩⟩
theorem trust_ex (d : WorldD) (g k : Int) : ∃ q, TrustAns d g k q := by
  obtain ⟨x, hx⟩ := ask_ex d
  by_cases h : x = 0
  · subst h
    by_cases h1 : DriveP d.shape g k
    · by_cases h2 : HasP d.on.1 d.on.2 g
      · by_cases h3 : FailsP d
        · exact ⟨_, .inr ⟨hx, .inr ⟨h1, .inr ⟨h2, .inl ⟨h3, rfl⟩⟩⟩⟩⟩
        · exact ⟨_, .inr ⟨hx, .inr ⟨h1, .inr ⟨h2, .inr ⟨h3, rfl⟩⟩⟩⟩⟩
      · exact ⟨_, .inr ⟨hx, .inr ⟨h1, .inl ⟨h2, rfl⟩⟩⟩⟩
    · exact ⟨_, .inr ⟨hx, .inl ⟨h1, rfl⟩⟩⟩
  · exact ⟨_, .inl ⟨x, h, hx, rfl⟩⟩
theorem trust_cv {d : WorldD} {g k : Int} {q : WorldResultD} (hq : TrustAns d g k q) (hsz : szWorldD d ≤ 1048576) : cvWorldResultD q ≤ 90000000 := by
  have h1 := cvWorld_le d
  rcases hq with ⟨x, _, _, rfl⟩ | ⟨h0, ⟨_, rfl⟩ | ⟨hp, ⟨_, rfl⟩ | ⟨_, ⟨_, rfl⟩ | ⟨_, rfl⟩⟩⟩⟩
  · exact Nat.zero_le _
  · exact Nat.zero_le _
  · exact Nat.zero_le _
  · have e : cvWorldD (cutW d) + d.on.1 = cvWorldD d := by
      unfold cvWorldD lenD
      show (cSl (cSl cDriveD)) d.groups + 0 + (cSl cTapeD) d.tapes + d.on.1 = _
      omega
    show cvWorldD (cutW d) ≤ _
    omega
  · obtain ⟨G, K, rfl, rfl, hG, hK⟩ := drive_at (ask_ok h0) hp
    have hs : szSl (szSl szDriveD) d.groups ≤ 1048576 := by unfold szWorldD at hsz; omega
    have h2 := cSl_upd (cSl cDriveD) d.groups G ((d.groups.2 G).1, upd (d.groups.2 G).2 K (trustD ((d.groups.2 G).2 K)))
    have h3 := cSl_upd cDriveD (d.groups.2 G) K (trustD ((d.groups.2 G).2 K))
    have h4 := cSl_le (k := 6) cDrive_le (d.groups.2 G)
    have h5 : szSl szDriveD (d.groups.2 G) ≤ 1048576 := szSl_at hs hG
    have h6 : cDriveD (trustD ((d.groups.2 G).2 K)) = cDriveD ((d.groups.2 G).2 K) := rfl
    have h7 := cDrive_le ((d.groups.2 G).2 K)
    have h8 : szDriveD ((d.groups.2 G).2 K) ≤ 1048576 := szSl_at h5 hK
    show cvWorldD (trustedW d G K) ≤ _
    unfold cvWorldD at h1 ⊢
    show (cSl (cSl cDriveD)) (d.groups.1, upd d.groups.2 G ((d.groups.2 G).1, upd (d.groups.2 G).2 K (trustD ((d.groups.2 G).2 K)))) + lenD d.on + (cSl cTapeD) d.tapes ≤ _
    omega
theorem trust_det {d : WorldD} {g k : Int} {q : WorldResultD} {w : World} {f : Nat} {args : Array Value} (hq : TrustAns d g k q) (h : Calls Tryz.prog f args w (ResPost (TrustAns d g k) w)) : Calls Tryz.prog f args w fun e w' => ∃ cs, e = .returned (.agg cs.toArray) ∧ OwnT layWorldResult w' w.heap.size w'.heap.size q cs ∧ Below w.heap.size w w' :=
  h.mono fun e w' ⟨d', cs, h1, h2, h3, h4⟩ => ⟨cs, h1, by rw [hq.one h2]; exact h3, h4⟩
set_option maxHeartbeats 16000000 in
set_option maxRecDepth 20000 in
theorem fnExactTrustDrive_walk (d : WorldD) (cs : List Value) (i0 : Int) (i1 : Int) (w : World) (rd0 : layWorld.rd w w.heap.size d cs) (hi0 : -9223372036854775808 ≤ i0 ∧ i0 ≤ 9223372036854775807) (hi1 : -9223372036854775808 ≤ i1 ∧ i1 ≤ 9223372036854775807) :
    Calls Tryz.prog 9 #[.agg cs.toArray, .int .i64 i0, .int .i64 i1] w fun e w' => e = .returned (.bool true) ∧ Below w.heap.size w w' := by
  obtain ⟨v0, v1, v2, v3, v4, v5, v6, v7, v8, vp0, vl0, vq0, vp1, vl1, vq1, vp2, vl2, vq2, v9, v10, vb, rfl⟩ := world15 rd0
  have HR : Hid (layWorld.rd w w.heap.size d [.int .i64 v0, .int .i64 v1, .int .i64 v2, .int .i64 v3, .int .i64 v4, .int .i64 v5, .int .i64 v6, .int .i64 v7, .int .i64 v8, .slice vp0 vl0 vq0, .slice vp1 vl1 vq1, .slice vp2 vl2 vq2, .int .i64 v9, .int .i64 v10, .bool vb]) := rd0
  have HHi0 : Hid (-9223372036854775808 ≤ i0 ∧ i0 ≤ 9223372036854775807) := hi0
  have HHi1 : Hid (-9223372036854775808 ≤ i1 ∧ i1 ≤ 9223372036854775807) := hi1
  clear rd0 hi0 hi1
  have T0 := one_new w #[.int .i64 v0, .int .i64 v1, .int .i64 v2, .int .i64 v3, .int .i64 v4, .int .i64 v5, .int .i64 v6, .int .i64 v7, .int .i64 v8, .slice vp0 vl0 vq0, .slice vp1 vl1 vq1, .slice vp2 vl2 vq2, .int .i64 v9, .int .i64 v10, .bool vb] 55
  go_enter Tryz.func9, Tryz.ntmps9
  go_wp2_with (refine wp_loadBox 55 (.tmp 3) rfl rfl (w.heap.size) rfl (cs := [.int .i64 v0, .int .i64 v1, .int .i64 v2, .int .i64 v3, .int .i64 v4, .int .i64 v5, .int .i64 v6, .int .i64 v7, .int .i64 v8, .slice vp0 vl0 vq0, .slice vp1 vl1 vq1, .slice vp2 vl2 vq2, .int .i64 v9, .int .i64 v10, .bool vb]) T0.b1 Tryz.underlying55 size_LW rfl ?_)
  refine (szWorld_is _ d w.heap.size 1048576 _ (layWorld.rd_below HR.out T0.bel (Nat.le_refl _)) T0.bel.size (by omega)).mono ?_
  rintro e w1 ⟨x, rfl, hx, b1⟩
  have T1 := T0.call b1
  have HT1 : Hid (One w w1 #[.int .i64 v0, .int .i64 v1, .int .i64 v2, .int .i64 v3, .int .i64 v4, .int .i64 v5, .int .i64 v6, .int .i64 v7, .int .i64 v8, .slice vp0 vl0 vq0, .slice vp1 vl1 vq1, .slice vp2 vl2 vq2, .int .i64 v9, .int .i64 v10, .bool vb] 55) := T1
  clear b1 T0
  rcases hx with rfl | ⟨hsz, hx⟩
  · clear T1
    go_wp2
    go_ret
    exact ⟨rfl, HT1.out.bel⟩
  have hx0 : ¬ x < 0 := by omega
  clear hx
  obtain ⟨q, hq⟩ := trust_ex d i0 i1
  obtain ⟨N, hN⟩ : ∃ N, N = 1 + cvWorldResultD q := ⟨_, rfl⟩
  have hj : 1 + cvWorldResultD q ≤ 100000000 := by have := trust_cv hq hsz; omega
  obtain ⟨M, hM⟩ : ∃ M, M = 1 + cvWorldD d := ⟨_, rfl⟩
  have hk : 1 + cvWorldD d ≤ 100000000 := by have := cvWorld_le d; omega
  have CT : ∀ w', Below w1.heap.size w1 w' → Calls Tryz.prog 30 #[.agg #[.int .i64 v0, .int .i64 v1, .int .i64 v2, .int .i64 v3, .int .i64 v4, .int .i64 v5, .int .i64 v6, .int .i64 v7, .int .i64 v8, .slice vp0 vl0 vq0, .slice vp1 vl1 vq1, .slice vp2 vl2 vq2, .int .i64 v9, .int .i64 v10, .bool vb]] w' fun e w'' => ∃ cs', e = .returned (.agg cs'.toArray) ∧ OwnT layWorld w'' w'.heap.size w''.heap.size d cs' ∧ Below w'.heap.size w' w'' := fun w' hb =>
    toWorld_is _ d w.heap.size w' (layWorld.rd_below (layWorld.rd_below HR.out HT1.out.bel (Nat.le_refl _)) hb HT1.out.bel.size) (Nat.le_trans HT1.out.bel.size hb.size) hsz
  have CS := fun (cs' : List Value) (hi : Nat) (w' : World) (h1 : layWorld.rd w' hi d cs') (h2 : hi ≤ w'.heap.size) => trust_det hq (specTrust_any d i0 i1 cs' hi w' h1 h2 hsz HHi0.out HHi1.out)
  have CI := fun (cs' : List Value) (hi : Nat) (w' : World) (h1 : layWorld.rd w' hi d cs') (h2 : hi ≤ w'.heap.size) => trust_det hq (implTrust_any d i0 i1 cs' hi w' h1 h2 hsz HHi0.out HHi1.out)
  have CE := fun c1 c2 h1 h2 w' => eqWorldResult_is c1 c2 q h1 h2 w'
  have CW := fun c1 c2 h1 h2 w' => eqWorld_is c1 c2 d h1 h2 w'
  have CM := fun {w' : World} {lo hi : Nat} {cs : List Value} (h : OwnT layWorldResult w' lo hi q cs) => mark_T markWorldResult_is h 1 hj
  have CK := fun {w' : World} {lo hi : Nat} {cs : List Value} (h : OwnT layWorld w' lo hi d cs) => mark_T markWorld_is h 1 hk
  have CH := fun (cs : List Value) (hi : Nat) (w' : World) (h : layWorldResult.rd w' hi (mkvWorldResultD 1 q) cs) (hh : hi ≤ w'.heap.size) => heldWorldResult_is cs q hi 1 w' h hh hj
  rw [← hN] at CM CH
  rw [← hM] at CK
  clear hN hM hj hk hq hsz
  go_wp2_with (refine wp_loadBox 55 (.tmp 3) rfl rfl (w.heap.size) rfl (cs := [.int .i64 v0, .int .i64 v1, .int .i64 v2, .int .i64 v3, .int .i64 v4, .int .i64 v5, .int .i64 v6, .int .i64 v7, .int .i64 v8, .slice vp0 vl0 vq0, .slice vp1 vl1 vq1, .slice vp2 vl2 vq2, .int .i64 v9, .int .i64 v10, .bool vb]) T1.b1 Tryz.underlying55 size_LW rfl ?_)
  refine (CT _ (Below.refl _ _)).mono ?_
  rintro e w2 ⟨c2, rfl, o2, b2⟩
  have z1 : w.heap.size < w1.heap.size := T1.b1.lt
  clear T1
  go_wp2_with fail
  refine (CS _ _ _ o2.rd (Nat.le_refl _)).mono ?_
  rintro e w3 ⟨cS, rfl, oS, b3⟩
  obtain ⟨sc, s0, s1, s2, s3, s4, s5, s6, s7, s8, sp0, sl0, sq0, sp1, sl1, sq1, sp2, sl2, sq2, s9, s10, sb, rfl⟩ := wres16 oS.rd
  have z2 : w1.heap.size ≤ w2.heap.size := b2.size
  have z3 : w2.heap.size ≤ w3.heap.size := b3.size
  have B3 : Below w1.heap.size w1 w3 := b2.trans (b3.mono b2.size)
  clear o2 b2 b3
  go_upto_region 6 with (refine wp_allocStore 34 8 (.tmp 24) [.int .i64 sc, .int .i64 s0, .int .i64 s1, .int .i64 s2, .int .i64 s3, .int .i64 s4, .int .i64 s5, .int .i64 s6, .int .i64 s7, .int .i64 s8, .slice sp0 sl0 sq0, .slice sp1 sl1 sq1, .slice sp2 sl2 sq2, .int .i64 s9, .int .i64 s10, .bool sb] _ 16 rfl rfl rfl rfl rfl rfl rfl rfl info_WR rfl rfl oS.one ?_)
  have bA : Below w3.heap.size w3 (w3.alloc (.cells #[.int .i64 sc, .int .i64 s0, .int .i64 s1, .int .i64 s2, .int .i64 s3, .int .i64 s4, .int .i64 s5, .int .i64 s6, .int .i64 s7, .int .i64 s8, .slice sp0 sl0 sq0, .slice sp1 sl1 sq1, .slice sp2 sl2 sq2, .int .i64 s9, .int .i64 s10, .bool sb] 34)) := (Below.refl _ _).alloc (Nat.le_refl _) _
  have S4 : Box (w3.alloc (.cells #[.int .i64 sc, .int .i64 s0, .int .i64 s1, .int .i64 s2, .int .i64 s3, .int .i64 s4, .int .i64 s5, .int .i64 s6, .int .i64 s7, .int .i64 s8, .slice sp0 sl0 sq0, .slice sp1 sl1 sq1, .slice sp2 sl2 sq2, .int .i64 s9, .int .i64 s10, .bool sb] 34)) w3.heap.size #[.int .i64 sc, .int .i64 s0, .int .i64 s1, .int .i64 s2, .int .i64 s3, .int .i64 s4, .int .i64 s5, .int .i64 s6, .int .i64 s7, .int .i64 s8, .slice sp0 sl0 sq0, .slice sp1 sl1 sq1, .slice sp2 sl2 sq2, .int .i64 s9, .int .i64 s10, .bool sb] 34 := box_new _ _ _
  obtain ⟨W4, hW4⟩ : ∃ x, x = w3.alloc (.cells #[.int .i64 sc, .int .i64 s0, .int .i64 s1, .int .i64 s2, .int .i64 s3, .int .i64 s4, .int .i64 s5, .int .i64 s6, .int .i64 s7, .int .i64 s8, .slice sp0 sl0 sq0, .slice sp1 sl1 sq1, .slice sp2 sl2 sq2, .int .i64 s9, .int .i64 s10, .bool sb] 34) := ⟨_, rfl⟩
  rw [← hW4] at bA S4 ⊢
  have B4 := B3.trans (bA.mono (by omega))
  have P4 := HT1.out.call B4
  have OS4 := oS.call bA
  have z4 : w3.heap.size < W4.heap.size := S4.lt
  clear bA hW4 oS B3
  go_wp2_with (refine wp_loadBox 55 (.tmp 3) rfl rfl (w.heap.size) rfl (cs := [.int .i64 v0, .int .i64 v1, .int .i64 v2, .int .i64 v3, .int .i64 v4, .int .i64 v5, .int .i64 v6, .int .i64 v7, .int .i64 v8, .slice vp0 vl0 vq0, .slice vp1 vl1 vq1, .slice vp2 vl2 vq2, .int .i64 v9, .int .i64 v10, .bool vb]) P4.b1 Tryz.underlying55 size_LW rfl ?_)
  refine (CT _ B4).mono ?_
  rintro e w5 ⟨cX, rfl, oX, b5⟩
  obtain ⟨x0, x1, x2, x3, x4, x5, x6, x7, x8, xp0, xl0, xq0, xp1, xl1, xq1, xp2, xl2, xq2, x9, x10, xb, rfl⟩ := world15O oX
  have z5 : W4.heap.size ≤ w5.heap.size := b5.size
  have B5 := B4.trans (b5.mono (by omega))
  have S5 := S4.call b5
  have OS5 := OS4.call b5
  clear P4 b5 B4 S4 OS4
  go_upto_region 7 with (refine wp_allocStore 30 9 (.tmp 26) [.int .i64 x0, .int .i64 x1, .int .i64 x2, .int .i64 x3, .int .i64 x4, .int .i64 x5, .int .i64 x6, .int .i64 x7, .int .i64 x8, .slice xp0 xl0 xq0, .slice xp1 xl1 xq1, .slice xp2 xl2 xq2, .int .i64 x9, .int .i64 x10, .bool xb] _ 15 rfl rfl rfl rfl rfl rfl rfl rfl info_W rfl rfl oX.one ?_)
  have bA : Below w5.heap.size w5 (w5.alloc (.cells #[.int .i64 x0, .int .i64 x1, .int .i64 x2, .int .i64 x3, .int .i64 x4, .int .i64 x5, .int .i64 x6, .int .i64 x7, .int .i64 x8, .slice xp0 xl0 xq0, .slice xp1 xl1 xq1, .slice xp2 xl2 xq2, .int .i64 x9, .int .i64 x10, .bool xb] 30)) := (Below.refl _ _).alloc (Nat.le_refl _) _
  have X6 : Box (w5.alloc (.cells #[.int .i64 x0, .int .i64 x1, .int .i64 x2, .int .i64 x3, .int .i64 x4, .int .i64 x5, .int .i64 x6, .int .i64 x7, .int .i64 x8, .slice xp0 xl0 xq0, .slice xp1 xl1 xq1, .slice xp2 xl2 xq2, .int .i64 x9, .int .i64 x10, .bool xb] 30)) w5.heap.size #[.int .i64 x0, .int .i64 x1, .int .i64 x2, .int .i64 x3, .int .i64 x4, .int .i64 x5, .int .i64 x6, .int .i64 x7, .int .i64 x8, .slice xp0 xl0 xq0, .slice xp1 xl1 xq1, .slice xp2 xl2 xq2, .int .i64 x9, .int .i64 x10, .bool xb] 30 := box_new _ _ _
  obtain ⟨W6, hW6⟩ : ∃ x, x = w5.alloc (.cells #[.int .i64 x0, .int .i64 x1, .int .i64 x2, .int .i64 x3, .int .i64 x4, .int .i64 x5, .int .i64 x6, .int .i64 x7, .int .i64 x8, .slice xp0 xl0 xq0, .slice xp1 xl1 xq1, .slice xp2 xl2 xq2, .int .i64 x9, .int .i64 x10, .bool xb] 30) := ⟨_, rfl⟩
  rw [← hW6] at bA X6 ⊢
  have B6 := B5.trans (bA.mono (by omega))
  have S6 := S5.call bA
  have OS6 := OS5.call bA
  have OX6 := oX.call bA
  have z6 : w5.heap.size < W6.heap.size := X6.lt
  clear bA hW6 oX B5 S5 OS5
  go_wp2_with (refine wp_loadBox 30 (.tmp 9) rfl rfl (w5.heap.size) rfl (cs := [.int .i64 x0, .int .i64 x1, .int .i64 x2, .int .i64 x3, .int .i64 x4, .int .i64 x5, .int .i64 x6, .int .i64 x7, .int .i64 x8, .slice xp0 xl0 xq0, .slice xp1 xl1 xq1, .slice xp2 xl2 xq2, .int .i64 x9, .int .i64 x10, .bool xb]) X6 Tryz.underlying30 size_W rfl ?_)
  refine (CI _ _ _ OX6.rd (by omega)).mono ?_
  rintro e w7 ⟨cG, rfl, oG, b7⟩
  obtain ⟨gc, g0, g1, g2, g3, g4, g5, g6, g7, g8, gp0, gl0, gq0, gp1, gl1, gq1, gp2, gl2, gq2, g9, g10, gb, rfl⟩ := wres16 oG.rd
  have z7 : W6.heap.size ≤ w7.heap.size := b7.size
  have B7 := B6.trans (b7.mono (by omega))
  have S7 := S6.call b7
  have OS7 := OS6.call b7
  have X7 := X6.call b7
  have OX7 := OX6.call b7
  clear b7 B6 S6 OS6 X6 OX6
  go_upto_region 8 with (refine wp_allocStore 34 10 (.tmp 30) [.int .i64 gc, .int .i64 g0, .int .i64 g1, .int .i64 g2, .int .i64 g3, .int .i64 g4, .int .i64 g5, .int .i64 g6, .int .i64 g7, .int .i64 g8, .slice gp0 gl0 gq0, .slice gp1 gl1 gq1, .slice gp2 gl2 gq2, .int .i64 g9, .int .i64 g10, .bool gb] _ 16 rfl rfl rfl rfl rfl rfl rfl rfl info_WR rfl rfl oG.one ?_)
  have bA : Below w7.heap.size w7 (w7.alloc (.cells #[.int .i64 gc, .int .i64 g0, .int .i64 g1, .int .i64 g2, .int .i64 g3, .int .i64 g4, .int .i64 g5, .int .i64 g6, .int .i64 g7, .int .i64 g8, .slice gp0 gl0 gq0, .slice gp1 gl1 gq1, .slice gp2 gl2 gq2, .int .i64 g9, .int .i64 g10, .bool gb] 34)) := (Below.refl _ _).alloc (Nat.le_refl _) _
  have G8 : Box (w7.alloc (.cells #[.int .i64 gc, .int .i64 g0, .int .i64 g1, .int .i64 g2, .int .i64 g3, .int .i64 g4, .int .i64 g5, .int .i64 g6, .int .i64 g7, .int .i64 g8, .slice gp0 gl0 gq0, .slice gp1 gl1 gq1, .slice gp2 gl2 gq2, .int .i64 g9, .int .i64 g10, .bool gb] 34)) w7.heap.size #[.int .i64 gc, .int .i64 g0, .int .i64 g1, .int .i64 g2, .int .i64 g3, .int .i64 g4, .int .i64 g5, .int .i64 g6, .int .i64 g7, .int .i64 g8, .slice gp0 gl0 gq0, .slice gp1 gl1 gq1, .slice gp2 gl2 gq2, .int .i64 g9, .int .i64 g10, .bool gb] 34 := box_new _ _ _
  obtain ⟨W8, hW8⟩ : ∃ x, x = w7.alloc (.cells #[.int .i64 gc, .int .i64 g0, .int .i64 g1, .int .i64 g2, .int .i64 g3, .int .i64 g4, .int .i64 g5, .int .i64 g6, .int .i64 g7, .int .i64 g8, .slice gp0 gl0 gq0, .slice gp1 gl1 gq1, .slice gp2 gl2 gq2, .int .i64 g9, .int .i64 g10, .bool gb] 34) := ⟨_, rfl⟩
  rw [← hW8] at bA G8 ⊢
  have B8 := B7.trans (bA.mono (by omega))
  have S8 := S7.call bA
  have OS8 := OS7.call bA
  have X8 := X7.call bA
  have OX8 := OX7.call bA
  have OG8 := oG.call bA
  have z8 : w7.heap.size < W8.heap.size := G8.lt
  clear bA hW8 oG B7 S7 OS7 X7 OX7
  go_wp2_with (first | (refine wp_loadBox 34 (.tmp 10) rfl rfl (w7.heap.size) rfl (cs := [.int .i64 gc, .int .i64 g0, .int .i64 g1, .int .i64 g2, .int .i64 g3, .int .i64 g4, .int .i64 g5, .int .i64 g6, .int .i64 g7, .int .i64 g8, .slice gp0 gl0 gq0, .slice gp1 gl1 gq1, .slice gp2 gl2 gq2, .int .i64 g9, .int .i64 g10, .bool gb]) G8 Tryz.underlying34 size_WR rfl ?_) | (refine wp_loadBox 34 (.tmp 8) rfl rfl (w3.heap.size) rfl (cs := [.int .i64 sc, .int .i64 s0, .int .i64 s1, .int .i64 s2, .int .i64 s3, .int .i64 s4, .int .i64 s5, .int .i64 s6, .int .i64 s7, .int .i64 s8, .slice sp0 sl0 sq0, .slice sp1 sl1 sq1, .slice sp2 sl2 sq2, .int .i64 s9, .int .i64 s10, .bool sb]) S8 Tryz.underlying34 size_WR rfl ?_))
  refine (CE _ _ _ _ _ OG8.rd OS8.rd (by omega) (by omega)).mono ?_
  rintro e w9 ⟨rfl, b9⟩
  have z9 : W8.heap.size ≤ w9.heap.size := b9.size
  have B9 := B8.trans (b9.mono (by omega))
  have S9 : Hid (Box w9 w3.heap.size #[.int .i64 sc, .int .i64 s0, .int .i64 s1, .int .i64 s2, .int .i64 s3, .int .i64 s4, .int .i64 s5, .int .i64 s6, .int .i64 s7, .int .i64 s8, .slice sp0 sl0 sq0, .slice sp1 sl1 sq1, .slice sp2 sl2 sq2, .int .i64 s9, .int .i64 s10, .bool sb] 34) := S8.call b9
  have OS9 : Hid (OwnT layWorldResult w9 w2.heap.size w3.heap.size q [.int .i64 sc, .int .i64 s0, .int .i64 s1, .int .i64 s2, .int .i64 s3, .int .i64 s4, .int .i64 s5, .int .i64 s6, .int .i64 s7, .int .i64 s8, .slice sp0 sl0 sq0, .slice sp1 sl1 sq1, .slice sp2 sl2 sq2, .int .i64 s9, .int .i64 s10, .bool sb]) := OS8.call b9
  have X9 : Hid (Box w9 w5.heap.size #[.int .i64 x0, .int .i64 x1, .int .i64 x2, .int .i64 x3, .int .i64 x4, .int .i64 x5, .int .i64 x6, .int .i64 x7, .int .i64 x8, .slice xp0 xl0 xq0, .slice xp1 xl1 xq1, .slice xp2 xl2 xq2, .int .i64 x9, .int .i64 x10, .bool xb] 30) := X8.call b9
  have OX9 : Hid (OwnT layWorld w9 W4.heap.size w5.heap.size d [.int .i64 x0, .int .i64 x1, .int .i64 x2, .int .i64 x3, .int .i64 x4, .int .i64 x5, .int .i64 x6, .int .i64 x7, .int .i64 x8, .slice xp0 xl0 xq0, .slice xp1 xl1 xq1, .slice xp2 xl2 xq2, .int .i64 x9, .int .i64 x10, .bool xb]) := OX8.call b9
  have G9 : Hid (Box w9 w7.heap.size #[.int .i64 gc, .int .i64 g0, .int .i64 g1, .int .i64 g2, .int .i64 g3, .int .i64 g4, .int .i64 g5, .int .i64 g6, .int .i64 g7, .int .i64 g8, .slice gp0 gl0 gq0, .slice gp1 gl1 gq1, .slice gp2 gl2 gq2, .int .i64 g9, .int .i64 g10, .bool gb] 34) := G8.call b9
  have OG9 : Hid (OwnT layWorldResult w9 W6.heap.size w7.heap.size q [.int .i64 gc, .int .i64 g0, .int .i64 g1, .int .i64 g2, .int .i64 g3, .int .i64 g4, .int .i64 g5, .int .i64 g6, .int .i64 g7, .int .i64 g8, .slice gp0 gl0 gq0, .slice gp1 gl1 gq1, .slice gp2 gl2 gq2, .int .i64 g9, .int .i64 g10, .bool gb]) := OG8.call b9
  have HB9 : Hid (Below w1.heap.size w1 w9) := B9
  have P9 : Hid (One w w9 #[.int .i64 v0, .int .i64 v1, .int .i64 v2, .int .i64 v3, .int .i64 v4, .int .i64 v5, .int .i64 v6, .int .i64 v7, .int .i64 v8, .slice vp0 vl0 vq0, .slice vp1 vl1 vq1, .slice vp2 vl2 vq2, .int .i64 v9, .int .i64 v10, .bool vb] 55) := HT1.out.call B9
  have u_0 : w9.cell? ⟨w5.heap.size, 0, none⟩ = some (.int .i64 x0) := X9.out.cell 0
  have u_1 : w9.cell? ⟨w5.heap.size, 1, none⟩ = some (.int .i64 x1) := X9.out.cell 1
  have u_2 : w9.cell? ⟨w5.heap.size, 2, none⟩ = some (.int .i64 x2) := X9.out.cell 2
  have u_3 : w9.cell? ⟨w5.heap.size, 3, none⟩ = some (.int .i64 x3) := X9.out.cell 3
  have u_4 : w9.cell? ⟨w5.heap.size, 4, none⟩ = some (.int .i64 x4) := X9.out.cell 4
  have u_5 : w9.cell? ⟨w5.heap.size, 5, none⟩ = some (.int .i64 x5) := X9.out.cell 5
  have u_6 : w9.cell? ⟨w5.heap.size, 6, none⟩ = some (.int .i64 x6) := X9.out.cell 6
  have u_7 : w9.cell? ⟨w5.heap.size, 7, none⟩ = some (.int .i64 x7) := X9.out.cell 7
  have u_8 : w9.cell? ⟨w5.heap.size, 8, none⟩ = some (.int .i64 x8) := X9.out.cell 8
  have u_9 : w9.cell? ⟨w5.heap.size, 9, none⟩ = some (.slice xp0 xl0 xq0) := X9.out.cell 9
  have u_10 : w9.cell? ⟨w5.heap.size, 10, none⟩ = some (.slice xp1 xl1 xq1) := X9.out.cell 10
  have u_11 : w9.cell? ⟨w5.heap.size, 11, none⟩ = some (.slice xp2 xl2 xq2) := X9.out.cell 11
  have u_12 : w9.cell? ⟨w5.heap.size, 12, none⟩ = some (.int .i64 x9) := X9.out.cell 12
  have u_13 : w9.cell? ⟨w5.heap.size, 13, none⟩ = some (.int .i64 x10) := X9.out.cell 13
  have u_14 : w9.cell? ⟨w5.heap.size, 14, none⟩ = some (.bool xb) := X9.out.cell 14
  have y_0 : w9.cell? ⟨w.heap.size, 0, none⟩ = some (.int .i64 v0) := P9.out.b1.cell 0
  have y_1 : w9.cell? ⟨w.heap.size, 1, none⟩ = some (.int .i64 v1) := P9.out.b1.cell 1
  have y_2 : w9.cell? ⟨w.heap.size, 2, none⟩ = some (.int .i64 v2) := P9.out.b1.cell 2
  have y_3 : w9.cell? ⟨w.heap.size, 3, none⟩ = some (.int .i64 v3) := P9.out.b1.cell 3
  have y_4 : w9.cell? ⟨w.heap.size, 4, none⟩ = some (.int .i64 v4) := P9.out.b1.cell 4
  have y_5 : w9.cell? ⟨w.heap.size, 5, none⟩ = some (.int .i64 v5) := P9.out.b1.cell 5
  have y_6 : w9.cell? ⟨w.heap.size, 6, none⟩ = some (.int .i64 v6) := P9.out.b1.cell 6
  have y_7 : w9.cell? ⟨w.heap.size, 7, none⟩ = some (.int .i64 v7) := P9.out.b1.cell 7
  have y_8 : w9.cell? ⟨w.heap.size, 8, none⟩ = some (.int .i64 v8) := P9.out.b1.cell 8
  have y_9 : w9.cell? ⟨w.heap.size, 9, none⟩ = some (.slice vp0 vl0 vq0) := P9.out.b1.cell 9
  have y_10 : w9.cell? ⟨w.heap.size, 10, none⟩ = some (.slice vp1 vl1 vq1) := P9.out.b1.cell 10
  have y_11 : w9.cell? ⟨w.heap.size, 11, none⟩ = some (.slice vp2 vl2 vq2) := P9.out.b1.cell 11
  have y_12 : w9.cell? ⟨w.heap.size, 12, none⟩ = some (.int .i64 v9) := P9.out.b1.cell 12
  have y_13 : w9.cell? ⟨w.heap.size, 13, none⟩ = some (.int .i64 v10) := P9.out.b1.cell 13
  have y_14 : w9.cell? ⟨w.heap.size, 14, none⟩ = some (.bool vb) := P9.out.b1.cell 14
  clear b9 B8 S8 OS8 X8 OX8 G8 OG8 B9
  go_upto_region 10 with fail
  go_cut [39] (fun v wx => v = .bool false ∧ Below w9.heap.size w9 wx)
  case first =>
    go_region_with (first | (go_at_call 30; refine (CT _ (HB9.out.trans ((below_drewN (Below.refl _ _) 1).mono HB9.out.size))).mono ?_; rintro ee wb ⟨cs', rfl, oR, bb⟩; have bR : Below w9.heap.size w9 wb := (below_drewN (Below.refl _ _) 1).trans bb; obtain ⟨qb0, qb1, qb2, qb3, qb4, qb5, qb6, qb7, qb8, qb9, qb10, qb11, qb12, qb13, qb14⟩ := fifteen (X9.out.call bR)) | (go_at_call 32; refine (CW _ _ _ _ _ (OX9.out.call bR).rd oR.rd (Nat.le_trans (by omega) bR.size) (Nat.le_refl _)).mono ?_; rintro ee wc' ⟨rfl, bc⟩; have bC : Below w9.heap.size w9 wc' := bR.trans (bc.mono bR.size)))
    all_goals
      go_wp2
      go_meet
      exact ⟨rfl, bC⟩
  case rest =>
    obtain ⟨rfl, b10⟩ := hcut
    obtain ⟨w10, rfl⟩ : ∃ x, x = wc := ⟨_, rfl⟩
    clear u_0 u_1 u_2 u_3 u_4 u_5 u_6 u_7 u_8 u_9 u_10 u_11 u_12 u_13 u_14 y_0 y_1 y_2 y_3 y_4 y_5 y_6 y_7 y_8 y_9 y_10 y_11 y_12 y_13 y_14
    have z10 : w9.heap.size ≤ w10.heap.size := b10.size
    have B10 := HB9.out.trans (b10.mono (by omega))
    have S10 := S9.out.call b10
    have OS10 := OS9.out.call b10
    have X10 := X9.out.call b10
    have OX10 := OX9.out.call b10
    have G10 := G9.out.call b10
    have OG10 := OG9.out.call b10
    clear b10 HB9 S9 OS9 X9 OX9 G9 OG9 P9
    have hm0 : ¬ (M : Int) < 0 := by omega
    go_wp2_with (refine wp_loadBox 30 (.tmp 9) rfl rfl (w5.heap.size) rfl (cs := [.int .i64 x0, .int .i64 x1, .int .i64 x2, .int .i64 x3, .int .i64 x4, .int .i64 x5, .int .i64 x6, .int .i64 x7, .int .i64 x8, .slice xp0 xl0 xq0, .slice xp1 xl1 xq1, .slice xp2 xl2 xq2, .int .i64 x9, .int .i64 x10, .bool xb]) X10 Tryz.underlying30 size_W rfl ?_)
    refine (CK OX10).mono ?_
    rintro e w11 ⟨rfl, OX11, c11⟩
    have z11 : w10.heap.size ≤ w11.heap.size := c11.size
    have B11 := B10.trans (c11.bel (B := w1.heap.size) (by omega) (by omega))
    have S11 := S10.chg c11 (.inl (by omega))
    have OS11 := OS10.chg c11 (.inl (by omega))
    have G11 := G10.chg c11 (.inr (by omega))
    have OG11 := OG10.chg c11 (.inr (by omega))
    have u_0 : w11.cell? ⟨w7.heap.size, 0, none⟩ = some (.int .i64 gc) := G11.cell 0
    have u_1 : w11.cell? ⟨w7.heap.size, 1, none⟩ = some (.int .i64 g0) := G11.cell 1
    have u_2 : w11.cell? ⟨w7.heap.size, 2, none⟩ = some (.int .i64 g1) := G11.cell 2
    have u_3 : w11.cell? ⟨w7.heap.size, 3, none⟩ = some (.int .i64 g2) := G11.cell 3
    have u_4 : w11.cell? ⟨w7.heap.size, 4, none⟩ = some (.int .i64 g3) := G11.cell 4
    have u_5 : w11.cell? ⟨w7.heap.size, 5, none⟩ = some (.int .i64 g4) := G11.cell 5
    have u_6 : w11.cell? ⟨w7.heap.size, 6, none⟩ = some (.int .i64 g5) := G11.cell 6
    have u_7 : w11.cell? ⟨w7.heap.size, 7, none⟩ = some (.int .i64 g6) := G11.cell 7
    have u_8 : w11.cell? ⟨w7.heap.size, 8, none⟩ = some (.int .i64 g7) := G11.cell 8
    have u_9 : w11.cell? ⟨w7.heap.size, 9, none⟩ = some (.int .i64 g8) := G11.cell 9
    have u_10 : w11.cell? ⟨w7.heap.size, 10, none⟩ = some (.slice gp0 gl0 gq0) := G11.cell 10
    have u_11 : w11.cell? ⟨w7.heap.size, 11, none⟩ = some (.slice gp1 gl1 gq1) := G11.cell 11
    have u_12 : w11.cell? ⟨w7.heap.size, 12, none⟩ = some (.slice gp2 gl2 gq2) := G11.cell 12
    have u_13 : w11.cell? ⟨w7.heap.size, 13, none⟩ = some (.int .i64 g9) := G11.cell 13
    have u_14 : w11.cell? ⟨w7.heap.size, 14, none⟩ = some (.int .i64 g10) := G11.cell 14
    have u_15 : w11.cell? ⟨w7.heap.size, 15, none⟩ = some (.bool gb) := G11.cell 15
    have y_0 : w11.cell? ⟨w3.heap.size, 0, none⟩ = some (.int .i64 sc) := S11.cell 0
    have y_1 : w11.cell? ⟨w3.heap.size, 1, none⟩ = some (.int .i64 s0) := S11.cell 1
    have y_2 : w11.cell? ⟨w3.heap.size, 2, none⟩ = some (.int .i64 s1) := S11.cell 2
    have y_3 : w11.cell? ⟨w3.heap.size, 3, none⟩ = some (.int .i64 s2) := S11.cell 3
    have y_4 : w11.cell? ⟨w3.heap.size, 4, none⟩ = some (.int .i64 s3) := S11.cell 4
    have y_5 : w11.cell? ⟨w3.heap.size, 5, none⟩ = some (.int .i64 s4) := S11.cell 5
    have y_6 : w11.cell? ⟨w3.heap.size, 6, none⟩ = some (.int .i64 s5) := S11.cell 6
    have y_7 : w11.cell? ⟨w3.heap.size, 7, none⟩ = some (.int .i64 s6) := S11.cell 7
    have y_8 : w11.cell? ⟨w3.heap.size, 8, none⟩ = some (.int .i64 s7) := S11.cell 8
    have y_9 : w11.cell? ⟨w3.heap.size, 9, none⟩ = some (.int .i64 s8) := S11.cell 9
    have y_10 : w11.cell? ⟨w3.heap.size, 10, none⟩ = some (.slice sp0 sl0 sq0) := S11.cell 10
    have y_11 : w11.cell? ⟨w3.heap.size, 11, none⟩ = some (.slice sp1 sl1 sq1) := S11.cell 11
    have y_12 : w11.cell? ⟨w3.heap.size, 12, none⟩ = some (.slice sp2 sl2 sq2) := S11.cell 12
    have y_13 : w11.cell? ⟨w3.heap.size, 13, none⟩ = some (.int .i64 s9) := S11.cell 13
    have y_14 : w11.cell? ⟨w3.heap.size, 14, none⟩ = some (.int .i64 s10) := S11.cell 14
    have y_15 : w11.cell? ⟨w3.heap.size, 15, none⟩ = some (.bool sb) := S11.cell 15
    clear OX11 c11 B10 S10 OS10 X10 OX10 G10 OG10
    go_wp2_with fail
    refine (CE _ _ _ _ _ OG11.rd OS11.rd (by omega) (by omega)).mono ?_
    rintro e w12 ⟨rfl, b12⟩
    have z12 : w11.heap.size ≤ w12.heap.size := b12.size
    have B12 := B11.trans (b12.mono (by omega))
    have S12 := S11.call b12
    have OS12 := OS11.call b12
    have G12 := G11.call b12
    have OG12 := OG11.call b12
    clear b12 B11 S11 OS11 G11 OG11 u_0 u_1 u_2 u_3 u_4 u_5 u_6 u_7 u_8 u_9 u_10 u_11 u_12 u_13 u_14 u_15 y_0 y_1 y_2 y_3 y_4 y_5 y_6 y_7 y_8 y_9 y_10 y_11 y_12 y_13 y_14 y_15
    go_wp2_with (refine wp_loadBox 34 (.tmp 10) rfl rfl (w7.heap.size) rfl (cs := [.int .i64 gc, .int .i64 g0, .int .i64 g1, .int .i64 g2, .int .i64 g3, .int .i64 g4, .int .i64 g5, .int .i64 g6, .int .i64 g7, .int .i64 g8, .slice gp0 gl0 gq0, .slice gp1 gl1 gq1, .slice gp2 gl2 gq2, .int .i64 g9, .int .i64 g10, .bool gb]) G12 Tryz.underlying34 size_WR rfl ?_)
    refine (CM OG12).mono ?_
    rintro e w13 ⟨rfl, OG13, c13⟩
    have z13 : w12.heap.size ≤ w13.heap.size := c13.size
    have B13 := B12.trans (c13.bel (B := w1.heap.size) (by omega) (by omega))
    have S13 := S12.chg c13 (.inl (by omega))
    have OS13 := OS12.chg c13 (.inl (by omega))
    have G13 := G12.chg c13 (.inr (by omega))
    clear c13 B12 S12 OS12 G12 OG12
    go_wp2_with (refine wp_loadBox 34 (.tmp 10) rfl rfl (w7.heap.size) rfl (cs := [.int .i64 gc, .int .i64 g0, .int .i64 g1, .int .i64 g2, .int .i64 g3, .int .i64 g4, .int .i64 g5, .int .i64 g6, .int .i64 g7, .int .i64 g8, .slice gp0 gl0 gq0, .slice gp1 gl1 gq1, .slice gp2 gl2 gq2, .int .i64 g9, .int .i64 g10, .bool gb]) G13 Tryz.underlying34 size_WR rfl ?_)
    refine (CH _ _ _ OG13.rd (by omega)).mono ?_
    rintro e w14 ⟨rfl, b14⟩
    have z14 : w13.heap.size ≤ w14.heap.size := b14.size
    have B14 := B13.trans (b14.mono (by omega))
    have S14 := S13.call b14
    have OS14 := OS13.call b14
    have G14 := G13.call b14
    have OG14 := OG13.call b14
    have P14 := HT1.out.call B14
    clear b14 B13 S13 OS13 G13 OG13
    have hn0 : ¬ (N : Int) < 0 := by omega
    go_wp2_with (refine wp_loadBox 55 (.tmp 3) rfl rfl (w.heap.size) rfl (cs := [.int .i64 v0, .int .i64 v1, .int .i64 v2, .int .i64 v3, .int .i64 v4, .int .i64 v5, .int .i64 v6, .int .i64 v7, .int .i64 v8, .slice vp0 vl0 vq0, .slice vp1 vl1 vq1, .slice vp2 vl2 vq2, .int .i64 v9, .int .i64 v10, .bool vb]) P14.b1 Tryz.underlying55 size_LW rfl ?_)
    refine (CT _ B14).mono ?_
    rintro e w15 ⟨c15, rfl, o15, b15⟩
    go_wp2_with fail
    refine (CI _ _ _ o15.rd (Nat.le_refl _)).mono ?_
    rintro e w16 ⟨cH, rfl, oH, b16⟩
    obtain ⟨hc, h0, h1, h2, h3, h4, h5, h6, h7, h8, hp0, hl0, hq0, hp1, hl1, hq1, hp2, hl2, hq2, h9, h10, hb, rfl⟩ := wres16 oH.rd
    have z15 : w14.heap.size ≤ w15.heap.size := b15.size
    have z16 : w15.heap.size ≤ w16.heap.size := b16.size
    have B16 := (B14.trans (b15.mono (by omega))).trans (b16.mono (by omega))
    have S16 := (S14.call b15).call b16
    have OS16 := (OS14.call b15).call b16
    have G16 := (G14.call b15).call b16
    have OG16 := (OG14.call b15).call b16
    clear P14 o15 b15 b16 B14 S14 OS14 G14 OG14
    go_upto_region 25 with (refine wp_allocStore 34 14 (.tmp 66) [.int .i64 hc, .int .i64 h0, .int .i64 h1, .int .i64 h2, .int .i64 h3, .int .i64 h4, .int .i64 h5, .int .i64 h6, .int .i64 h7, .int .i64 h8, .slice hp0 hl0 hq0, .slice hp1 hl1 hq1, .slice hp2 hl2 hq2, .int .i64 h9, .int .i64 h10, .bool hb] _ 16 rfl rfl rfl rfl rfl rfl rfl rfl info_WR rfl rfl oH.one ?_)
    have bA : Below w16.heap.size w16 (w16.alloc (.cells #[.int .i64 hc, .int .i64 h0, .int .i64 h1, .int .i64 h2, .int .i64 h3, .int .i64 h4, .int .i64 h5, .int .i64 h6, .int .i64 h7, .int .i64 h8, .slice hp0 hl0 hq0, .slice hp1 hl1 hq1, .slice hp2 hl2 hq2, .int .i64 h9, .int .i64 h10, .bool hb] 34)) := (Below.refl _ _).alloc (Nat.le_refl _) _
    have H17 : Box (w16.alloc (.cells #[.int .i64 hc, .int .i64 h0, .int .i64 h1, .int .i64 h2, .int .i64 h3, .int .i64 h4, .int .i64 h5, .int .i64 h6, .int .i64 h7, .int .i64 h8, .slice hp0 hl0 hq0, .slice hp1 hl1 hq1, .slice hp2 hl2 hq2, .int .i64 h9, .int .i64 h10, .bool hb] 34)) w16.heap.size #[.int .i64 hc, .int .i64 h0, .int .i64 h1, .int .i64 h2, .int .i64 h3, .int .i64 h4, .int .i64 h5, .int .i64 h6, .int .i64 h7, .int .i64 h8, .slice hp0 hl0 hq0, .slice hp1 hl1 hq1, .slice hp2 hl2 hq2, .int .i64 h9, .int .i64 h10, .bool hb] 34 := box_new _ _ _
    obtain ⟨W17, hW17⟩ : ∃ x, x = w16.alloc (.cells #[.int .i64 hc, .int .i64 h0, .int .i64 h1, .int .i64 h2, .int .i64 h3, .int .i64 h4, .int .i64 h5, .int .i64 h6, .int .i64 h7, .int .i64 h8, .slice hp0 hl0 hq0, .slice hp1 hl1 hq1, .slice hp2 hl2 hq2, .int .i64 h9, .int .i64 h10, .bool hb] 34) := ⟨_, rfl⟩
    rw [← hW17] at bA H17 ⊢
    have B17 := B16.trans (bA.mono (by omega))
    have S17 := S16.call bA
    have OS17 := OS16.call bA
    have G17 := G16.call bA
    have OG17 := OG16.call bA
    have OH17 := oH.call bA
    have z17 : w16.heap.size < W17.heap.size := H17.lt
    clear bA hW17 oH B16 S16 OS16 G16 OG16
    go_wp2_with (first | (refine wp_loadBox 34 (.tmp 14) rfl rfl (w16.heap.size) rfl (cs := [.int .i64 hc, .int .i64 h0, .int .i64 h1, .int .i64 h2, .int .i64 h3, .int .i64 h4, .int .i64 h5, .int .i64 h6, .int .i64 h7, .int .i64 h8, .slice hp0 hl0 hq0, .slice hp1 hl1 hq1, .slice hp2 hl2 hq2, .int .i64 h9, .int .i64 h10, .bool hb]) H17 Tryz.underlying34 size_WR rfl ?_) | (refine wp_loadBox 34 (.tmp 8) rfl rfl (w3.heap.size) rfl (cs := [.int .i64 sc, .int .i64 s0, .int .i64 s1, .int .i64 s2, .int .i64 s3, .int .i64 s4, .int .i64 s5, .int .i64 s6, .int .i64 s7, .int .i64 s8, .slice sp0 sl0 sq0, .slice sp1 sl1 sq1, .slice sp2 sl2 sq2, .int .i64 s9, .int .i64 s10, .bool sb]) S17 Tryz.underlying34 size_WR rfl ?_))
    refine (CE _ _ _ _ _ OH17.rd OS17.rd (by omega) (by omega)).mono ?_
    rintro e w18 ⟨rfl, b18⟩
    have z18 : W17.heap.size ≤ w18.heap.size := b18.size
    have B18 := B17.trans (b18.mono (by omega))
    have G18 := G17.call b18
    have OG18 := OG17.call b18
    clear b18 B17 S17 OS17 G17 OG17 OH17 H17
    go_wp2_with (refine wp_loadBox 34 (.tmp 10) rfl rfl (w7.heap.size) rfl (cs := [.int .i64 gc, .int .i64 g0, .int .i64 g1, .int .i64 g2, .int .i64 g3, .int .i64 g4, .int .i64 g5, .int .i64 g6, .int .i64 g7, .int .i64 g8, .slice gp0 gl0 gq0, .slice gp1 gl1 gq1, .slice gp2 gl2 gq2, .int .i64 g9, .int .i64 g10, .bool gb]) G18 Tryz.underlying34 size_WR rfl ?_)
    refine (CH _ _ _ OG18.rd (by omega)).mono ?_
    rintro e w19 ⟨rfl, b19⟩
    have HB : Hid (Below w.heap.size w w19) := (HT1.out.call (B18.trans (b19.mono (by omega)))).bel
    clear b19 B18 G18 OG18
    go_wp2
    go_ret
    exact ⟨rfl, HB.out⟩

set_option maxRecDepth 100000 in
theorem fnExactTrustDrive_lifted (os : Os) (started : os.Started) (H : Type) (enc : TypeId × Value → H) :
    ReturnsInHanded {} Tryz.checked os 9 .any (Rows.fnExactTrustDriveSpec.pre6 enc Tryz.prog Tryz.f9 Rows.fnExactTrustDriveRow.domain false) (Rows.fnExactTrustDriveSpec.post enc Tryz.prog Tryz.f9 false true false false) := by
  refine returnsInHanded_of_change (C := Tryz.checked) frame_own started (by kernel_rfl) Tryz.func9
    (ChangeSpec.witness6 (enc := enc) (C := Tryz.checked) false ⟨#[], #[.agg #[.int .i64 0, .int .i64 0, .int .i64 0, .int .i64 0, .int .i64 0, .int .i64 0, .int .i64 0, .int .i64 0, .int .i64 0, .slice none 0 0, .slice none 0 0, .slice none 0 0, .int .i64 0, .int .i64 0, .bool false], .int .i64 0, .int .i64 0], []⟩ 8 (by kernel_rfl) (by kernel_rfl) (by kernel_rfl) (by kernel_rfl)) ?_
  intro W base args ds gs before hval0 hW hcnd _
  have hval : ∀ (j : Nat) t v, Tryz.f9.params[j]? = some t → args[j]? = some v → Value.okWide Tryz.prog W .any base t v := hval0
  have hW' := hW
  obtain ⟨p, q, hA0, hV, rfl, hfz, hnd⟩ := hW
  have hA : DataW.TrodAll enc Tryz.prog W 0 (fun _ => true) true Tryz.f9.params.toList args.toList ds p := hA0
  rw [Tryz.params9] at hA hval
  obtain ⟨v0, vs0, d0, ds0, p0, q0, hargs, rfl, rfl, h0, r0⟩ := trodAll_cons hA
  obtain ⟨v1, vs1, d1, ds1, p1, q1, rfl, rfl, rfl, h1, r1⟩ := trodAll_cons r0
  obtain ⟨v2, vs2, d2, ds2, p2, q2, rfl, rfl, rfl, h2, r2⟩ := trodAll_cons r1
  obtain ⟨rfl, rfl, rfl⟩ := trodAll_nil r2
  obtain rfl : args = #[v0, v1, v2] := by cases args; simp_all
  obtain ⟨rfl, rfl⟩ := trodVars_none hV
  have k0 := h0
  have lt0 : ∀ x ∈ p0, x.block < W.heap.size := by obtain ⟨m, hm⟩ := k0; exact DataW.trod_lt m _ _ _ hm
  obtain ⟨cs0, a0, rfl, rd0⟩ := struct_of_trod opensWorld Tryz.underlying55 (hval 0 55 v0 rfl rfl) h0
  obtain ⟨n1, rfl, rfl, rfl, hn1⟩ := open_int Tryz.underlying2 (hval 1 2 v1 rfl rfl) h1
  obtain ⟨n2, rfl, rfl, rfl, hn2⟩ := open_int Tryz.underlying2 (hval 2 2 v2 rfl rfl) h2
  clear hA0 hval0
  refine (fnExactTrustDrive_walk a0 cs0 n1 n2 W rd0 (bounds_i64 hn1) (bounds_i64 hn2)).mono fun e W' ⟨he, bel⟩ => ?_
  subst he
  exact ⟨_, rfl, _, _, _, [], _, [], hW', trodAll_mk1 (shut_bool Tryz.underlying4 _), (trodAll_cons_mk (Below.trod frame_laid (by kernel_rfl) (of_decide_eq_true (by kernel_rfl)) k0 bel lt0) (trodAll_cons_mk (shut_int Tryz.underlying2 hn1) (trodAll_cons_mk (shut_int Tryz.underlying2 hn2) trodAll_mk0))), rfl, bel.frame _, fun h => by cases h⟩

end Go.Proofs.YtdgbnongbmgdcaaGreat
