/- What l5Asked and poweredFault tell, and the walks of the small ones. -/
import Derived.Test.YtbmfndjglndnlaaGreatZwF
import Derived.Test.YtbmfndjglndnlaaGreatZwI
import Derived.Test.YtbmfndjglndnlaaGreatZwE
import Derived.Test.YtbmfndjglndnlaaGreatZwG
import Derived.Test.YtbmfndjglndnlaaGreatZwM
import Derived.Test.YtbmfndjglndnlaaGreatZwJ
import Derived.Test.YtbmfndjglndnlaaGreatZwK
import Derived.Deep.DeepCutAuto
namespace Go.Proofs.YtbmfndjglndnlaaGreat
open Go.RowKit F256
set_option linter.unusedVariables false
set_option linter.unusedSimpArgs false
/-- the world's fault, then 9 where it is down -/
def AskAns (d : WorldD) (x : Int) : Prop := (x ≠ 0 ∧ WldAns d x) ∨ (WldAns d 0 ∧ ((d.down = true ∧ x = 9) ∨ (d.down = false ∧ x = 0)))
theorem AskAns.one {d : WorldD} {x y : Int} (h : AskAns d x) (k : AskAns d y) : x = y := by
  rcases h with ⟨h1, h2⟩ | ⟨h1, h2⟩ <;> rcases k with ⟨k1, k2⟩ | ⟨k1, k2⟩
  · exact h2.one k2
  · exact absurd (h2.one k1) h1
  · exact absurd (k2.one h1) k1
  · rcases h2 with ⟨a, rfl⟩ | ⟨a, rfl⟩ <;> rcases k2 with ⟨b, rfl⟩ | ⟨b, rfl⟩
    · rfl
    · rw [a] at b; cases b
    · rw [a] at b; cases b
    · rfl
/-- a number is told -/
def IntPost (P : Int → Prop) (w : World) (e : Ending) (w' : World) : Prop := ∃ x, e = .returned (.int .i64 x) ∧ P x ∧ Below w.heap.size w w'
end Go.Proofs.YtbmfndjglndnlaaGreat

namespace Go.Proofs.YtbmfndjglndnlaaGreat
open Go.RowKit F256
set_option linter.unusedVariables false
set_option linter.unusedSimpArgs false
set_option maxHeartbeats 4000000 in
set_option maxRecDepth 20000 in
theorem l5Asked_any (d : WorldD) (cs : List Value) (hi : Nat) (w : World) (h : layWorld.rd w hi d cs) (hhi : hi ≤ w.heap.size) (hsz : szWorldD d ≤ 1048576) :
    Calls Tryz.prog 34 #[.agg cs.toArray] w (IntPost (AskAns d) w) := by
  have C := fun w' hb => specWorld_any d cs hi w' (layWorld.rd_below h (B := w.heap.size) hb hhi)
  obtain ⟨ao1, cap1, ao2, cap2, ao3, cap3, rfl, -⟩ := World_rd h
  have T0 := one_new w #[.int .i64 (d.shape 0), .int .i64 (d.shape 1), .int .i64 (d.shape 2), .int .i64 (d.shape 3), .int .i64 (d.shape 4), .int .i64 (d.shape 5), .int .i64 (d.shape 6), .int .i64 (d.shape 7), .int .i64 (d.shape 8), .slice ao1 d.groups.1 cap1, .slice ao2 d.on.1 cap2, .slice ao3 d.tapes.1 cap3, .int .i64 d.writes, .int .i64 d.stop, .bool d.down] 34
  clear h
  go_enter Tryz.func34, Tryz.ntmps34
  go_wp2_with (refine wp_loadBox 34 (.tmp 1) rfl rfl w.heap.size rfl (cs := [.int .i64 (d.shape 0), .int .i64 (d.shape 1), .int .i64 (d.shape 2), .int .i64 (d.shape 3), .int .i64 (d.shape 4), .int .i64 (d.shape 5), .int .i64 (d.shape 6), .int .i64 (d.shape 7), .int .i64 (d.shape 8), .slice ao1 d.groups.1 cap1, .slice ao2 d.on.1 cap2, .slice ao3 d.tapes.1 cap3, .int .i64 d.writes, .int .i64 d.stop, .bool d.down]) T0.b1 Tryz.underlying34 size_W rfl ?_)
  refine (C _ T0.bel (Nat.le_trans hhi T0.bel.size) (wld_ok_names hsz)).mono ?_
  rintro e w1 ⟨x, rfl, hx, b1⟩
  have T1 := T0.call b1
  have HX : Hid (WldAns d x) := hx
  have HB : Hid (Below w.heap.size w w1) := T1.bel
  have c14 : w1.cell? ⟨w.heap.size, 14, none⟩ = some (.bool d.down) := T1.b1.cell 14
  clear T0 T1 b1 C hx
  by_cases hx0 : x = 0
  · subst hx0
    obtain ⟨dn, hdn⟩ : ∃ b, b = d.down := ⟨_, rfl⟩
    rw [← hdn] at c14
    have HD : Hid (dn = d.down) := hdn
    clear hdn
    cases dn with
    | true =>
      go_wp2
      go_ret
      exact ⟨9, rfl, .inr ⟨HX.out, .inl ⟨HD.out.symm, rfl⟩⟩, HB.out⟩
    | false =>
      go_wp2
      go_ret
      exact ⟨0, rfl, .inr ⟨HX.out, .inr ⟨HD.out.symm, rfl⟩⟩, HB.out⟩
  · have hne : (x != 0) = true := by simp [hx0]
    go_wp2
    go_ret
    exact ⟨x, rfl, .inl ⟨hx0, HX.out⟩, HB.out⟩
set_option maxHeartbeats 4000000 in
set_option maxRecDepth 20000 in
theorem powered_any (d : WorldD) (cs : List Value) (hi : Nat) (w : World) (h : layWorld.rd w hi d cs) (hhi : hi ≤ w.heap.size) (hsz : szWorldD d ≤ 1048576) :
    Calls Tryz.prog 43 #[.agg cs.toArray] w (IntPost (AskAns d) w) := by
  have C := fun w' hb => implWorld_any d cs hi w' (layWorld.rd_below h (B := w.heap.size) hb hhi)
  obtain ⟨ao1, cap1, ao2, cap2, ao3, cap3, rfl, -⟩ := World_rd h
  have T0 := one_new w #[.int .i64 (d.shape 0), .int .i64 (d.shape 1), .int .i64 (d.shape 2), .int .i64 (d.shape 3), .int .i64 (d.shape 4), .int .i64 (d.shape 5), .int .i64 (d.shape 6), .int .i64 (d.shape 7), .int .i64 (d.shape 8), .slice ao1 d.groups.1 cap1, .slice ao2 d.on.1 cap2, .slice ao3 d.tapes.1 cap3, .int .i64 d.writes, .int .i64 d.stop, .bool d.down] 34
  clear h
  go_enter Tryz.func43, Tryz.ntmps43
  go_wp2_with (refine wp_loadBox 34 (.tmp 1) rfl rfl w.heap.size rfl (cs := [.int .i64 (d.shape 0), .int .i64 (d.shape 1), .int .i64 (d.shape 2), .int .i64 (d.shape 3), .int .i64 (d.shape 4), .int .i64 (d.shape 5), .int .i64 (d.shape 6), .int .i64 (d.shape 7), .int .i64 (d.shape 8), .slice ao1 d.groups.1 cap1, .slice ao2 d.on.1 cap2, .slice ao3 d.tapes.1 cap3, .int .i64 d.writes, .int .i64 d.stop, .bool d.down]) T0.b1 Tryz.underlying34 size_W rfl ?_)
  refine (C _ T0.bel (Nat.le_trans hhi T0.bel.size) (wld_ok_names hsz)).mono ?_
  rintro e w1 ⟨x, rfl, hx, b1⟩
  have T1 := T0.call b1
  have HX : Hid (WldAns d x) := hx
  have HB : Hid (Below w.heap.size w w1) := T1.bel
  have c14 : w1.cell? ⟨w.heap.size, 14, none⟩ = some (.bool d.down) := T1.b1.cell 14
  clear T0 T1 b1 C hx
  by_cases hx0 : x = 0
  · subst hx0
    obtain ⟨dn, hdn⟩ : ∃ b, b = d.down := ⟨_, rfl⟩
    rw [← hdn] at c14
    have HD : Hid (dn = d.down) := hdn
    clear hdn
    cases dn with
    | true =>
      go_wp2
      go_ret
      exact ⟨9, rfl, .inr ⟨HX.out, .inl ⟨HD.out.symm, rfl⟩⟩, HB.out⟩
    | false =>
      go_wp2
      go_ret
      exact ⟨0, rfl, .inr ⟨HX.out, .inr ⟨HD.out.symm, rfl⟩⟩, HB.out⟩
  · have hne : (x != 0) = true := by simp [hx0]
    go_wp2
    go_ret
    exact ⟨x, rfl, .inl ⟨hx0, HX.out⟩, HB.out⟩
/-- a place within the shape -/
def PlaceP (s : Nat → Int) (g k r : Int) : Prop := InP g 0 (s 0 + s 1 - 1) ∧ InP k 0 (s 2 + s 3 - 1) ∧ InP r 0 (s 4 - 1)
def DriveP (s : Nat → Int) (g k : Int) : Prop := InP g 0 (s 0 + s 1 - 1) ∧ InP k 0 (s 2 + s 3 - 1)
theorem size_S : (Tryz.prog.info? 30).map (·.size) = some 9 := by kernel_rfl
set_option maxHeartbeats 4000000 in
set_option maxRecDepth 20000 in
theorem l5Place_any (s : Nat → Int) (hok : OkShape s) (g k r : Int) (w : World) : Calls Tryz.prog 58 #[shapeV s, .int .i64 g, .int .i64 k, .int .i64 r] w (BoolP (PlaceP s g k r) w) := by
  have hb := okB hok
  obtain ⟨t1, h1⟩ := exB (InP g 0 (s 0 + s 1 - 1))
  obtain ⟨t2, h2⟩ := exB (InP k 0 (s 2 + s 3 - 1))
  obtain ⟨t3, h3⟩ := exB (InP r 0 (s 4 - 1))
  have CA := fun w' => l5All_any s hok w'
  have CD := fun w' => l5Drives_any s hok w'
  have C1 := fun w' => l1In_b (w := w') h1
  have C2 := fun w' => l1In_b (w := w') h2
  have C3 := fun w' => l1In_b (w := w') h3
  have HE : Hid (PlaceP s g k r ↔ (t1 = true ∧ t2 = true ∧ t3 = true)) := by
    show PlaceP s g k r ↔ _
    rw [h1, h2, h3]
    exact Iff.rfl
  have T0 := one_new w #[.int .i64 (s 0), .int .i64 (s 1), .int .i64 (s 2), .int .i64 (s 3), .int .i64 (s 4), .int .i64 (s 5), .int .i64 (s 6), .int .i64 (s 7), .int .i64 (s 8)] 30
  unfold shapeV at CA CD ⊢
  clear h1 h2 h3 hok
  go_enter Tryz.func58, Tryz.ntmps58
  go_wp2_with (refine wp_loadBox 30 (.tmp 4) rfl rfl w.heap.size rfl (cs := [.int .i64 (s 0), .int .i64 (s 1), .int .i64 (s 2), .int .i64 (s 3), .int .i64 (s 4), .int .i64 (s 5), .int .i64 (s 6), .int .i64 (s 7), .int .i64 (s 8)]) T0.b1 Tryz.underlying30 size_S rfl ?_)
  refine (CA _).mono ?_
  rintro e w1 ⟨rfl, b1⟩
  have T1 := T0.call b1
  have HT1 : Hid (One w w1 #[.int .i64 (s 0), .int .i64 (s 1), .int .i64 (s 2), .int .i64 (s 3), .int .i64 (s 4), .int .i64 (s 5), .int .i64 (s 6), .int .i64 (s 7), .int .i64 (s 8)] 30) := T1
  have z1 : IntKind.i64.wrap (s 0 + s 1 - 1) = s 0 + s 1 - 1 := by rw [IntKind.wrap_i64]; omega
  have z2 : IntKind.i64.wrap (s 2 + s 3 - 1) = s 2 + s 3 - 1 := by rw [IntKind.wrap_i64]; omega
  have z3 : IntKind.i64.wrap (s 4 - 1) = s 4 - 1 := by rw [IntKind.wrap_i64]; omega
  have x_0 : w1.cell? ⟨w.heap.size, 0, none⟩ = some (.int .i64 (s 0)) := T1.b1.cell 0
  have x_1 : w1.cell? ⟨w.heap.size, 1, none⟩ = some (.int .i64 (s 1)) := T1.b1.cell 1
  have x_2 : w1.cell? ⟨w.heap.size, 2, none⟩ = some (.int .i64 (s 2)) := T1.b1.cell 2
  have x_3 : w1.cell? ⟨w.heap.size, 3, none⟩ = some (.int .i64 (s 3)) := T1.b1.cell 3
  have x_4 : w1.cell? ⟨w.heap.size, 4, none⟩ = some (.int .i64 (s 4)) := T1.b1.cell 4
  have x_5 : w1.cell? ⟨w.heap.size, 5, none⟩ = some (.int .i64 (s 5)) := T1.b1.cell 5
  have x_6 : w1.cell? ⟨w.heap.size, 6, none⟩ = some (.int .i64 (s 6)) := T1.b1.cell 6
  have x_7 : w1.cell? ⟨w.heap.size, 7, none⟩ = some (.int .i64 (s 7)) := T1.b1.cell 7
  have x_8 : w1.cell? ⟨w.heap.size, 8, none⟩ = some (.int .i64 (s 8)) := T1.b1.cell 8
  clear T0 b1 T1
  go_wp2_with fail
  refine (C1 _).mono ?_
  rintro e w' ⟨rfl, hw'⟩
  obtain rfl := hw'.symm
  cases t1 with
  | false =>
    go_wp2
    go_ret
    exact boolNo rfl (fun h => by have := HE.out.1 h; simp at this) HT1.out.bel
  | true =>
  go_wp2_with fail
  refine (CD _).mono ?_
  rintro e w2 ⟨rfl, b2⟩
  have T2 := HT1.out.call b2
  have HB2 : Hid (Below w.heap.size w w2) := T2.bel
  have y4 : w2.cell? ⟨w.heap.size, 4, none⟩ = some (.int .i64 (s 4)) := T2.b1.cell 4
  clear b2 T2 x_0 x_1 x_2 x_3 x_4 x_5 x_6 x_7 x_8
  go_wp2_with fail
  refine (C2 _).mono ?_
  rintro e w' ⟨rfl, hw'⟩
  obtain rfl := hw'.symm
  cases t2 with
  | false =>
    go_wp2
    go_ret
    exact boolNo rfl (fun h => by have := HE.out.1 h; simp at this) HB2.out
  | true =>
  go_wp2_with fail
  refine (C3 _).mono ?_
  rintro e w' ⟨rfl, hw'⟩
  obtain rfl := hw'.symm
  cases t3 with
  | false =>
    go_wp2
    go_ret
    exact boolNo rfl (fun h => by have := HE.out.1 h; simp at this) HB2.out
  | true =>
    go_wp2
    go_ret
    exact boolYes rfl (HE.out.2 (by simp)) HB2.out
set_option maxHeartbeats 4000000 in
set_option maxRecDepth 20000 in
theorem isDrive_any (s : Nat → Int) (hok : OkShape s) (g k : Int) (w : World) : Calls Tryz.prog 60 #[shapeV s, .int .i64 g, .int .i64 k] w (BoolP (DriveP s g k) w) := by
  have hb := okB hok
  obtain ⟨t1, h1⟩ := exB (InP g 0 (s 0 + s 1 - 1))
  obtain ⟨t2, h2⟩ := exB (InP k 0 (s 2 + s 3 - 1))
  have CG := fun w' => isGroup_b hok h1 w'
  have CD := fun w' => driveCount_any s hok w'
  have C2 := fun w' => inBounds_b (show (0 : Int) ≤ s 2 + s 3 - 1 by omega) h2 w'
  have HE : Hid (DriveP s g k ↔ (t1 = true ∧ t2 = true)) := by
    show DriveP s g k ↔ _
    rw [h1, h2]
    exact Iff.rfl
  have T0 := one_new w #[.int .i64 (s 0), .int .i64 (s 1), .int .i64 (s 2), .int .i64 (s 3), .int .i64 (s 4), .int .i64 (s 5), .int .i64 (s 6), .int .i64 (s 7), .int .i64 (s 8)] 30
  unfold shapeV at CG CD ⊢
  clear h1 h2 hok
  go_enter Tryz.func60, Tryz.ntmps60
  go_wp2_with (refine wp_loadBox 30 (.tmp 3) rfl rfl w.heap.size rfl (cs := [.int .i64 (s 0), .int .i64 (s 1), .int .i64 (s 2), .int .i64 (s 3), .int .i64 (s 4), .int .i64 (s 5), .int .i64 (s 6), .int .i64 (s 7), .int .i64 (s 8)]) T0.b1 Tryz.underlying30 size_S rfl ?_)
  refine (CG _).mono ?_
  rintro e w1 ⟨rfl, b1⟩
  have T1 := T0.call b1
  have HT1 : Hid (One w w1 #[.int .i64 (s 0), .int .i64 (s 1), .int .i64 (s 2), .int .i64 (s 3), .int .i64 (s 4), .int .i64 (s 5), .int .i64 (s 6), .int .i64 (s 7), .int .i64 (s 8)] 30) := T1
  have z2 : IntKind.i64.wrap (s 2 + s 3 - 1) = s 2 + s 3 - 1 := by rw [IntKind.wrap_i64]; omega
  have x_0 : w1.cell? ⟨w.heap.size, 0, none⟩ = some (.int .i64 (s 0)) := T1.b1.cell 0
  have x_1 : w1.cell? ⟨w.heap.size, 1, none⟩ = some (.int .i64 (s 1)) := T1.b1.cell 1
  have x_2 : w1.cell? ⟨w.heap.size, 2, none⟩ = some (.int .i64 (s 2)) := T1.b1.cell 2
  have x_3 : w1.cell? ⟨w.heap.size, 3, none⟩ = some (.int .i64 (s 3)) := T1.b1.cell 3
  have x_4 : w1.cell? ⟨w.heap.size, 4, none⟩ = some (.int .i64 (s 4)) := T1.b1.cell 4
  have x_5 : w1.cell? ⟨w.heap.size, 5, none⟩ = some (.int .i64 (s 5)) := T1.b1.cell 5
  have x_6 : w1.cell? ⟨w.heap.size, 6, none⟩ = some (.int .i64 (s 6)) := T1.b1.cell 6
  have x_7 : w1.cell? ⟨w.heap.size, 7, none⟩ = some (.int .i64 (s 7)) := T1.b1.cell 7
  have x_8 : w1.cell? ⟨w.heap.size, 8, none⟩ = some (.int .i64 (s 8)) := T1.b1.cell 8
  clear T0 b1 T1
  cases t1 with
  | false =>
    go_wp2
    go_ret
    exact boolNo rfl (fun h => by have := HE.out.1 h; simp at this) HT1.out.bel
  | true =>
  go_wp2_with fail
  refine (CD _).mono ?_
  rintro e w2 ⟨rfl, b2⟩
  have HB2 : Hid (Below w.heap.size w w2) := (HT1.out.call b2).bel
  clear b2 x_0 x_1 x_2 x_3 x_4 x_5 x_6 x_7 x_8
  go_wp2_with fail
  refine (C2 _).mono ?_
  rintro e w3 ⟨rfl, b3⟩
  obtain rfl := b3.symm
  have HB3 := HB2
  cases t2 with
  | false =>
    go_wp2
    go_ret
    exact boolNo rfl (fun h => by have := HE.out.1 h; simp at this) HB3.out
  | true =>
    go_wp2
    go_ret
    exact boolYes rfl (HE.out.2 (by simp)) HB3.out
set_option maxHeartbeats 4000000 in
set_option maxRecDepth 20000 in
theorem isOn_any (d : WorldD) (cs : List Value) (hi : Nat) (g : Int) (w : World) (h : layWorld.rd w hi d cs) (hhi : hi ≤ w.heap.size) : Calls Tryz.prog 45 #[.agg cs.toArray, .int .i64 g] w (BoolP (HasP d.on.1 d.on.2 g) w) := by
  obtain ⟨ao1, cap1, ao2, cap2, ao3, cap3, rfl, g1, g2, g3, -⟩ := World_rd h
  obtain ⟨_, e2, ⟨h2, _⟩, _⟩ := g2
  cases e2
  have T0 := one_new w #[.int .i64 (d.shape 0), .int .i64 (d.shape 1), .int .i64 (d.shape 2), .int .i64 (d.shape 3), .int .i64 (d.shape 4), .int .i64 (d.shape 5), .int .i64 (d.shape 6), .int .i64 (d.shape 7), .int .i64 (d.shape 8), .slice ao1 d.groups.1 cap1, .slice ao2 d.on.1 cap2, .slice ao3 d.tapes.1 cap3, .int .i64 d.writes, .int .i64 d.stop, .bool d.down] 34
  have C := contains_any (.slice ao2 d.on.1 cap2) d.on.1 d.on.2 hi g _ (h2.below T0.bel hhi)
  clear h g1 g3 h2
  go_enter Tryz.func45, Tryz.ntmps45
  go_wp2_with fail
  refine C.mono ?_
  rintro e w1 ⟨b, rfl, hb, b1⟩
  have HP : Hid (b = true ↔ HasP d.on.1 d.on.2 g) := hb
  have HB : Hid (Below w.heap.size w w1) := (T0.call b1).bel
  clear b1 T0 C hb
  go_wp2
  go_ret
  exact ⟨b, rfl, HP.out, HB.out⟩
end Go.Proofs.YtbmfndjglndnlaaGreat

namespace Go.Proofs.YtbmfndjglndnlaaGreat
open Go.RowKit F256
set_option linter.unusedVariables false
set_option linter.unusedSimpArgs false
def zeroBl : BlockD := ⟨0, (0, fun _ => 0)⟩
def drvAt (d : WorldD) (g k : Int) : DriveD := (d.groups.2 g.toNat).2 k.toNat
def ReadAns (d : WorldD) (g k r : Int) (q : BlockResultD) : Prop :=
  (∃ x, x ≠ 0 ∧ AskAns d x ∧ q = ⟨x, zeroBl⟩) ∨ (AskAns d 0 ∧ ((¬ PlaceP d.shape g k r ∧ q = ⟨3, zeroBl⟩) ∨ (PlaceP d.shape g k r ∧ ((¬ HasP d.on.1 d.on.2 g ∧ q = ⟨8, zeroBl⟩) ∨ (HasP d.on.1 d.on.2 g ∧
    (((drvAt d g k).wiped = true ∧ q = ⟨12, zeroBl⟩) ∨ ((drvAt d g k).wiped = false ∧ q = ⟨0, (drvAt d g k).blocks.2 r.toNat⟩)))))))
theorem ReadAns.one {d : WorldD} {g k r : Int} {p q : BlockResultD} (h : ReadAns d g k r p) (l : ReadAns d g k r q) : p = q := by
  rcases h with ⟨x, h1, h2, rfl⟩ | ⟨h1, h⟩ <;> rcases l with ⟨y, l1, l2, rfl⟩ | ⟨l1, l⟩
  · rw [h2.one l2]
  · exact absurd (h2.one l1) h1
  · exact absurd (l2.one h1) l1
  · rcases h with ⟨h2, rfl⟩ | ⟨h2, h⟩ <;> rcases l with ⟨l2, rfl⟩ | ⟨l2, l⟩
    · rfl
    · exact absurd l2 h2
    · exact absurd h2 l2
    · rcases h with ⟨h3, rfl⟩ | ⟨h3, h⟩ <;> rcases l with ⟨l3, rfl⟩ | ⟨l3, l⟩
      · rfl
      · exact absurd l3 h3
      · exact absurd h3 l3
      · rcases h with ⟨h4, rfl⟩ | ⟨h4, rfl⟩ <;> rcases l with ⟨l4, rfl⟩ | ⟨l4, rfl⟩
        · rfl
        · rw [h4] at l4; cases l4
        · rw [h4] at l4; cases l4
        · rfl
/-- a block's result is told: memory of its own -/
def BResPost (P : BlockResultD → Prop) (w : World) (e : Ending) (w' : World) : Prop := ∃ d cs, e = .returned (.agg cs.toArray) ∧ P d ∧ OwnT layBlockResult w' w.heap.size w'.heap.size d cs ∧ Below w.heap.size w w'
theorem own_zeroBl (w : World) : layBlock.own w zeroBl [.int .i64 0, .slice none 0 0] [] := ⟨_, _, [], [], rfl, rfl, ⟨rfl, by decide, rfl⟩, ⟨_, rfl, rfl, own_nil _ _ _ _, fun _ => show 0 < 256 by decide⟩⟩
theorem own_bres {w : World} {lo hi : Nat} {d : BlockD} {cs : List Value} (c : Int) (hc : (-9223372036854775808 ≤ c ∧ c ≤ 9223372036854775807)) (h : OwnT layBlock w lo hi d cs) : OwnT layBlockResult w lo hi ⟨c, d⟩ (.int .i64 c :: cs) :=
  OwnT.conv (OwnT.pre (A := layI) (a := c) (c := [.int .i64 c]) ⟨rfl, hc, rfl⟩ h)
theorem own_bresCode (w : World) (c : Int) (hc : (-9223372036854775808 ≤ c ∧ c ≤ 9223372036854775807)) (lo hi : Nat) : OwnT layBlockResult w lo hi ⟨c, zeroBl⟩ [.int .i64 c, .int .i64 0, .slice none 0 0] := own_bres c hc (OwnT.nil (own_zeroBl w) lo hi)
theorem ask_small {d : WorldD} {x : Int} (h : AskAns d x) : (-9223372036854775808 ≤ x ∧ x ≤ 9223372036854775807) := by
  rcases h with ⟨_, h⟩ | ⟨_, h | h⟩
  · exact wld_small h
  · rw [h.2]; decide
  · rw [h.2]; decide
theorem ask_ok {d : WorldD} (h : AskAns d 0) : OkWorld d := by
  rcases h with ⟨h, _⟩ | ⟨h, _⟩
  · exact absurd rfl h
  · exact h.ok
end Go.Proofs.YtbmfndjglndnlaaGreat

namespace Go.Proofs.YtbmfndjglndnlaaGreat
open Go.RowKit F256
set_option linter.unusedVariables false
set_option linter.unusedSimpArgs false
def onW (d : WorldD) (g : Int) : WorldD := { d with on := (d.on.1 + 1, upd d.on.2 d.on.1 g) }
def OnAns (d : WorldD) (g : Int) (r : WorldResultD) : Prop := (∃ x, x ≠ 0 ∧ AskAns d x ∧ r = ⟨x, zeroW⟩) ∨ (AskAns d 0 ∧ ((¬ InP g 0 (d.shape 0 + d.shape 1 - 1) ∧ r = ⟨3, zeroW⟩) ∨ (InP g 0 (d.shape 0 + d.shape 1 - 1) ∧ ((HasP d.on.1 d.on.2 g ∧ r = ⟨0, d⟩) ∨ (¬ HasP d.on.1 d.on.2 g ∧ ((d.shape 5 ≤ (d.on.1 : Int) ∧ r = ⟨7, zeroW⟩) ∨ (¬ d.shape 5 ≤ (d.on.1 : Int) ∧ r = ⟨0, onW d g⟩)))))))
theorem OnAns.one {d : WorldD} {g : Int} {r q : WorldResultD} (h : OnAns d g r) (k : OnAns d g q) : r = q := by
  rcases h with ⟨x, h1, h2, rfl⟩ | ⟨h1, h⟩ <;> rcases k with ⟨y, k1, k2, rfl⟩ | ⟨k1, k⟩
  · rw [h2.one k2]
  · exact absurd (h2.one k1) h1
  · exact absurd (k2.one h1) k1
  · rcases h with ⟨h2, rfl⟩ | ⟨h2, h⟩ <;> rcases k with ⟨k2, rfl⟩ | ⟨k2, k⟩
    · rfl
    · exact absurd k2 h2
    · exact absurd h2 k2
    · rcases h with ⟨h3, rfl⟩ | ⟨h3, h⟩ <;> rcases k with ⟨k3, rfl⟩ | ⟨k3, k⟩
      · rfl
      · exact absurd h3 k3
      · exact absurd k3 h3
      · rcases h with ⟨h4, rfl⟩ | ⟨h4, rfl⟩ <;> rcases k with ⟨k4, rfl⟩ | ⟨k4, rfl⟩
        · rfl
        · exact absurd h4 k4
        · exact absurd k4 h4
        · rfl
theorem WOpen.chgn {w w' : World} {lo hi : Nat} {d : WorldD} {v1 v2 v3 : Value} {K1 K2 K3 K : List Nat} (h : WOpen w lo hi d v1 v2 v3 K1 K2 K3) (hc : ChgL K w w') (hK : ∀ b, b ∈ K → b ∉ K1 ++ (K2 ++ K3)) : WOpen w' lo hi d v1 v2 v3 K1 K2 K3 :=
  ⟨Lay.own_chgL _ h.g hc (fun b hb hbK => hK b hbK (List.mem_append_left _ hb)), Lay.own_chgL _ h.o hc (fun b hb hbK => hK b hbK (List.mem_append_right _ (List.mem_append_left _ hb))), Lay.own_chgL _ h.t hc (fun b hb hbK => hK b hbK (List.mem_append_right _ (List.mem_append_right _ hb))), h.nd, h.inn, h.k0, h.k4, h.k5⟩
theorem ints_slice {w : World} {p : Nat × (Nat → Int)} {v : Value} {K : List Nat} (h : layInts.own w p [v] K) : ∃ ao cap, v = .slice ao p.1 cap := by
  obtain ⟨_, e, _, h1, _⟩ := h
  cases e
  exact h1.slice
theorem on_few {d : WorldD} (h : szWorldD d ≤ 1048576) : d.on.1 ≤ 1048576 := by unfold szWorldD lenD at h; omega
end Go.Proofs.YtbmfndjglndnlaaGreat

namespace Go.Proofs.YtbmfndjglndnlaaGreat
open Go.RowKit F256
set_option linter.unusedVariables false
set_option linter.unusedSimpArgs false
set_option maxHeartbeats 32000000 in
set_option maxRecDepth 20000 in
theorem specOn_any (d : WorldD) (g : Int) (cs : List Value) (hi : Nat) (w : World) (h : layWorld.rd w hi d cs) (hhi : hi ≤ w.heap.size) (hsz : szWorldD d ≤ 1048576) (hg : -9223372036854775808 ≤ g ∧ g ≤ 9223372036854775807) :
    Calls Tryz.prog 10 #[.agg cs.toArray, .int .i64 g] w (ResPost (OnAns d g) w) := by
  have h' := h
  obtain ⟨ao1, cap1, ao2, cap2, ao3, cap3, rfl, g1, g2, g3, k0, k4, k5⟩ := World_rd h'
  have HRD : Hid (layWorld.rd w hi d [.int .i64 (d.shape 0), .int .i64 (d.shape 1), .int .i64 (d.shape 2), .int .i64 (d.shape 3), .int .i64 (d.shape 4), .int .i64 (d.shape 5), .int .i64 (d.shape 6), .int .i64 (d.shape 7), .int .i64 (d.shape 8), .slice ao1 d.groups.1 cap1, .slice ao2 d.on.1 cap2, .slice ao3 d.tapes.1 cap3, .int .i64 d.writes, .int .i64 d.stop, .bool d.down]) := h
  have HSZ : Hid (szWorldD d ≤ 1048576) := hsz
  have HG2 : Hid (RdI w hi (.slice ao2 d.on.1 cap2) d.on.1 d.on.2) := by
    obtain ⟨_, e2, ⟨h2, _⟩, _⟩ := g2
    cases e2
    exact h2
  have Hg : Hid (-9223372036854775808 ≤ g ∧ g ≤ 9223372036854775807) := hg
  clear h h' hsz g1 g2 g3 k0 k4 k5 hg
  have T0 := two_newb w #[.int .i64 (d.shape 0), .int .i64 (d.shape 1), .int .i64 (d.shape 2), .int .i64 (d.shape 3), .int .i64 (d.shape 4), .int .i64 (d.shape 5), .int .i64 (d.shape 6), .int .i64 (d.shape 7), .int .i64 (d.shape 8), .slice ao1 d.groups.1 cap1, .slice ao2 d.on.1 cap2, .slice ao3 d.tapes.1 cap3, .int .i64 d.writes, .int .i64 d.stop, .bool d.down] #[.int .i64 0, .int .i64 0, .int .i64 0, .int .i64 0, .int .i64 0, .int .i64 0, .int .i64 0, .int .i64 0, .int .i64 0, .int .i64 0, .slice none 0 0, .slice none 0 0, .slice none 0 0, .int .i64 0, .int .i64 0, .bool false] 34 36
  go_enter Tryz.func10, Tryz.ntmps10
  go_wp2_with (refine wp_loadBox 34 (.tmp 2) rfl rfl (w.heap.size) rfl (cs := [.int .i64 (d.shape 0), .int .i64 (d.shape 1), .int .i64 (d.shape 2), .int .i64 (d.shape 3), .int .i64 (d.shape 4), .int .i64 (d.shape 5), .int .i64 (d.shape 6), .int .i64 (d.shape 7), .int .i64 (d.shape 8), .slice ao1 d.groups.1 cap1, .slice ao2 d.on.1 cap2, .slice ao3 d.tapes.1 cap3, .int .i64 d.writes, .int .i64 d.stop, .bool d.down]) (T0.b1) Tryz.underlying34 size_W rfl ?_)
  refine (l5Asked_any d _ hi _ (layWorld.rd_below HRD.out T0.bel hhi) (Nat.le_trans hhi T0.bel.size) HSZ.out).mono ?_
  rintro e w1 ⟨x, rfl, hx, b1⟩
  have HT1 : Hid (Two w w1 #[.int .i64 (d.shape 0), .int .i64 (d.shape 1), .int .i64 (d.shape 2), .int .i64 (d.shape 3), .int .i64 (d.shape 4), .int .i64 (d.shape 5), .int .i64 (d.shape 6), .int .i64 (d.shape 7), .int .i64 (d.shape 8), .slice ao1 d.groups.1 cap1, .slice ao2 d.on.1 cap2, .slice ao3 d.tapes.1 cap3, .int .i64 d.writes, .int .i64 d.stop, .bool d.down] #[.int .i64 0, .int .i64 0, .int .i64 0, .int .i64 0, .int .i64 0, .int .i64 0, .int .i64 0, .int .i64 0, .int .i64 0, .int .i64 0, .slice none 0 0, .slice none 0 0, .slice none 0 0, .int .i64 0, .int .i64 0, .bool false] 34 36) := T0.call b1
  have HX : Hid (AskAns d x) := hx
  have z1 : w.heap.size + 1 < w1.heap.size := HT1.out.b2.lt
  clear b1 T0 hx
  by_cases hx0 : x = 0
  case neg =>
    have hne : (x != 0) = true := by simp [hx0]
    go_wp2_with (refine wp_storeBox 36 _ _ rfl rfl (w.heap.size + 1) rfl (cs := [.int .i64 x, .int .i64 0, .int .i64 0, .int .i64 0, .int .i64 0, .int .i64 0, .int .i64 0, .int .i64 0, .int .i64 0, .int .i64 0, .slice none 0 0, .slice none 0 0, .slice none 0 0, .int .i64 0, .int .i64 0, .bool false]) (old := [.int .i64 0, .int .i64 0, .int .i64 0, .int .i64 0, .int .i64 0, .int .i64 0, .int .i64 0, .int .i64 0, .int .i64 0, .int .i64 0, .slice none 0 0, .slice none 0 0, .slice none 0 0, .int .i64 0, .int .i64 0, .bool false]) rfl (HT1.out.b2) size_WR rfl rfl (code_one _ (ask_small HX.out) w) ?_; intro w9 X9 C9 z9)
    refine ret_box Tryz.results10 rfl X9 Tryz.underlying36 size_WR rfl rfl ?_
    exact post_code (ask_small HX.out) HT1.out.bel C9 (.inl ⟨x, hx0, HX.out, rfl⟩)
  subst hx0
  have HOK : Hid (OkWorld d) := ask_ok HX.out
  have hb := okB HOK.out.shape
  have x_0 : w1.cell? ⟨w.heap.size, 0, none⟩ = some (.int .i64 (d.shape 0)) := HT1.out.b1.cell 0
  have x_1 : w1.cell? ⟨w.heap.size, 1, none⟩ = some (.int .i64 (d.shape 1)) := HT1.out.b1.cell 1
  have x_2 : w1.cell? ⟨w.heap.size, 2, none⟩ = some (.int .i64 (d.shape 2)) := HT1.out.b1.cell 2
  have x_3 : w1.cell? ⟨w.heap.size, 3, none⟩ = some (.int .i64 (d.shape 3)) := HT1.out.b1.cell 3
  have x_4 : w1.cell? ⟨w.heap.size, 4, none⟩ = some (.int .i64 (d.shape 4)) := HT1.out.b1.cell 4
  have x_5 : w1.cell? ⟨w.heap.size, 5, none⟩ = some (.int .i64 (d.shape 5)) := HT1.out.b1.cell 5
  have x_6 : w1.cell? ⟨w.heap.size, 6, none⟩ = some (.int .i64 (d.shape 6)) := HT1.out.b1.cell 6
  have x_7 : w1.cell? ⟨w.heap.size, 7, none⟩ = some (.int .i64 (d.shape 7)) := HT1.out.b1.cell 7
  have x_8 : w1.cell? ⟨w.heap.size, 8, none⟩ = some (.int .i64 (d.shape 8)) := HT1.out.b1.cell 8
  have CA := fun w' => l5All_any d.shape HOK.out.shape w'
  unfold shapeV at CA
  have zz : IntKind.i64.wrap (d.shape 0 + d.shape 1 - 1) = d.shape 0 + d.shape 1 - 1 := by rw [IntKind.wrap_i64]; omega
  clear hb
  go_wp2_with fail
  refine (CA _).mono ?_
  rintro e wA ⟨rfl, bA⟩
  have HTA : Hid (Two w wA #[.int .i64 (d.shape 0), .int .i64 (d.shape 1), .int .i64 (d.shape 2), .int .i64 (d.shape 3), .int .i64 (d.shape 4), .int .i64 (d.shape 5), .int .i64 (d.shape 6), .int .i64 (d.shape 7), .int .i64 (d.shape 8), .slice ao1 d.groups.1 cap1, .slice ao2 d.on.1 cap2, .slice ao3 d.tapes.1 cap3, .int .i64 d.writes, .int .i64 d.stop, .bool d.down] #[.int .i64 0, .int .i64 0, .int .i64 0, .int .i64 0, .int .i64 0, .int .i64 0, .int .i64 0, .int .i64 0, .int .i64 0, .int .i64 0, .slice none 0 0, .slice none 0 0, .slice none 0 0, .int .i64 0, .int .i64 0, .bool false] 34 36) := HT1.out.call bA
  have zA : w1.heap.size ≤ wA.heap.size := bA.size
  clear bA CA x_0 x_1 x_2 x_3 x_4 x_5 x_6 x_7 x_8
  obtain ⟨b, hb⟩ := exB (InP g 0 (d.shape 0 + d.shape 1 - 1))
  have Hb : Hid (b = true ↔ InP g 0 (d.shape 0 + d.shape 1 - 1)) := hb
  have CI := fun w' => l1In_b hb w'
  clear hb
  go_wp2_with fail
  refine (CI _).mono ?_
  rintro e wA' ⟨rfl, e1⟩
  obtain rfl := e1.symm
  clear CI
  cases b with
  | false =>
    go_wp2_with (refine wp_storeBox 36 _ _ rfl rfl (w.heap.size + 1) rfl (cs := [.int .i64 3, .int .i64 0, .int .i64 0, .int .i64 0, .int .i64 0, .int .i64 0, .int .i64 0, .int .i64 0, .int .i64 0, .int .i64 0, .slice none 0 0, .slice none 0 0, .slice none 0 0, .int .i64 0, .int .i64 0, .bool false]) (old := [.int .i64 0, .int .i64 0, .int .i64 0, .int .i64 0, .int .i64 0, .int .i64 0, .int .i64 0, .int .i64 0, .int .i64 0, .int .i64 0, .slice none 0 0, .slice none 0 0, .slice none 0 0, .int .i64 0, .int .i64 0, .bool false]) rfl (HTA.out.b2) size_WR rfl rfl (code_one _ (by decide) w) ?_; intro w9 X9 C9 z9)
    refine ret_box Tryz.results10 rfl X9 Tryz.underlying36 size_WR rfl rfl ?_
    exact post_code (by decide) HTA.out.bel C9 (.inr ⟨HX.out, .inl ⟨fun h => (by have := Hb.out.2 h; cases this), rfl⟩⟩)
  | true =>
  go_wp2_with (refine wp_loadBox 34 (.tmp 2) rfl rfl (w.heap.size) rfl (cs := [.int .i64 (d.shape 0), .int .i64 (d.shape 1), .int .i64 (d.shape 2), .int .i64 (d.shape 3), .int .i64 (d.shape 4), .int .i64 (d.shape 5), .int .i64 (d.shape 6), .int .i64 (d.shape 7), .int .i64 (d.shape 8), .slice ao1 d.groups.1 cap1, .slice ao2 d.on.1 cap2, .slice ao3 d.tapes.1 cap3, .int .i64 d.writes, .int .i64 d.stop, .bool d.down]) (HTA.out.b1) Tryz.underlying34 size_W rfl ?_)
  refine (l5Copy_is _ d hi _ (layWorld.rd_below HRD.out HTA.out.bel hhi) (Nat.le_trans hhi HTA.out.bel.size) HSZ.out).mono ?_
  rintro e w2 ⟨c2, rfl, o2, b2⟩
  obtain ⟨p1, c1, p2, c2, p3, c3, K1, K2, K3, rfl, WO2⟩ := world_open o2
  have z2 : wA.heap.size ≤ w2.heap.size := b2.size
  go_upto_region 7 with (refine wp_allocStore 34 6 (.tmp 22) [.int .i64 (d.shape 0), .int .i64 (d.shape 1), .int .i64 (d.shape 2), .int .i64 (d.shape 3), .int .i64 (d.shape 4), .int .i64 (d.shape 5), .int .i64 (d.shape 6), .int .i64 (d.shape 7), .int .i64 (d.shape 8), .slice p1 d.groups.1 c1, .slice p2 d.on.1 c2, .slice p3 d.tapes.1 c3, .int .i64 d.writes, .int .i64 d.stop, .bool d.down] _ 15 rfl rfl rfl rfl rfl rfl rfl rfl info_W rfl rfl o2.one ?_)
  have bA : Below w2.heap.size w2 (w2.alloc (.cells #[.int .i64 (d.shape 0), .int .i64 (d.shape 1), .int .i64 (d.shape 2), .int .i64 (d.shape 3), .int .i64 (d.shape 4), .int .i64 (d.shape 5), .int .i64 (d.shape 6), .int .i64 (d.shape 7), .int .i64 (d.shape 8), .slice p1 d.groups.1 c1, .slice p2 d.on.1 c2, .slice p3 d.tapes.1 c3, .int .i64 d.writes, .int .i64 d.stop, .bool d.down] 34)) := (Below.refl _ _).alloc (Nat.le_refl _) _
  have X3 : Box (w2.alloc (.cells #[.int .i64 (d.shape 0), .int .i64 (d.shape 1), .int .i64 (d.shape 2), .int .i64 (d.shape 3), .int .i64 (d.shape 4), .int .i64 (d.shape 5), .int .i64 (d.shape 6), .int .i64 (d.shape 7), .int .i64 (d.shape 8), .slice p1 d.groups.1 c1, .slice p2 d.on.1 c2, .slice p3 d.tapes.1 c3, .int .i64 d.writes, .int .i64 d.stop, .bool d.down] 34)) w2.heap.size #[.int .i64 (d.shape 0), .int .i64 (d.shape 1), .int .i64 (d.shape 2), .int .i64 (d.shape 3), .int .i64 (d.shape 4), .int .i64 (d.shape 5), .int .i64 (d.shape 6), .int .i64 (d.shape 7), .int .i64 (d.shape 8), .slice p1 d.groups.1 c1, .slice p2 d.on.1 c2, .slice p3 d.tapes.1 c3, .int .i64 d.writes, .int .i64 d.stop, .bool d.down] 34 := box_new _ _ _
  obtain ⟨W3, hW3⟩ : ∃ x, x = w2.alloc (.cells #[.int .i64 (d.shape 0), .int .i64 (d.shape 1), .int .i64 (d.shape 2), .int .i64 (d.shape 3), .int .i64 (d.shape 4), .int .i64 (d.shape 5), .int .i64 (d.shape 6), .int .i64 (d.shape 7), .int .i64 (d.shape 8), .slice p1 d.groups.1 c1, .slice p2 d.on.1 c2, .slice p3 d.tapes.1 c3, .int .i64 d.writes, .int .i64 d.stop, .bool d.down] 34) := ⟨_, rfl⟩
  rw [← hW3] at bA X3 ⊢
  have T3 := (HTA.out.call b2).call bA
  have WO := WO2.below bA (Nat.le_refl _)
  have z3 : w2.heap.size < W3.heap.size := X3.lt
  clear bA hW3 o2 b2 WO2
  have hin : Hid (InP g 0 (d.shape 0 + d.shape 1 - 1)) := Hb.out.1 (by simp)
  have x10 : W3.cell? ⟨w.heap.size, 10, none⟩ = some (.slice ao2 d.on.1 cap2) := T3.b1.cell 10
  have CH := l1Has_any _ _ _ hi g W3 (HG2.out.below T3.bel hhi)
  go_wp2_with fail
  refine CH.mono ?_
  rintro e w4 ⟨t, rfl, ht, b4⟩
  have X4 := X3.call b4
  have T4 := T3.call b4
  have WO4 := WO.below b4 (by omega)
  have z4 : W3.heap.size ≤ w4.heap.size := b4.size
  have HH : Hid (t = true ↔ HasP d.on.1 d.on.2 g) := ht
  clear X3 T3 WO CH b4 x10 ht
  cases t with
  | true =>
    have O4 := WO4.own
    go_wp2_with (first | (refine wp_loadBox 34 (.tmp 6) rfl rfl (w2.heap.size) rfl (cs := [.int .i64 (d.shape 0), .int .i64 (d.shape 1), .int .i64 (d.shape 2), .int .i64 (d.shape 3), .int .i64 (d.shape 4), .int .i64 (d.shape 5), .int .i64 (d.shape 6), .int .i64 (d.shape 7), .int .i64 (d.shape 8), .slice p1 d.groups.1 c1, .slice p2 d.on.1 c2, .slice p3 d.tapes.1 c3, .int .i64 d.writes, .int .i64 d.stop, .bool d.down]) (X4) Tryz.underlying34 size_W rfl ?_) | (refine wp_storeBox 36 _ _ rfl rfl (w.heap.size + 1) rfl (cs := [.int .i64 0, .int .i64 (d.shape 0), .int .i64 (d.shape 1), .int .i64 (d.shape 2), .int .i64 (d.shape 3), .int .i64 (d.shape 4), .int .i64 (d.shape 5), .int .i64 (d.shape 6), .int .i64 (d.shape 7), .int .i64 (d.shape 8), .slice p1 d.groups.1 c1, .slice p2 d.on.1 c2, .slice p3 d.tapes.1 c3, .int .i64 d.writes, .int .i64 d.stop, .bool d.down]) (old := [.int .i64 0, .int .i64 0, .int .i64 0, .int .i64 0, .int .i64 0, .int .i64 0, .int .i64 0, .int .i64 0, .int .i64 0, .int .i64 0, .slice none 0 0, .slice none 0 0, .slice none 0 0, .int .i64 0, .int .i64 0, .bool false]) rfl (T4.b2) size_WR rfl rfl ((own_resOf 0 (by decide) O4).one) ?_; intro w9 X9 C9 z9))
    refine ret_box Tryz.results10 rfl X9 Tryz.underlying36 size_WR rfl rfl ?_
    exact post_world (by decide) T4.bel C9 O4 (by omega) (by omega) (.inr ⟨HX.out, .inr ⟨hin.out, .inl ⟨HH.out.1 (by simp), rfl⟩⟩⟩)
  | false =>
  have hno : Hid (¬ HasP d.on.1 d.on.2 g) := fun h => (by have := HH.out.2 h; cases this)
  have x10 : w4.cell? ⟨w.heap.size, 10, none⟩ = some (.slice ao2 d.on.1 cap2) := T4.b1.cell 10
  have x5 : w4.cell? ⟨w.heap.size, 5, none⟩ = some (.int .i64 (d.shape 5)) := T4.b1.cell 5
  have zl : IntKind.i64.wrap (d.on.1 : Int) = (d.on.1 : Int) := by have := on_few HSZ.out; rw [IntKind.wrap_i64]; omega
  by_cases hc : d.shape 5 ≤ (d.on.1 : Int)
  · have HC : Hid (d.shape 5 ≤ (d.on.1 : Int)) := hc
    go_wp2_with (refine wp_storeBox 36 _ _ rfl rfl (w.heap.size + 1) rfl (cs := [.int .i64 7, .int .i64 0, .int .i64 0, .int .i64 0, .int .i64 0, .int .i64 0, .int .i64 0, .int .i64 0, .int .i64 0, .int .i64 0, .slice none 0 0, .slice none 0 0, .slice none 0 0, .int .i64 0, .int .i64 0, .bool false]) (old := [.int .i64 0, .int .i64 0, .int .i64 0, .int .i64 0, .int .i64 0, .int .i64 0, .int .i64 0, .int .i64 0, .int .i64 0, .int .i64 0, .slice none 0 0, .slice none 0 0, .slice none 0 0, .int .i64 0, .int .i64 0, .bool false]) rfl (T4.b2) size_WR rfl rfl (code_one _ (by decide) w) ?_; intro w9 X9 C9 z9)
    refine ret_box Tryz.results10 rfl X9 Tryz.underlying36 size_WR rfl rfl ?_
    exact post_code (by decide) T4.bel C9 (.inr ⟨HX.out, .inr ⟨hin.out, .inr ⟨hno.out, .inl ⟨HC.out, rfl⟩⟩⟩⟩)
  have HC : Hid (¬ d.shape 5 ≤ (d.on.1 : Int)) := hc
  go_upto_region 11 with fail
  clear x10 x5 hc zl
  have hfew := on_few HSZ.out
  have bB : Below w4.heap.size w4 (w4.alloc (.cells #[.int .i64 g] 2)) := (Below.refl _ _).alloc (Nat.le_refl _) _
  have WOb := WO4.below bB (by omega)
  have Xb := X4.call bB
  have Tb := T4.call bB
  have cb : (w4.alloc (.cells #[.int .i64 g] 2)).cell? ⟨w4.heap.size, 0, none⟩ = some (.int .i64 g) := cells_new w4 [.int .i64 g] 2 0
  have x10 : w4.cell? ⟨w2.heap.size, 10, none⟩ = some (.slice p2 d.on.1 c2) := X4.cell 10
  have zb : w4.heap.size < (w4.alloc (.cells #[.int .i64 g] 2)).heap.size := by simp
  obtain ⟨v', w6, L', hrun, TT⟩ := run_appendOn _ 25 (n := d.on.1) (f := d.on.2) WOb.o g Hg.out w4.heap.size 1 cb (by omega)
  obtain ⟨p', c', rfl⟩ := ints_slice TT.own
  have hK : ∀ b, b ∈ K2 → wA.heap.size ≤ b ∧ b < w2.heap.size := fun b hb => WOb.inn b (List.mem_append_right _ (List.mem_append_left _ hb))
  have X6 := Xb.chgl TT.chg (fun hb => by have := hK _ hb; omega)
  have T6 := Tb.chgK TT.chg (fun b hb => by have := hK _ hb; omega)
  have z6 := TT.chg.size
  have WO6 := WOb.on (by omega) (by omega) TT
  have y10 : w6.cell? ⟨w2.heap.size, 10, none⟩ = some (.slice p2 d.on.1 c2) := X6.cell 10
  have yf10 : w6.frozen? ⟨w2.heap.size, 10, none⟩ = false := X6.frozen 10
  have X7 : Box (w6.setCell ⟨w2.heap.size, 10, none⟩ (.slice p' (d.on.1 + 1) c')) w2.heap.size #[.int .i64 (d.shape 0), .int .i64 (d.shape 1), .int .i64 (d.shape 2), .int .i64 (d.shape 3), .int .i64 (d.shape 4), .int .i64 (d.shape 5), .int .i64 (d.shape 6), .int .i64 (d.shape 7), .int .i64 (d.shape 8), .slice p1 d.groups.1 c1, (.slice p' (d.on.1 + 1) c'), .slice p3 d.tapes.1 c3, .int .i64 d.writes, .int .i64 d.stop, .bool d.down] 34 := X6.setc 10 _
  have CC : ChgL [w2.heap.size] w6 (w6.setCell ⟨w2.heap.size, 10, none⟩ (.slice p' (d.on.1 + 1) c')) := (ChgL.refl _ _).st _ 10 _ (by simp)
  have T7 := T6.chgK CC (fun b hb => by simp at hb; omega)
  have O7 : OwnT layWorld (w6.setCell ⟨w2.heap.size, 10, none⟩ (.slice p' (d.on.1 + 1) c')) wA.heap.size w6.heap.size (onW d g) [.int .i64 (d.shape 0), .int .i64 (d.shape 1), .int .i64 (d.shape 2), .int .i64 (d.shape 3), .int .i64 (d.shape 4), .int .i64 (d.shape 5), .int .i64 (d.shape 6), .int .i64 (d.shape 7), .int .i64 (d.shape 8), .slice p1 d.groups.1 c1, (.slice p' (d.on.1 + 1) c'), .slice p3 d.tapes.1 c3, .int .i64 d.writes, .int .i64 d.stop, .bool d.down] := (WO6.chgn CC (fun b hb hm => by
    simp only [List.mem_singleton] at hb
    subst hb
    rcases List.mem_append.1 hm with hm | hm
    · have := WOb.inn _ (List.mem_append_left _ hm); omega
    · rcases List.mem_append.1 hm with hm | hm
      · rcases TT.sub _ hm with hm | hm
        · have := hK _ hm; omega
        · omega
      · have := WOb.inn _ (List.mem_append_right _ (List.mem_append_right _ hm)); omega)).own
  have z7 := CC.size
  clear WOb Xb Tb TT X6 T6 WO6 bB
  go_upto_region 12 with (at_builtin; refine wp_run2 rfl (.tmp 38) (.tmp 40) rfl ?_ ?_ hrun ?_; (simp [Act.eval]); (simp [Act.eval]))
  obtain ⟨W7, hW7⟩ : ∃ x, x = w6.setCell ⟨w2.heap.size, 10, none⟩ (.slice p' (d.on.1 + 1) c') := ⟨_, rfl⟩
  rw [← hW7] at X7 T7 O7 z7 ⊢
  clear hW7 hrun y10 yf10 x10 CC
  go_wp2_with (first | (refine wp_loadBox 34 (.tmp 6) rfl rfl (w2.heap.size) rfl (cs := [.int .i64 (d.shape 0), .int .i64 (d.shape 1), .int .i64 (d.shape 2), .int .i64 (d.shape 3), .int .i64 (d.shape 4), .int .i64 (d.shape 5), .int .i64 (d.shape 6), .int .i64 (d.shape 7), .int .i64 (d.shape 8), .slice p1 d.groups.1 c1, (.slice p' (d.on.1 + 1) c'), .slice p3 d.tapes.1 c3, .int .i64 d.writes, .int .i64 d.stop, .bool d.down]) (X7) Tryz.underlying34 size_W rfl ?_) | (refine wp_storeBox 36 _ _ rfl rfl (w.heap.size + 1) rfl (cs := [.int .i64 0, .int .i64 (d.shape 0), .int .i64 (d.shape 1), .int .i64 (d.shape 2), .int .i64 (d.shape 3), .int .i64 (d.shape 4), .int .i64 (d.shape 5), .int .i64 (d.shape 6), .int .i64 (d.shape 7), .int .i64 (d.shape 8), .slice p1 d.groups.1 c1, (.slice p' (d.on.1 + 1) c'), .slice p3 d.tapes.1 c3, .int .i64 d.writes, .int .i64 d.stop, .bool d.down]) (old := [.int .i64 0, .int .i64 0, .int .i64 0, .int .i64 0, .int .i64 0, .int .i64 0, .int .i64 0, .int .i64 0, .int .i64 0, .int .i64 0, .slice none 0 0, .slice none 0 0, .slice none 0 0, .int .i64 0, .int .i64 0, .bool false]) rfl (T7.b2) size_WR rfl rfl ((own_resOf 0 (by decide) O7).one) ?_; intro w9 X9 C9 z9))
  refine ret_box Tryz.results10 rfl X9 Tryz.underlying36 size_WR rfl rfl ?_
  exact post_world (by decide) T7.bel C9 O7 (by omega) (by omega) (.inr ⟨HX.out, .inr ⟨hin.out, .inr ⟨hno.out, .inr ⟨by have := HC.out; omega, rfl⟩⟩⟩⟩)
end Go.Proofs.YtbmfndjglndnlaaGreat

namespace Go.Proofs.YtbmfndjglndnlaaGreat
open Go.RowKit F256
set_option linter.unusedVariables false
set_option linter.unusedSimpArgs false
set_option maxHeartbeats 32000000 in
set_option maxRecDepth 20000 in
theorem implOn_any (d : WorldD) (g : Int) (cs : List Value) (hi : Nat) (w : World) (h : layWorld.rd w hi d cs) (hhi : hi ≤ w.heap.size) (hsz : szWorldD d ≤ 1048576) (hg : -9223372036854775808 ≤ g ∧ g ≤ 9223372036854775807) :
    Calls Tryz.prog 12 #[.agg cs.toArray, .int .i64 g] w (ResPost (OnAns d g) w) := by
  have h' := h
  obtain ⟨ao1, cap1, ao2, cap2, ao3, cap3, rfl, g1, g2, g3, k0, k4, k5⟩ := World_rd h'
  have HRD : Hid (layWorld.rd w hi d [.int .i64 (d.shape 0), .int .i64 (d.shape 1), .int .i64 (d.shape 2), .int .i64 (d.shape 3), .int .i64 (d.shape 4), .int .i64 (d.shape 5), .int .i64 (d.shape 6), .int .i64 (d.shape 7), .int .i64 (d.shape 8), .slice ao1 d.groups.1 cap1, .slice ao2 d.on.1 cap2, .slice ao3 d.tapes.1 cap3, .int .i64 d.writes, .int .i64 d.stop, .bool d.down]) := h
  have HSZ : Hid (szWorldD d ≤ 1048576) := hsz
  have Hg : Hid (-9223372036854775808 ≤ g ∧ g ≤ 9223372036854775807) := hg
  clear h h' hsz g1 g2 g3 k0 k4 k5 hg
  have T0 := two_newb w #[.int .i64 (d.shape 0), .int .i64 (d.shape 1), .int .i64 (d.shape 2), .int .i64 (d.shape 3), .int .i64 (d.shape 4), .int .i64 (d.shape 5), .int .i64 (d.shape 6), .int .i64 (d.shape 7), .int .i64 (d.shape 8), .slice ao1 d.groups.1 cap1, .slice ao2 d.on.1 cap2, .slice ao3 d.tapes.1 cap3, .int .i64 d.writes, .int .i64 d.stop, .bool d.down] #[.int .i64 0, .int .i64 0, .int .i64 0, .int .i64 0, .int .i64 0, .int .i64 0, .int .i64 0, .int .i64 0, .int .i64 0, .int .i64 0, .slice none 0 0, .slice none 0 0, .slice none 0 0, .int .i64 0, .int .i64 0, .bool false] 34 36
  go_enter Tryz.func12, Tryz.ntmps12
  go_wp2_with (refine wp_loadBox 34 (.tmp 2) rfl rfl (w.heap.size) rfl (cs := [.int .i64 (d.shape 0), .int .i64 (d.shape 1), .int .i64 (d.shape 2), .int .i64 (d.shape 3), .int .i64 (d.shape 4), .int .i64 (d.shape 5), .int .i64 (d.shape 6), .int .i64 (d.shape 7), .int .i64 (d.shape 8), .slice ao1 d.groups.1 cap1, .slice ao2 d.on.1 cap2, .slice ao3 d.tapes.1 cap3, .int .i64 d.writes, .int .i64 d.stop, .bool d.down]) (T0.b1) Tryz.underlying34 size_W rfl ?_)
  refine (powered_any d _ hi _ (layWorld.rd_below HRD.out T0.bel hhi) (Nat.le_trans hhi T0.bel.size) HSZ.out).mono ?_
  rintro e w1 ⟨x, rfl, hx, b1⟩
  have HT1 : Hid (Two w w1 #[.int .i64 (d.shape 0), .int .i64 (d.shape 1), .int .i64 (d.shape 2), .int .i64 (d.shape 3), .int .i64 (d.shape 4), .int .i64 (d.shape 5), .int .i64 (d.shape 6), .int .i64 (d.shape 7), .int .i64 (d.shape 8), .slice ao1 d.groups.1 cap1, .slice ao2 d.on.1 cap2, .slice ao3 d.tapes.1 cap3, .int .i64 d.writes, .int .i64 d.stop, .bool d.down] #[.int .i64 0, .int .i64 0, .int .i64 0, .int .i64 0, .int .i64 0, .int .i64 0, .int .i64 0, .int .i64 0, .int .i64 0, .int .i64 0, .slice none 0 0, .slice none 0 0, .slice none 0 0, .int .i64 0, .int .i64 0, .bool false] 34 36) := T0.call b1
  have HX : Hid (AskAns d x) := hx
  have z1 : w.heap.size + 1 < w1.heap.size := HT1.out.b2.lt
  clear b1 T0 hx
  by_cases hx0 : x = 0
  case neg =>
    have hne : (x != 0) = true := by simp [hx0]
    go_wp2_with (refine wp_storeBox 36 _ _ rfl rfl (w.heap.size + 1) rfl (cs := [.int .i64 x, .int .i64 0, .int .i64 0, .int .i64 0, .int .i64 0, .int .i64 0, .int .i64 0, .int .i64 0, .int .i64 0, .int .i64 0, .slice none 0 0, .slice none 0 0, .slice none 0 0, .int .i64 0, .int .i64 0, .bool false]) (old := [.int .i64 0, .int .i64 0, .int .i64 0, .int .i64 0, .int .i64 0, .int .i64 0, .int .i64 0, .int .i64 0, .int .i64 0, .int .i64 0, .slice none 0 0, .slice none 0 0, .slice none 0 0, .int .i64 0, .int .i64 0, .bool false]) rfl (HT1.out.b2) size_WR rfl rfl (code_one _ (ask_small HX.out) w) ?_; intro w9 X9 C9 z9)
    refine ret_box Tryz.results12 rfl X9 Tryz.underlying36 size_WR rfl rfl ?_
    exact post_code (ask_small HX.out) HT1.out.bel C9 (.inl ⟨x, hx0, HX.out, rfl⟩)
  subst hx0
  have HOK : Hid (OkWorld d) := ask_ok HX.out
  have x_0 : w1.cell? ⟨w.heap.size, 0, none⟩ = some (.int .i64 (d.shape 0)) := HT1.out.b1.cell 0
  have x_1 : w1.cell? ⟨w.heap.size, 1, none⟩ = some (.int .i64 (d.shape 1)) := HT1.out.b1.cell 1
  have x_2 : w1.cell? ⟨w.heap.size, 2, none⟩ = some (.int .i64 (d.shape 2)) := HT1.out.b1.cell 2
  have x_3 : w1.cell? ⟨w.heap.size, 3, none⟩ = some (.int .i64 (d.shape 3)) := HT1.out.b1.cell 3
  have x_4 : w1.cell? ⟨w.heap.size, 4, none⟩ = some (.int .i64 (d.shape 4)) := HT1.out.b1.cell 4
  have x_5 : w1.cell? ⟨w.heap.size, 5, none⟩ = some (.int .i64 (d.shape 5)) := HT1.out.b1.cell 5
  have x_6 : w1.cell? ⟨w.heap.size, 6, none⟩ = some (.int .i64 (d.shape 6)) := HT1.out.b1.cell 6
  have x_7 : w1.cell? ⟨w.heap.size, 7, none⟩ = some (.int .i64 (d.shape 7)) := HT1.out.b1.cell 7
  have x_8 : w1.cell? ⟨w.heap.size, 8, none⟩ = some (.int .i64 (d.shape 8)) := HT1.out.b1.cell 8
  obtain ⟨b, hb⟩ := exB (InP g 0 (d.shape 0 + d.shape 1 - 1))
  have Hb : Hid (b = true ↔ InP g 0 (d.shape 0 + d.shape 1 - 1)) := hb
  have CA := fun w' => isGroup_b HOK.out.shape hb w'
  unfold shapeV at CA
  clear hb
  go_wp2_with fail
  refine (CA _).mono ?_
  rintro e wA ⟨rfl, bA⟩
  have HTA : Hid (Two w wA #[.int .i64 (d.shape 0), .int .i64 (d.shape 1), .int .i64 (d.shape 2), .int .i64 (d.shape 3), .int .i64 (d.shape 4), .int .i64 (d.shape 5), .int .i64 (d.shape 6), .int .i64 (d.shape 7), .int .i64 (d.shape 8), .slice ao1 d.groups.1 cap1, .slice ao2 d.on.1 cap2, .slice ao3 d.tapes.1 cap3, .int .i64 d.writes, .int .i64 d.stop, .bool d.down] #[.int .i64 0, .int .i64 0, .int .i64 0, .int .i64 0, .int .i64 0, .int .i64 0, .int .i64 0, .int .i64 0, .int .i64 0, .int .i64 0, .slice none 0 0, .slice none 0 0, .slice none 0 0, .int .i64 0, .int .i64 0, .bool false] 34 36) := HT1.out.call bA
  have zA : w1.heap.size ≤ wA.heap.size := bA.size
  clear bA CA x_0 x_1 x_2 x_3 x_4 x_5 x_6 x_7 x_8
  cases b with
  | false =>
    go_wp2_with (refine wp_storeBox 36 _ _ rfl rfl (w.heap.size + 1) rfl (cs := [.int .i64 3, .int .i64 0, .int .i64 0, .int .i64 0, .int .i64 0, .int .i64 0, .int .i64 0, .int .i64 0, .int .i64 0, .int .i64 0, .slice none 0 0, .slice none 0 0, .slice none 0 0, .int .i64 0, .int .i64 0, .bool false]) (old := [.int .i64 0, .int .i64 0, .int .i64 0, .int .i64 0, .int .i64 0, .int .i64 0, .int .i64 0, .int .i64 0, .int .i64 0, .int .i64 0, .slice none 0 0, .slice none 0 0, .slice none 0 0, .int .i64 0, .int .i64 0, .bool false]) rfl (HTA.out.b2) size_WR rfl rfl (code_one _ (by decide) w) ?_; intro w9 X9 C9 z9)
    refine ret_box Tryz.results12 rfl X9 Tryz.underlying36 size_WR rfl rfl ?_
    exact post_code (by decide) HTA.out.bel C9 (.inr ⟨HX.out, .inl ⟨fun h => (by have := Hb.out.2 h; cases this), rfl⟩⟩)
  | true =>
  have hin : Hid (InP g 0 (d.shape 0 + d.shape 1 - 1)) := Hb.out.1 (by simp)
  go_wp2_with (refine wp_loadBox 34 (.tmp 2) rfl rfl (w.heap.size) rfl (cs := [.int .i64 (d.shape 0), .int .i64 (d.shape 1), .int .i64 (d.shape 2), .int .i64 (d.shape 3), .int .i64 (d.shape 4), .int .i64 (d.shape 5), .int .i64 (d.shape 6), .int .i64 (d.shape 7), .int .i64 (d.shape 8), .slice ao1 d.groups.1 cap1, .slice ao2 d.on.1 cap2, .slice ao3 d.tapes.1 cap3, .int .i64 d.writes, .int .i64 d.stop, .bool d.down]) (HTA.out.b1) Tryz.underlying34 size_W rfl ?_)
  refine (isOn_any d _ hi g _ (layWorld.rd_below HRD.out HTA.out.bel hhi) (Nat.le_trans hhi HTA.out.bel.size)).mono ?_
  rintro e w4 ⟨t, rfl, ht, b4⟩
  have HT4 : Hid (Two w w4 #[.int .i64 (d.shape 0), .int .i64 (d.shape 1), .int .i64 (d.shape 2), .int .i64 (d.shape 3), .int .i64 (d.shape 4), .int .i64 (d.shape 5), .int .i64 (d.shape 6), .int .i64 (d.shape 7), .int .i64 (d.shape 8), .slice ao1 d.groups.1 cap1, .slice ao2 d.on.1 cap2, .slice ao3 d.tapes.1 cap3, .int .i64 d.writes, .int .i64 d.stop, .bool d.down] #[.int .i64 0, .int .i64 0, .int .i64 0, .int .i64 0, .int .i64 0, .int .i64 0, .int .i64 0, .int .i64 0, .int .i64 0, .int .i64 0, .slice none 0 0, .slice none 0 0, .slice none 0 0, .int .i64 0, .int .i64 0, .bool false] 34 36) := HTA.out.call b4
  have z4 : wA.heap.size ≤ w4.heap.size := b4.size
  have HH : Hid (t = true ↔ HasP d.on.1 d.on.2 g) := ht
  clear b4 ht
  cases t with
  | true =>
    go_wp2_with (refine wp_loadBox 34 (.tmp 2) rfl rfl (w.heap.size) rfl (cs := [.int .i64 (d.shape 0), .int .i64 (d.shape 1), .int .i64 (d.shape 2), .int .i64 (d.shape 3), .int .i64 (d.shape 4), .int .i64 (d.shape 5), .int .i64 (d.shape 6), .int .i64 (d.shape 7), .int .i64 (d.shape 8), .slice ao1 d.groups.1 cap1, .slice ao2 d.on.1 cap2, .slice ao3 d.tapes.1 cap3, .int .i64 d.writes, .int .i64 d.stop, .bool d.down]) (HT4.out.b1) Tryz.underlying34 size_W rfl ?_)
    refine (copyWorld_is _ d hi _ (layWorld.rd_below HRD.out HT4.out.bel hhi) (Nat.le_trans hhi HT4.out.bel.size) HSZ.out).mono ?_
    rintro e w2 ⟨c2, rfl, o2, b2⟩
    obtain ⟨u0, u1, u2, u3, u4, u5, u6, u7, u8, up0, ul0, uq0, up1, ul1, uq1, up2, ul2, uq2, u9, u10, ub, rfl⟩ := world15O o2
    have z2 : w4.heap.size ≤ w2.heap.size := b2.size
    have T2 := HT4.out.call b2
    go_wp2_with (refine wp_storeBox 36 _ _ rfl rfl (w.heap.size + 1) rfl (cs := [.int .i64 0, .int .i64 u0, .int .i64 u1, .int .i64 u2, .int .i64 u3, .int .i64 u4, .int .i64 u5, .int .i64 u6, .int .i64 u7, .int .i64 u8, .slice up0 ul0 uq0, .slice up1 ul1 uq1, .slice up2 ul2 uq2, .int .i64 u9, .int .i64 u10, .bool ub]) (old := [.int .i64 0, .int .i64 0, .int .i64 0, .int .i64 0, .int .i64 0, .int .i64 0, .int .i64 0, .int .i64 0, .int .i64 0, .int .i64 0, .slice none 0 0, .slice none 0 0, .slice none 0 0, .int .i64 0, .int .i64 0, .bool false]) rfl (T2.b2) size_WR rfl rfl ((own_resOf 0 (by decide) o2).one) ?_; intro w9 X9 C9 z9)
    refine ret_box Tryz.results12 rfl X9 Tryz.underlying36 size_WR rfl rfl ?_
    exact post_world (by decide) T2.bel C9 o2 (by omega) (by omega) (.inr ⟨HX.out, .inr ⟨hin.out, .inl ⟨HH.out.1 (by simp), rfl⟩⟩⟩)
  | false =>
  have hno : Hid (¬ HasP d.on.1 d.on.2 g) := fun h => (by have := HH.out.2 h; cases this)
  have x10 : w4.cell? ⟨w.heap.size, 10, none⟩ = some (.slice ao2 d.on.1 cap2) := HT4.out.b1.cell 10
  have x5 : w4.cell? ⟨w.heap.size, 5, none⟩ = some (.int .i64 (d.shape 5)) := HT4.out.b1.cell 5
  have zl : IntKind.i64.wrap (d.on.1 : Int) = (d.on.1 : Int) := by have := on_few HSZ.out; rw [IntKind.wrap_i64]; omega
  by_cases hc : d.shape 5 ≤ (d.on.1 : Int)
  · have HC : Hid (d.shape 5 ≤ (d.on.1 : Int)) := hc
    go_wp2_with (refine wp_storeBox 36 _ _ rfl rfl (w.heap.size + 1) rfl (cs := [.int .i64 7, .int .i64 0, .int .i64 0, .int .i64 0, .int .i64 0, .int .i64 0, .int .i64 0, .int .i64 0, .int .i64 0, .int .i64 0, .slice none 0 0, .slice none 0 0, .slice none 0 0, .int .i64 0, .int .i64 0, .bool false]) (old := [.int .i64 0, .int .i64 0, .int .i64 0, .int .i64 0, .int .i64 0, .int .i64 0, .int .i64 0, .int .i64 0, .int .i64 0, .int .i64 0, .slice none 0 0, .slice none 0 0, .slice none 0 0, .int .i64 0, .int .i64 0, .bool false]) rfl (HT4.out.b2) size_WR rfl rfl (code_one _ (by decide) w) ?_; intro w9 X9 C9 z9)
    refine ret_box Tryz.results12 rfl X9 Tryz.underlying36 size_WR rfl rfl ?_
    exact post_code (by decide) HT4.out.bel C9 (.inr ⟨HX.out, .inr ⟨hin.out, .inr ⟨hno.out, .inl ⟨HC.out, rfl⟩⟩⟩⟩)
  have HC : Hid (¬ d.shape 5 ≤ (d.on.1 : Int)) := hc
  go_wp2_with (refine wp_loadBox 34 (.tmp 2) rfl rfl (w.heap.size) rfl (cs := [.int .i64 (d.shape 0), .int .i64 (d.shape 1), .int .i64 (d.shape 2), .int .i64 (d.shape 3), .int .i64 (d.shape 4), .int .i64 (d.shape 5), .int .i64 (d.shape 6), .int .i64 (d.shape 7), .int .i64 (d.shape 8), .slice ao1 d.groups.1 cap1, .slice ao2 d.on.1 cap2, .slice ao3 d.tapes.1 cap3, .int .i64 d.writes, .int .i64 d.stop, .bool d.down]) (HT4.out.b1) Tryz.underlying34 size_W rfl ?_)
  refine (copyWorld_is _ d hi _ (layWorld.rd_below HRD.out HT4.out.bel hhi) (Nat.le_trans hhi HT4.out.bel.size) HSZ.out).mono ?_
  rintro e w2 ⟨c2, rfl, o2, b2⟩
  obtain ⟨p1, c1, p2, c2, p3, c3, K1, K2, K3, rfl, WO2⟩ := world_open o2
  have z2 : w4.heap.size ≤ w2.heap.size := b2.size
  go_upto_region 11 with (refine wp_allocStore 34 6 (.tmp 34) [.int .i64 (d.shape 0), .int .i64 (d.shape 1), .int .i64 (d.shape 2), .int .i64 (d.shape 3), .int .i64 (d.shape 4), .int .i64 (d.shape 5), .int .i64 (d.shape 6), .int .i64 (d.shape 7), .int .i64 (d.shape 8), .slice p1 d.groups.1 c1, .slice p2 d.on.1 c2, .slice p3 d.tapes.1 c3, .int .i64 d.writes, .int .i64 d.stop, .bool d.down] _ 15 rfl rfl rfl rfl rfl rfl rfl rfl info_W rfl rfl o2.one ?_)
  have bA : Below w2.heap.size w2 (w2.alloc (.cells #[.int .i64 (d.shape 0), .int .i64 (d.shape 1), .int .i64 (d.shape 2), .int .i64 (d.shape 3), .int .i64 (d.shape 4), .int .i64 (d.shape 5), .int .i64 (d.shape 6), .int .i64 (d.shape 7), .int .i64 (d.shape 8), .slice p1 d.groups.1 c1, .slice p2 d.on.1 c2, .slice p3 d.tapes.1 c3, .int .i64 d.writes, .int .i64 d.stop, .bool d.down] 34)) := (Below.refl _ _).alloc (Nat.le_refl _) _
  have X3 : Box (w2.alloc (.cells #[.int .i64 (d.shape 0), .int .i64 (d.shape 1), .int .i64 (d.shape 2), .int .i64 (d.shape 3), .int .i64 (d.shape 4), .int .i64 (d.shape 5), .int .i64 (d.shape 6), .int .i64 (d.shape 7), .int .i64 (d.shape 8), .slice p1 d.groups.1 c1, .slice p2 d.on.1 c2, .slice p3 d.tapes.1 c3, .int .i64 d.writes, .int .i64 d.stop, .bool d.down] 34)) w2.heap.size #[.int .i64 (d.shape 0), .int .i64 (d.shape 1), .int .i64 (d.shape 2), .int .i64 (d.shape 3), .int .i64 (d.shape 4), .int .i64 (d.shape 5), .int .i64 (d.shape 6), .int .i64 (d.shape 7), .int .i64 (d.shape 8), .slice p1 d.groups.1 c1, .slice p2 d.on.1 c2, .slice p3 d.tapes.1 c3, .int .i64 d.writes, .int .i64 d.stop, .bool d.down] 34 := box_new _ _ _
  obtain ⟨W3, hW3⟩ : ∃ x, x = w2.alloc (.cells #[.int .i64 (d.shape 0), .int .i64 (d.shape 1), .int .i64 (d.shape 2), .int .i64 (d.shape 3), .int .i64 (d.shape 4), .int .i64 (d.shape 5), .int .i64 (d.shape 6), .int .i64 (d.shape 7), .int .i64 (d.shape 8), .slice p1 d.groups.1 c1, .slice p2 d.on.1 c2, .slice p3 d.tapes.1 c3, .int .i64 d.writes, .int .i64 d.stop, .bool d.down] 34) := ⟨_, rfl⟩
  rw [← hW3] at bA X3 ⊢
  have T3 := (HT4.out.call b2).call bA
  have WO := WO2.below bA (Nat.le_refl _)
  have z3 : w2.heap.size < W3.heap.size := X3.lt
  clear bA hW3 o2 b2 WO2
  clear x10 x5 hc zl
  have hfew := on_few HSZ.out
  have bB : Below W3.heap.size W3 (W3.alloc (.cells #[.int .i64 g] 2)) := (Below.refl _ _).alloc (Nat.le_refl _) _
  have WOb := WO.below bB (by omega)
  have Xb := X3.call bB
  have Tb := T3.call bB
  have cb : (W3.alloc (.cells #[.int .i64 g] 2)).cell? ⟨W3.heap.size, 0, none⟩ = some (.int .i64 g) := cells_new W3 [.int .i64 g] 2 0
  have x10 : W3.cell? ⟨w2.heap.size, 10, none⟩ = some (.slice p2 d.on.1 c2) := X3.cell 10
  have zb : W3.heap.size < (W3.alloc (.cells #[.int .i64 g] 2)).heap.size := by simp
  obtain ⟨v', w6, L', hrun, TT⟩ := run_appendOn _ 25 (n := d.on.1) (f := d.on.2) WOb.o g Hg.out W3.heap.size 1 cb (by omega)
  obtain ⟨p', c', rfl⟩ := ints_slice TT.own
  have hK : ∀ b, b ∈ K2 → w4.heap.size ≤ b ∧ b < w2.heap.size := fun b hb => WOb.inn b (List.mem_append_right _ (List.mem_append_left _ hb))
  have X6 := Xb.chgl TT.chg (fun hb => by have := hK _ hb; omega)
  have T6 := Tb.chgK TT.chg (fun b hb => by have := hK _ hb; omega)
  have z6 := TT.chg.size
  have WO6 := WOb.on (by omega) (by omega) TT
  have y10 : w6.cell? ⟨w2.heap.size, 10, none⟩ = some (.slice p2 d.on.1 c2) := X6.cell 10
  have yf10 : w6.frozen? ⟨w2.heap.size, 10, none⟩ = false := X6.frozen 10
  have X7 : Box (w6.setCell ⟨w2.heap.size, 10, none⟩ (.slice p' (d.on.1 + 1) c')) w2.heap.size #[.int .i64 (d.shape 0), .int .i64 (d.shape 1), .int .i64 (d.shape 2), .int .i64 (d.shape 3), .int .i64 (d.shape 4), .int .i64 (d.shape 5), .int .i64 (d.shape 6), .int .i64 (d.shape 7), .int .i64 (d.shape 8), .slice p1 d.groups.1 c1, (.slice p' (d.on.1 + 1) c'), .slice p3 d.tapes.1 c3, .int .i64 d.writes, .int .i64 d.stop, .bool d.down] 34 := X6.setc 10 _
  have CC : ChgL [w2.heap.size] w6 (w6.setCell ⟨w2.heap.size, 10, none⟩ (.slice p' (d.on.1 + 1) c')) := (ChgL.refl _ _).st _ 10 _ (by simp)
  have T7 := T6.chgK CC (fun b hb => by simp at hb; omega)
  have O7 : OwnT layWorld (w6.setCell ⟨w2.heap.size, 10, none⟩ (.slice p' (d.on.1 + 1) c')) w4.heap.size w6.heap.size (onW d g) [.int .i64 (d.shape 0), .int .i64 (d.shape 1), .int .i64 (d.shape 2), .int .i64 (d.shape 3), .int .i64 (d.shape 4), .int .i64 (d.shape 5), .int .i64 (d.shape 6), .int .i64 (d.shape 7), .int .i64 (d.shape 8), .slice p1 d.groups.1 c1, (.slice p' (d.on.1 + 1) c'), .slice p3 d.tapes.1 c3, .int .i64 d.writes, .int .i64 d.stop, .bool d.down] := (WO6.chgn CC (fun b hb hm => by
    simp only [List.mem_singleton] at hb
    subst hb
    rcases List.mem_append.1 hm with hm | hm
    · have := WOb.inn _ (List.mem_append_left _ hm); omega
    · rcases List.mem_append.1 hm with hm | hm
      · rcases TT.sub _ hm with hm | hm
        · have := hK _ hm; omega
        · omega
      · have := WOb.inn _ (List.mem_append_right _ (List.mem_append_right _ hm)); omega)).own
  have z7 := CC.size
  clear WOb Xb Tb TT X6 T6 WO6 bB
  go_upto_region 12 with (at_builtin; refine wp_run2 rfl (.tmp 36) (.tmp 38) rfl ?_ ?_ hrun ?_; (simp [Act.eval]); (simp [Act.eval]))
  obtain ⟨W7, hW7⟩ : ∃ x, x = w6.setCell ⟨w2.heap.size, 10, none⟩ (.slice p' (d.on.1 + 1) c') := ⟨_, rfl⟩
  rw [← hW7] at X7 T7 O7 z7 ⊢
  clear hW7 hrun y10 yf10 x10 CC
  go_wp2_with (first | (refine wp_loadBox 34 (.tmp 6) rfl rfl (w2.heap.size) rfl (cs := [.int .i64 (d.shape 0), .int .i64 (d.shape 1), .int .i64 (d.shape 2), .int .i64 (d.shape 3), .int .i64 (d.shape 4), .int .i64 (d.shape 5), .int .i64 (d.shape 6), .int .i64 (d.shape 7), .int .i64 (d.shape 8), .slice p1 d.groups.1 c1, (.slice p' (d.on.1 + 1) c'), .slice p3 d.tapes.1 c3, .int .i64 d.writes, .int .i64 d.stop, .bool d.down]) (X7) Tryz.underlying34 size_W rfl ?_) | (refine wp_storeBox 36 _ _ rfl rfl (w.heap.size + 1) rfl (cs := [.int .i64 0, .int .i64 (d.shape 0), .int .i64 (d.shape 1), .int .i64 (d.shape 2), .int .i64 (d.shape 3), .int .i64 (d.shape 4), .int .i64 (d.shape 5), .int .i64 (d.shape 6), .int .i64 (d.shape 7), .int .i64 (d.shape 8), .slice p1 d.groups.1 c1, (.slice p' (d.on.1 + 1) c'), .slice p3 d.tapes.1 c3, .int .i64 d.writes, .int .i64 d.stop, .bool d.down]) (old := [.int .i64 0, .int .i64 0, .int .i64 0, .int .i64 0, .int .i64 0, .int .i64 0, .int .i64 0, .int .i64 0, .int .i64 0, .int .i64 0, .slice none 0 0, .slice none 0 0, .slice none 0 0, .int .i64 0, .int .i64 0, .bool false]) rfl (T7.b2) size_WR rfl rfl ((own_resOf 0 (by decide) O7).one) ?_; intro w9 X9 C9 z9))
  refine ret_box Tryz.results12 rfl X9 Tryz.underlying36 size_WR rfl rfl ?_
  exact post_world (by decide) T7.bel C9 O7 (by omega) (by omega) (.inr ⟨HX.out, .inr ⟨hin.out, .inr ⟨hno.out, .inr ⟨by have := HC.out; omega, rfl⟩⟩⟩⟩)
end Go.Proofs.YtbmfndjglndnlaaGreat
