/- What l5Asked and poweredFault tell, and the walks of the small ones. -/
import Derived.Test.YtgbnibapkgbklaaGreatZkF
import Derived.Test.YtgbnibapkgbklaaGreatZkI
import Derived.Test.YtgbnibapkgbklaaGreatZkE
import Derived.Test.YtgbnibapkgbklaaGreatZkG
import Derived.Deep.DeepCutAuto
import Derived.Test.YtgbnibapkgbklaaGreatZkO
import Derived.Test.YtgbnibapkgbklaaGreatZkA
import Derived.Lib.MinMax
namespace Go.Proofs.YtgbnibapkgbklaaGreat
open Go.RowKit F256
set_option linter.unusedVariables false
set_option linter.unusedSimpArgs false
/-- the world's fault, then 9 where it is down -/
def AskAns (d : WorldD) (x : Int) : Prop := (x ≠ 0 ∧ WldAns d x) ∨ (WldAns d 0 ∧ ((d.down = true ∧ x = 9) ∨ (d.down = false ∧ x = 0)))
theorem AskAns.one {d : WorldD} {x y : Int} (h : AskAns d x) (k : AskAns d y) : x = y := by
  rcases h with ⟨h1, h2⟩ | ⟨h1, h2⟩ <;> rcases k with ⟨k1, k2⟩ | ⟨k1, k2⟩
  · exact h2.one k2
  · exact absurd (h2.one k1) h1
  · exact absurd (k2.one h1) k1
  · rcases h2 with ⟨a, rfl⟩ | ⟨a, rfl⟩ <;> rcases k2 with ⟨b, rfl⟩ | ⟨b, rfl⟩
    · rfl
    · rw [a] at b; cases b
    · rw [a] at b; cases b
    · rfl
/-- a number is told -/
def IntPost (P : Int → Prop) (w : World) (e : Ending) (w' : World) : Prop := ∃ x, e = .returned (.int .i64 x) ∧ P x ∧ Below w.heap.size w w'
end Go.Proofs.YtgbnibapkgbklaaGreat

namespace Go.Proofs.YtgbnibapkgbklaaGreat
open Go.RowKit F256
set_option linter.unusedVariables false
set_option linter.unusedSimpArgs false
set_option maxHeartbeats 4000000 in
set_option maxRecDepth 20000 in
theorem l5Asked_any (d : WorldD) (cs : List Value) (hi : Nat) (w : World) (h : layWorld.rd w hi d cs) (hhi : hi ≤ w.heap.size) (hsz : szWorldD d ≤ 1048576) :
    Calls Tryz.prog 63 #[.agg cs.toArray] w (IntPost (AskAns d) w) := by
  have C := fun w' hb => specWorld_any d cs hi w' (layWorld.rd_below h (B := w.heap.size) hb hhi)
  obtain ⟨ao1, cap1, ao2, cap2, ao3, cap3, rfl, -⟩ := World_rd h
  have T0 := one_new w #[.int .i64 (d.shape 0), .int .i64 (d.shape 1), .int .i64 (d.shape 2), .int .i64 (d.shape 3), .int .i64 (d.shape 4), .int .i64 (d.shape 5), .int .i64 (d.shape 6), .int .i64 (d.shape 7), .int .i64 (d.shape 8), .slice ao1 d.groups.1 cap1, .slice ao2 d.on.1 cap2, .slice ao3 d.tapes.1 cap3, .int .i64 d.writes, .int .i64 d.stop, .bool d.down] 37
  clear h
  go_enter Tryz.func63, Tryz.ntmps63
  go_wp2_with (refine wp_loadBox 37 (.tmp 1) rfl rfl w.heap.size rfl (cs := [.int .i64 (d.shape 0), .int .i64 (d.shape 1), .int .i64 (d.shape 2), .int .i64 (d.shape 3), .int .i64 (d.shape 4), .int .i64 (d.shape 5), .int .i64 (d.shape 6), .int .i64 (d.shape 7), .int .i64 (d.shape 8), .slice ao1 d.groups.1 cap1, .slice ao2 d.on.1 cap2, .slice ao3 d.tapes.1 cap3, .int .i64 d.writes, .int .i64 d.stop, .bool d.down]) T0.b1 Tryz.underlying37 size_W rfl ?_)
  refine (C _ T0.bel (Nat.le_trans hhi T0.bel.size) (wld_ok_names hsz)).mono ?_
  rintro e w1 ⟨x, rfl, hx, b1⟩
  have T1 := T0.call b1
  have HX : Hid (WldAns d x) := hx
  have HB : Hid (Below w.heap.size w w1) := T1.bel
  have c14 : w1.cell? ⟨w.heap.size, 14, none⟩ = some (.bool d.down) := T1.b1.cell 14
  clear T0 T1 b1 C hx
  by_cases hx0 : x = 0
  · subst hx0
    obtain ⟨dn, hdn⟩ : ∃ b, b = d.down := ⟨_, rfl⟩
    rw [← hdn] at c14
    have HD : Hid (dn = d.down) := hdn
    clear hdn
    cases dn with
    | true =>
      go_wp2
      go_ret
      exact ⟨9, rfl, .inr ⟨HX.out, .inl ⟨HD.out.symm, rfl⟩⟩, HB.out⟩
    | false =>
      go_wp2
      go_ret
      exact ⟨0, rfl, .inr ⟨HX.out, .inr ⟨HD.out.symm, rfl⟩⟩, HB.out⟩
  · have hne : (x != 0) = true := by simp [hx0]
    go_wp2
    go_ret
    exact ⟨x, rfl, .inl ⟨hx0, HX.out⟩, HB.out⟩
set_option maxHeartbeats 4000000 in
set_option maxRecDepth 20000 in
theorem powered_any (d : WorldD) (cs : List Value) (hi : Nat) (w : World) (h : layWorld.rd w hi d cs) (hhi : hi ≤ w.heap.size) (hsz : szWorldD d ≤ 1048576) :
    Calls Tryz.prog 67 #[.agg cs.toArray] w (IntPost (AskAns d) w) := by
  have C := fun w' hb => implWorld_any d cs hi w' (layWorld.rd_below h (B := w.heap.size) hb hhi)
  obtain ⟨ao1, cap1, ao2, cap2, ao3, cap3, rfl, -⟩ := World_rd h
  have T0 := one_new w #[.int .i64 (d.shape 0), .int .i64 (d.shape 1), .int .i64 (d.shape 2), .int .i64 (d.shape 3), .int .i64 (d.shape 4), .int .i64 (d.shape 5), .int .i64 (d.shape 6), .int .i64 (d.shape 7), .int .i64 (d.shape 8), .slice ao1 d.groups.1 cap1, .slice ao2 d.on.1 cap2, .slice ao3 d.tapes.1 cap3, .int .i64 d.writes, .int .i64 d.stop, .bool d.down] 37
  clear h
  go_enter Tryz.func67, Tryz.ntmps67
  go_wp2_with (refine wp_loadBox 37 (.tmp 1) rfl rfl w.heap.size rfl (cs := [.int .i64 (d.shape 0), .int .i64 (d.shape 1), .int .i64 (d.shape 2), .int .i64 (d.shape 3), .int .i64 (d.shape 4), .int .i64 (d.shape 5), .int .i64 (d.shape 6), .int .i64 (d.shape 7), .int .i64 (d.shape 8), .slice ao1 d.groups.1 cap1, .slice ao2 d.on.1 cap2, .slice ao3 d.tapes.1 cap3, .int .i64 d.writes, .int .i64 d.stop, .bool d.down]) T0.b1 Tryz.underlying37 size_W rfl ?_)
  refine (C _ T0.bel (Nat.le_trans hhi T0.bel.size) (wld_ok_names hsz)).mono ?_
  rintro e w1 ⟨x, rfl, hx, b1⟩
  have T1 := T0.call b1
  have HX : Hid (WldAns d x) := hx
  have HB : Hid (Below w.heap.size w w1) := T1.bel
  have c14 : w1.cell? ⟨w.heap.size, 14, none⟩ = some (.bool d.down) := T1.b1.cell 14
  clear T0 T1 b1 C hx
  by_cases hx0 : x = 0
  · subst hx0
    obtain ⟨dn, hdn⟩ : ∃ b, b = d.down := ⟨_, rfl⟩
    rw [← hdn] at c14
    have HD : Hid (dn = d.down) := hdn
    clear hdn
    cases dn with
    | true =>
      go_wp2
      go_ret
      exact ⟨9, rfl, .inr ⟨HX.out, .inl ⟨HD.out.symm, rfl⟩⟩, HB.out⟩
    | false =>
      go_wp2
      go_ret
      exact ⟨0, rfl, .inr ⟨HX.out, .inr ⟨HD.out.symm, rfl⟩⟩, HB.out⟩
  · have hne : (x != 0) = true := by simp [hx0]
    go_wp2
    go_ret
    exact ⟨x, rfl, .inl ⟨hx0, HX.out⟩, HB.out⟩
/-- a place within the shape -/
def PlaceP (s : Nat → Int) (g k r : Int) : Prop := InP g 0 (s 0 + s 1 - 1) ∧ InP k 0 (s 2 + s 3 - 1) ∧ InP r 0 (s 4 - 1)
theorem size_S : (Tryz.prog.info? 33).map (·.size) = some 9 := by kernel_rfl
set_option maxHeartbeats 4000000 in
set_option maxRecDepth 20000 in
theorem l5Place_any (s : Nat → Int) (hok : OkShape s) (g k r : Int) (w : World) : Calls Tryz.prog 64 #[shapeV s, .int .i64 g, .int .i64 k, .int .i64 r] w (BoolP (PlaceP s g k r) w) := by
  have hb := okB hok
  obtain ⟨t1, h1⟩ := exB (InP g 0 (s 0 + s 1 - 1))
  obtain ⟨t2, h2⟩ := exB (InP k 0 (s 2 + s 3 - 1))
  obtain ⟨t3, h3⟩ := exB (InP r 0 (s 4 - 1))
  have CA := fun w' => l5All_any s hok w'
  have CD := fun w' => l5Drives_any s hok w'
  have C1 := fun w' => l1In_b (w := w') h1
  have C2 := fun w' => l1In_b (w := w') h2
  have C3 := fun w' => l1In_b (w := w') h3
  have HE : Hid (PlaceP s g k r ↔ (t1 = true ∧ t2 = true ∧ t3 = true)) := by
    show PlaceP s g k r ↔ _
    rw [h1, h2, h3]
    exact Iff.rfl
  have T0 := one_new w #[.int .i64 (s 0), .int .i64 (s 1), .int .i64 (s 2), .int .i64 (s 3), .int .i64 (s 4), .int .i64 (s 5), .int .i64 (s 6), .int .i64 (s 7), .int .i64 (s 8)] 33
  unfold shapeV at CA CD ⊢
  clear h1 h2 h3 hok
  go_enter Tryz.func64, Tryz.ntmps64
  go_wp2_with (refine wp_loadBox 33 (.tmp 4) rfl rfl w.heap.size rfl (cs := [.int .i64 (s 0), .int .i64 (s 1), .int .i64 (s 2), .int .i64 (s 3), .int .i64 (s 4), .int .i64 (s 5), .int .i64 (s 6), .int .i64 (s 7), .int .i64 (s 8)]) T0.b1 Tryz.underlying33 size_S rfl ?_)
  refine (CA _).mono ?_
  rintro e w1 ⟨rfl, b1⟩
  have T1 := T0.call b1
  have HT1 : Hid (One w w1 #[.int .i64 (s 0), .int .i64 (s 1), .int .i64 (s 2), .int .i64 (s 3), .int .i64 (s 4), .int .i64 (s 5), .int .i64 (s 6), .int .i64 (s 7), .int .i64 (s 8)] 33) := T1
  have z1 : IntKind.i64.wrap (s 0 + s 1 - 1) = s 0 + s 1 - 1 := by rw [IntKind.wrap_i64]; omega
  have z2 : IntKind.i64.wrap (s 2 + s 3 - 1) = s 2 + s 3 - 1 := by rw [IntKind.wrap_i64]; omega
  have z3 : IntKind.i64.wrap (s 4 - 1) = s 4 - 1 := by rw [IntKind.wrap_i64]; omega
  have x_0 : w1.cell? ⟨w.heap.size, 0, none⟩ = some (.int .i64 (s 0)) := T1.b1.cell 0
  have x_1 : w1.cell? ⟨w.heap.size, 1, none⟩ = some (.int .i64 (s 1)) := T1.b1.cell 1
  have x_2 : w1.cell? ⟨w.heap.size, 2, none⟩ = some (.int .i64 (s 2)) := T1.b1.cell 2
  have x_3 : w1.cell? ⟨w.heap.size, 3, none⟩ = some (.int .i64 (s 3)) := T1.b1.cell 3
  have x_4 : w1.cell? ⟨w.heap.size, 4, none⟩ = some (.int .i64 (s 4)) := T1.b1.cell 4
  have x_5 : w1.cell? ⟨w.heap.size, 5, none⟩ = some (.int .i64 (s 5)) := T1.b1.cell 5
  have x_6 : w1.cell? ⟨w.heap.size, 6, none⟩ = some (.int .i64 (s 6)) := T1.b1.cell 6
  have x_7 : w1.cell? ⟨w.heap.size, 7, none⟩ = some (.int .i64 (s 7)) := T1.b1.cell 7
  have x_8 : w1.cell? ⟨w.heap.size, 8, none⟩ = some (.int .i64 (s 8)) := T1.b1.cell 8
  clear T0 b1 T1
  go_wp2_with fail
  refine (C1 _).mono ?_
  rintro e w' ⟨rfl, hw'⟩
  obtain rfl := hw'.symm
  cases t1 with
  | false =>
    go_wp2
    go_ret
    exact boolNo rfl (fun h => by have := HE.out.1 h; simp at this) HT1.out.bel
  | true =>
  go_wp2_with fail
  refine (CD _).mono ?_
  rintro e w2 ⟨rfl, b2⟩
  have T2 := HT1.out.call b2
  have HB2 : Hid (Below w.heap.size w w2) := T2.bel
  have y4 : w2.cell? ⟨w.heap.size, 4, none⟩ = some (.int .i64 (s 4)) := T2.b1.cell 4
  clear b2 T2 x_0 x_1 x_2 x_3 x_4 x_5 x_6 x_7 x_8
  go_wp2_with fail
  refine (C2 _).mono ?_
  rintro e w' ⟨rfl, hw'⟩
  obtain rfl := hw'.symm
  cases t2 with
  | false =>
    go_wp2
    go_ret
    exact boolNo rfl (fun h => by have := HE.out.1 h; simp at this) HB2.out
  | true =>
  go_wp2_with fail
  refine (C3 _).mono ?_
  rintro e w' ⟨rfl, hw'⟩
  obtain rfl := hw'.symm
  cases t3 with
  | false =>
    go_wp2
    go_ret
    exact boolNo rfl (fun h => by have := HE.out.1 h; simp at this) HB2.out
  | true =>
    go_wp2
    go_ret
    exact boolYes rfl (HE.out.2 (by simp)) HB2.out
set_option maxHeartbeats 4000000 in
set_option maxRecDepth 20000 in
theorem isOn_any (d : WorldD) (cs : List Value) (hi : Nat) (g : Int) (w : World) (h : layWorld.rd w hi d cs) (hhi : hi ≤ w.heap.size) : Calls Tryz.prog 96 #[.agg cs.toArray, .int .i64 g] w (BoolP (HasP d.on.1 d.on.2 g) w) := by
  obtain ⟨ao1, cap1, ao2, cap2, ao3, cap3, rfl, g1, g2, g3, -⟩ := World_rd h
  obtain ⟨_, e2, ⟨h2, _⟩, _⟩ := g2
  cases e2
  have T0 := one_new w #[.int .i64 (d.shape 0), .int .i64 (d.shape 1), .int .i64 (d.shape 2), .int .i64 (d.shape 3), .int .i64 (d.shape 4), .int .i64 (d.shape 5), .int .i64 (d.shape 6), .int .i64 (d.shape 7), .int .i64 (d.shape 8), .slice ao1 d.groups.1 cap1, .slice ao2 d.on.1 cap2, .slice ao3 d.tapes.1 cap3, .int .i64 d.writes, .int .i64 d.stop, .bool d.down] 37
  have C := contains_any (.slice ao2 d.on.1 cap2) d.on.1 d.on.2 hi g _ (h2.below T0.bel hhi)
  clear h g1 g3 h2
  go_enter Tryz.func96, Tryz.ntmps96
  go_wp2_with fail
  refine C.mono ?_
  rintro e w1 ⟨b, rfl, hb, b1⟩
  have HP : Hid (b = true ↔ HasP d.on.1 d.on.2 g) := hb
  have HB : Hid (Below w.heap.size w w1) := (T0.call b1).bel
  clear b1 T0 C hb
  go_wp2
  go_ret
  exact ⟨b, rfl, HP.out, HB.out⟩
end Go.Proofs.YtgbnibapkgbklaaGreat

namespace Go.Proofs.YtgbnibapkgbklaaGreat
open Go.RowKit F256
set_option linter.unusedVariables false
set_option linter.unusedSimpArgs false
def zeroBl : BlockD := ⟨0, (0, fun _ => 0)⟩
def drvAt (d : WorldD) (g k : Int) : DriveD := (d.groups.2 g.toNat).2 k.toNat
def ReadAns (d : WorldD) (g k r : Int) (q : BlockResultD) : Prop :=
  (∃ x, x ≠ 0 ∧ AskAns d x ∧ q = ⟨x, zeroBl⟩) ∨ (AskAns d 0 ∧ ((¬ PlaceP d.shape g k r ∧ q = ⟨3, zeroBl⟩) ∨ (PlaceP d.shape g k r ∧ ((¬ HasP d.on.1 d.on.2 g ∧ q = ⟨8, zeroBl⟩) ∨ (HasP d.on.1 d.on.2 g ∧
    (((drvAt d g k).wiped = true ∧ q = ⟨12, zeroBl⟩) ∨ ((drvAt d g k).wiped = false ∧ q = ⟨0, (drvAt d g k).blocks.2 r.toNat⟩)))))))
theorem ReadAns.one {d : WorldD} {g k r : Int} {p q : BlockResultD} (h : ReadAns d g k r p) (l : ReadAns d g k r q) : p = q := by
  rcases h with ⟨x, h1, h2, rfl⟩ | ⟨h1, h⟩ <;> rcases l with ⟨y, l1, l2, rfl⟩ | ⟨l1, l⟩
  · rw [h2.one l2]
  · exact absurd (h2.one l1) h1
  · exact absurd (l2.one h1) l1
  · rcases h with ⟨h2, rfl⟩ | ⟨h2, h⟩ <;> rcases l with ⟨l2, rfl⟩ | ⟨l2, l⟩
    · rfl
    · exact absurd l2 h2
    · exact absurd h2 l2
    · rcases h with ⟨h3, rfl⟩ | ⟨h3, h⟩ <;> rcases l with ⟨l3, rfl⟩ | ⟨l3, l⟩
      · rfl
      · exact absurd l3 h3
      · exact absurd h3 l3
      · rcases h with ⟨h4, rfl⟩ | ⟨h4, rfl⟩ <;> rcases l with ⟨l4, rfl⟩ | ⟨l4, rfl⟩
        · rfl
        · rw [h4] at l4; cases l4
        · rw [h4] at l4; cases l4
        · rfl
theorem ask_ok {d : WorldD} (h : AskAns d 0) : OkWorld d := by
  rcases h with ⟨h, _⟩ | ⟨h, _⟩
  · exact absurd rfl h
  · exact h.ok
end Go.Proofs.YtgbnibapkgbklaaGreat

namespace Go.Proofs.YtgbnibapkgbklaaGreat
open Go.RowKit F256
set_option linter.unusedVariables false
set_option linter.unusedSimpArgs false
/-- a group and a row of it -/
def WhP (s : Nat → Int) (g r : Int) : Prop := InP g 0 (s 0 + s 1 - 1) ∧ InP r 0 (s 4 - 1)
theorem place_wh {s : Nat → Int} (h : OkShape s) (g r : Int) : PlaceP s g 0 r ↔ WhP s g r := by
  obtain ⟨s1, s2, _⟩ := h
  unfold Shp at s2
  unfold PlaceP WhP
  constructor
  · rintro ⟨a, b, c⟩; exact ⟨a, c⟩
  · rintro ⟨a, c⟩; exact ⟨a, by unfold InP; omega, c⟩
def WhereAns (d : WorldD) (g r x : Int) : Prop := (x ≠ 0 ∧ AskAns d x) ∨ (AskAns d 0 ∧ ((¬ WhP d.shape g r ∧ x = 3) ∨ (WhP d.shape g r ∧ ((¬ HasP d.on.1 d.on.2 g ∧ x = 8) ∨ (HasP d.on.1 d.on.2 g ∧ x = 0)))))
theorem WhereAns.one {d : WorldD} {g r x y : Int} (h : WhereAns d g r x) (l : WhereAns d g r y) : x = y := by
  rcases h with ⟨h1, h2⟩ | ⟨h1, h⟩ <;> rcases l with ⟨k1, k2⟩ | ⟨k1, l⟩
  · exact h2.one k2
  · exact absurd (h2.one k1) h1
  · exact absurd (k2.one h1) k1
  · rcases h with ⟨h2, rfl⟩ | ⟨h2, h⟩ <;> rcases l with ⟨k2, rfl⟩ | ⟨k2, l⟩
    · rfl
    · exact absurd k2 h2
    · exact absurd h2 k2
    · rcases h with ⟨h3, rfl⟩ | ⟨h3, rfl⟩ <;> rcases l with ⟨k3, rfl⟩ | ⟨k3, rfl⟩
      · rfl
      · exact absurd k3 h3
      · exact absurd h3 k3
      · rfl
def CodeP (P : Int → Prop) (w : World) (e : Ending) (w' : World) : Prop := ∃ x, e = .returned (.int .i64 x) ∧ P x ∧ Below w.heap.size w w'
set_option maxHeartbeats 8000000 in
set_option maxRecDepth 20000 in
theorem onFault_any (d : WorldD) (g : Int) (cs : List Value) (hi : Nat) (w : World) (h : layWorld.rd w hi d cs) (hhi : hi ≤ w.heap.size) (hok : OkShape d.shape) :
    Calls Tryz.prog 69 #[.agg cs.toArray, .int .i64 g] w (CodeP (fun x => (¬ InP g 0 (d.shape 0 + d.shape 1 - 1) ∧ x = 3) ∨ (InP g 0 (d.shape 0 + d.shape 1 - 1) ∧ ((¬ HasP d.on.1 d.on.2 g ∧ x = 8) ∨ (HasP d.on.1 d.on.2 g ∧ x = 0)))) w) := by
  have h' := h
  obtain ⟨ao1, cap1, ao2, cap2, ao3, cap3, rfl, g1, g2, g3, k0, k4, k5⟩ := World_rd h'
  have HRD : Hid (layWorld.rd w hi d [.int .i64 (d.shape 0), .int .i64 (d.shape 1), .int .i64 (d.shape 2), .int .i64 (d.shape 3), .int .i64 (d.shape 4), .int .i64 (d.shape 5), .int .i64 (d.shape 6), .int .i64 (d.shape 7), .int .i64 (d.shape 8), .slice ao1 d.groups.1 cap1, .slice ao2 d.on.1 cap2, .slice ao3 d.tapes.1 cap3, .int .i64 d.writes, .int .i64 d.stop, .bool d.down]) := h
  have HG2 : Hid (RdI w hi (.slice ao2 d.on.1 cap2) d.on.1 d.on.2) := by
    obtain ⟨_, e2, ⟨h2, _⟩, _⟩ := g2
    cases e2
    exact h2
  clear h h' g1 g2 g3 k0 k4 k5
  have T0 := one_new w #[.int .i64 (d.shape 0), .int .i64 (d.shape 1), .int .i64 (d.shape 2), .int .i64 (d.shape 3), .int .i64 (d.shape 4), .int .i64 (d.shape 5), .int .i64 (d.shape 6), .int .i64 (d.shape 7), .int .i64 (d.shape 8), .slice ao1 d.groups.1 cap1, .slice ao2 d.on.1 cap2, .slice ao3 d.tapes.1 cap3, .int .i64 d.writes, .int .i64 d.stop, .bool d.down] 37
  have HT : Hid (One w (w.alloc (.cells #[.int .i64 (d.shape 0), .int .i64 (d.shape 1), .int .i64 (d.shape 2), .int .i64 (d.shape 3), .int .i64 (d.shape 4), .int .i64 (d.shape 5), .int .i64 (d.shape 6), .int .i64 (d.shape 7), .int .i64 (d.shape 8), .slice ao1 d.groups.1 cap1, .slice ao2 d.on.1 cap2, .slice ao3 d.tapes.1 cap3, .int .i64 d.writes, .int .i64 d.stop, .bool d.down] 37)) #[.int .i64 (d.shape 0), .int .i64 (d.shape 1), .int .i64 (d.shape 2), .int .i64 (d.shape 3), .int .i64 (d.shape 4), .int .i64 (d.shape 5), .int .i64 (d.shape 6), .int .i64 (d.shape 7), .int .i64 (d.shape 8), .slice ao1 d.groups.1 cap1, .slice ao2 d.on.1 cap2, .slice ao3 d.tapes.1 cap3, .int .i64 d.writes, .int .i64 d.stop, .bool d.down] 37) := T0
  obtain ⟨t, ht⟩ := exB (InP g 0 (d.shape 0 + d.shape 1 - 1))
  have Ht : Hid (t = true ↔ InP g 0 (d.shape 0 + d.shape 1 - 1)) := ht
  have CI := isGroup_b hok ht (w.alloc (.cells #[.int .i64 (d.shape 0), .int .i64 (d.shape 1), .int .i64 (d.shape 2), .int .i64 (d.shape 3), .int .i64 (d.shape 4), .int .i64 (d.shape 5), .int .i64 (d.shape 6), .int .i64 (d.shape 7), .int .i64 (d.shape 8), .slice ao1 d.groups.1 cap1, .slice ao2 d.on.1 cap2, .slice ao3 d.tapes.1 cap3, .int .i64 d.writes, .int .i64 d.stop, .bool d.down] 37))
  unfold shapeV at CI
  have x_0 : (w.alloc (.cells #[.int .i64 (d.shape 0), .int .i64 (d.shape 1), .int .i64 (d.shape 2), .int .i64 (d.shape 3), .int .i64 (d.shape 4), .int .i64 (d.shape 5), .int .i64 (d.shape 6), .int .i64 (d.shape 7), .int .i64 (d.shape 8), .slice ao1 d.groups.1 cap1, .slice ao2 d.on.1 cap2, .slice ao3 d.tapes.1 cap3, .int .i64 d.writes, .int .i64 d.stop, .bool d.down] 37)).cell? ⟨w.heap.size, 0, none⟩ = some (.int .i64 (d.shape 0)) := T0.b1.cell 0
  have x_1 : (w.alloc (.cells #[.int .i64 (d.shape 0), .int .i64 (d.shape 1), .int .i64 (d.shape 2), .int .i64 (d.shape 3), .int .i64 (d.shape 4), .int .i64 (d.shape 5), .int .i64 (d.shape 6), .int .i64 (d.shape 7), .int .i64 (d.shape 8), .slice ao1 d.groups.1 cap1, .slice ao2 d.on.1 cap2, .slice ao3 d.tapes.1 cap3, .int .i64 d.writes, .int .i64 d.stop, .bool d.down] 37)).cell? ⟨w.heap.size, 1, none⟩ = some (.int .i64 (d.shape 1)) := T0.b1.cell 1
  have x_2 : (w.alloc (.cells #[.int .i64 (d.shape 0), .int .i64 (d.shape 1), .int .i64 (d.shape 2), .int .i64 (d.shape 3), .int .i64 (d.shape 4), .int .i64 (d.shape 5), .int .i64 (d.shape 6), .int .i64 (d.shape 7), .int .i64 (d.shape 8), .slice ao1 d.groups.1 cap1, .slice ao2 d.on.1 cap2, .slice ao3 d.tapes.1 cap3, .int .i64 d.writes, .int .i64 d.stop, .bool d.down] 37)).cell? ⟨w.heap.size, 2, none⟩ = some (.int .i64 (d.shape 2)) := T0.b1.cell 2
  have x_3 : (w.alloc (.cells #[.int .i64 (d.shape 0), .int .i64 (d.shape 1), .int .i64 (d.shape 2), .int .i64 (d.shape 3), .int .i64 (d.shape 4), .int .i64 (d.shape 5), .int .i64 (d.shape 6), .int .i64 (d.shape 7), .int .i64 (d.shape 8), .slice ao1 d.groups.1 cap1, .slice ao2 d.on.1 cap2, .slice ao3 d.tapes.1 cap3, .int .i64 d.writes, .int .i64 d.stop, .bool d.down] 37)).cell? ⟨w.heap.size, 3, none⟩ = some (.int .i64 (d.shape 3)) := T0.b1.cell 3
  have x_4 : (w.alloc (.cells #[.int .i64 (d.shape 0), .int .i64 (d.shape 1), .int .i64 (d.shape 2), .int .i64 (d.shape 3), .int .i64 (d.shape 4), .int .i64 (d.shape 5), .int .i64 (d.shape 6), .int .i64 (d.shape 7), .int .i64 (d.shape 8), .slice ao1 d.groups.1 cap1, .slice ao2 d.on.1 cap2, .slice ao3 d.tapes.1 cap3, .int .i64 d.writes, .int .i64 d.stop, .bool d.down] 37)).cell? ⟨w.heap.size, 4, none⟩ = some (.int .i64 (d.shape 4)) := T0.b1.cell 4
  have x_5 : (w.alloc (.cells #[.int .i64 (d.shape 0), .int .i64 (d.shape 1), .int .i64 (d.shape 2), .int .i64 (d.shape 3), .int .i64 (d.shape 4), .int .i64 (d.shape 5), .int .i64 (d.shape 6), .int .i64 (d.shape 7), .int .i64 (d.shape 8), .slice ao1 d.groups.1 cap1, .slice ao2 d.on.1 cap2, .slice ao3 d.tapes.1 cap3, .int .i64 d.writes, .int .i64 d.stop, .bool d.down] 37)).cell? ⟨w.heap.size, 5, none⟩ = some (.int .i64 (d.shape 5)) := T0.b1.cell 5
  have x_6 : (w.alloc (.cells #[.int .i64 (d.shape 0), .int .i64 (d.shape 1), .int .i64 (d.shape 2), .int .i64 (d.shape 3), .int .i64 (d.shape 4), .int .i64 (d.shape 5), .int .i64 (d.shape 6), .int .i64 (d.shape 7), .int .i64 (d.shape 8), .slice ao1 d.groups.1 cap1, .slice ao2 d.on.1 cap2, .slice ao3 d.tapes.1 cap3, .int .i64 d.writes, .int .i64 d.stop, .bool d.down] 37)).cell? ⟨w.heap.size, 6, none⟩ = some (.int .i64 (d.shape 6)) := T0.b1.cell 6
  have x_7 : (w.alloc (.cells #[.int .i64 (d.shape 0), .int .i64 (d.shape 1), .int .i64 (d.shape 2), .int .i64 (d.shape 3), .int .i64 (d.shape 4), .int .i64 (d.shape 5), .int .i64 (d.shape 6), .int .i64 (d.shape 7), .int .i64 (d.shape 8), .slice ao1 d.groups.1 cap1, .slice ao2 d.on.1 cap2, .slice ao3 d.tapes.1 cap3, .int .i64 d.writes, .int .i64 d.stop, .bool d.down] 37)).cell? ⟨w.heap.size, 7, none⟩ = some (.int .i64 (d.shape 7)) := T0.b1.cell 7
  have x_8 : (w.alloc (.cells #[.int .i64 (d.shape 0), .int .i64 (d.shape 1), .int .i64 (d.shape 2), .int .i64 (d.shape 3), .int .i64 (d.shape 4), .int .i64 (d.shape 5), .int .i64 (d.shape 6), .int .i64 (d.shape 7), .int .i64 (d.shape 8), .slice ao1 d.groups.1 cap1, .slice ao2 d.on.1 cap2, .slice ao3 d.tapes.1 cap3, .int .i64 d.writes, .int .i64 d.stop, .bool d.down] 37)).cell? ⟨w.heap.size, 8, none⟩ = some (.int .i64 (d.shape 8)) := T0.b1.cell 8
  clear ht T0
  go_enter Tryz.func69, Tryz.ntmps69
  go_wp2_with fail
  refine CI.mono ?_
  rintro e w2 ⟨rfl, b2⟩
  have HT2 : Hid (One w w2 #[.int .i64 (d.shape 0), .int .i64 (d.shape 1), .int .i64 (d.shape 2), .int .i64 (d.shape 3), .int .i64 (d.shape 4), .int .i64 (d.shape 5), .int .i64 (d.shape 6), .int .i64 (d.shape 7), .int .i64 (d.shape 8), .slice ao1 d.groups.1 cap1, .slice ao2 d.on.1 cap2, .slice ao3 d.tapes.1 cap3, .int .i64 d.writes, .int .i64 d.stop, .bool d.down] 37) := HT.out.call b2
  clear CI b2 HT x_0 x_1 x_2 x_3 x_4 x_5 x_6 x_7 x_8
  cases t with
  | false =>
    go_wp2
    go_ret
    exact ⟨3, rfl, .inl ⟨fun h => (by have := Ht.out.2 h; cases this), rfl⟩, HT2.out.bel⟩
  | true =>
  go_wp2_with (refine wp_loadBox 37 (.tmp 2) rfl rfl (w.heap.size) rfl (cs := [.int .i64 (d.shape 0), .int .i64 (d.shape 1), .int .i64 (d.shape 2), .int .i64 (d.shape 3), .int .i64 (d.shape 4), .int .i64 (d.shape 5), .int .i64 (d.shape 6), .int .i64 (d.shape 7), .int .i64 (d.shape 8), .slice ao1 d.groups.1 cap1, .slice ao2 d.on.1 cap2, .slice ao3 d.tapes.1 cap3, .int .i64 d.writes, .int .i64 d.stop, .bool d.down]) (HT2.out.b1) Tryz.underlying37 size_W rfl ?_)
  refine (isOn_any d _ hi g _ (layWorld.rd_below HRD.out HT2.out.bel hhi) (Nat.le_trans hhi HT2.out.bel.size)).mono ?_
  rintro e w3 ⟨t, rfl, ht, b3⟩
  have HB : Hid (Below w.heap.size w w3) := (HT2.out.call b3).bel
  have HH : Hid (t = true ↔ HasP d.on.1 d.on.2 g) := ht
  clear ht b3 HT2
  cases t with
  | false =>
    go_wp2
    go_ret
    exact ⟨8, rfl, .inr ⟨Ht.out.1 (by simp), .inl ⟨fun h => (by have := HH.out.2 h; cases this), rfl⟩⟩, HB.out⟩
  | true =>
    go_wp2
    go_ret
    exact ⟨0, rfl, .inr ⟨Ht.out.1 (by simp), .inr ⟨HH.out.1 (by simp), rfl⟩⟩, HB.out⟩
set_option maxHeartbeats 8000000 in
set_option maxRecDepth 20000 in
theorem rowFault_any (d : WorldD) (g r : Int) (cs : List Value) (hi : Nat) (w : World) (h : layWorld.rd w hi d cs) (hhi : hi ≤ w.heap.size) (hsz : szWorldD d ≤ 1048576) :
    Calls Tryz.prog 40 #[.agg cs.toArray, .int .i64 g, .int .i64 r] w (CodeP (WhereAns d g r) w) := by
  have h' := h
  obtain ⟨ao1, cap1, ao2, cap2, ao3, cap3, rfl, g1, g2, g3, k0, k4, k5⟩ := World_rd h'
  have HRD : Hid (layWorld.rd w hi d [.int .i64 (d.shape 0), .int .i64 (d.shape 1), .int .i64 (d.shape 2), .int .i64 (d.shape 3), .int .i64 (d.shape 4), .int .i64 (d.shape 5), .int .i64 (d.shape 6), .int .i64 (d.shape 7), .int .i64 (d.shape 8), .slice ao1 d.groups.1 cap1, .slice ao2 d.on.1 cap2, .slice ao3 d.tapes.1 cap3, .int .i64 d.writes, .int .i64 d.stop, .bool d.down]) := h
  have HG2 : Hid (RdI w hi (.slice ao2 d.on.1 cap2) d.on.1 d.on.2) := by
    obtain ⟨_, e2, ⟨h2, _⟩, _⟩ := g2
    cases e2
    exact h2
  clear h h' g1 g2 g3 k0 k4 k5
  have T0 := one_new w #[.int .i64 (d.shape 0), .int .i64 (d.shape 1), .int .i64 (d.shape 2), .int .i64 (d.shape 3), .int .i64 (d.shape 4), .int .i64 (d.shape 5), .int .i64 (d.shape 6), .int .i64 (d.shape 7), .int .i64 (d.shape 8), .slice ao1 d.groups.1 cap1, .slice ao2 d.on.1 cap2, .slice ao3 d.tapes.1 cap3, .int .i64 d.writes, .int .i64 d.stop, .bool d.down] 37
  have HSZ : Hid (szWorldD d ≤ 1048576) := hsz
  clear hsz
  go_enter Tryz.func40, Tryz.ntmps40
  go_wp2_with (refine wp_loadBox 37 (.tmp 3) rfl rfl (w.heap.size) rfl (cs := [.int .i64 (d.shape 0), .int .i64 (d.shape 1), .int .i64 (d.shape 2), .int .i64 (d.shape 3), .int .i64 (d.shape 4), .int .i64 (d.shape 5), .int .i64 (d.shape 6), .int .i64 (d.shape 7), .int .i64 (d.shape 8), .slice ao1 d.groups.1 cap1, .slice ao2 d.on.1 cap2, .slice ao3 d.tapes.1 cap3, .int .i64 d.writes, .int .i64 d.stop, .bool d.down]) (T0.b1) Tryz.underlying37 size_W rfl ?_)
  refine (powered_any d _ hi _ (layWorld.rd_below HRD.out T0.bel hhi) (Nat.le_trans hhi T0.bel.size) HSZ.out).mono ?_
  rintro e w1 ⟨x, rfl, hx, b1⟩
  have HT1 : Hid (One w w1 #[.int .i64 (d.shape 0), .int .i64 (d.shape 1), .int .i64 (d.shape 2), .int .i64 (d.shape 3), .int .i64 (d.shape 4), .int .i64 (d.shape 5), .int .i64 (d.shape 6), .int .i64 (d.shape 7), .int .i64 (d.shape 8), .slice ao1 d.groups.1 cap1, .slice ao2 d.on.1 cap2, .slice ao3 d.tapes.1 cap3, .int .i64 d.writes, .int .i64 d.stop, .bool d.down] 37) := T0.call b1
  have HX : Hid (AskAns d x) := hx
  clear b1 T0 hx
  by_cases hx0 : x = 0
  case neg =>
    have hne : (x != 0) = true := by simp [hx0]
    go_wp2
    go_ret
    exact ⟨x, rfl, .inl ⟨hx0, HX.out⟩, HT1.out.bel⟩
  subst hx0
  have HOK : Hid (OkWorld d) := ask_ok HX.out
  have x_0 : w1.cell? ⟨w.heap.size, 0, none⟩ = some (.int .i64 (d.shape 0)) := HT1.out.b1.cell 0
  have x_1 : w1.cell? ⟨w.heap.size, 1, none⟩ = some (.int .i64 (d.shape 1)) := HT1.out.b1.cell 1
  have x_2 : w1.cell? ⟨w.heap.size, 2, none⟩ = some (.int .i64 (d.shape 2)) := HT1.out.b1.cell 2
  have x_3 : w1.cell? ⟨w.heap.size, 3, none⟩ = some (.int .i64 (d.shape 3)) := HT1.out.b1.cell 3
  have x_4 : w1.cell? ⟨w.heap.size, 4, none⟩ = some (.int .i64 (d.shape 4)) := HT1.out.b1.cell 4
  have x_5 : w1.cell? ⟨w.heap.size, 5, none⟩ = some (.int .i64 (d.shape 5)) := HT1.out.b1.cell 5
  have x_6 : w1.cell? ⟨w.heap.size, 6, none⟩ = some (.int .i64 (d.shape 6)) := HT1.out.b1.cell 6
  have x_7 : w1.cell? ⟨w.heap.size, 7, none⟩ = some (.int .i64 (d.shape 7)) := HT1.out.b1.cell 7
  have x_8 : w1.cell? ⟨w.heap.size, 8, none⟩ = some (.int .i64 (d.shape 8)) := HT1.out.b1.cell 8
  obtain ⟨t, ht⟩ := exB (InP r 0 (d.shape 4 - 1))
  have Ht : Hid (t = true ↔ InP r 0 (d.shape 4 - 1)) := ht
  have CI := isRow_b HOK.out.shape ht w1
  unfold shapeV at CI
  clear ht
  go_wp2_with fail
  refine CI.mono ?_
  rintro e w2 ⟨rfl, b2⟩
  have HT2 : Hid (One w w2 #[.int .i64 (d.shape 0), .int .i64 (d.shape 1), .int .i64 (d.shape 2), .int .i64 (d.shape 3), .int .i64 (d.shape 4), .int .i64 (d.shape 5), .int .i64 (d.shape 6), .int .i64 (d.shape 7), .int .i64 (d.shape 8), .slice ao1 d.groups.1 cap1, .slice ao2 d.on.1 cap2, .slice ao3 d.tapes.1 cap3, .int .i64 d.writes, .int .i64 d.stop, .bool d.down] 37) := HT1.out.call b2
  clear CI b2 HT1 x_0 x_1 x_2 x_3 x_4 x_5 x_6 x_7 x_8
  cases t with
  | false =>
    go_wp2
    go_ret
    exact ⟨3, rfl, .inr ⟨HX.out, .inl ⟨fun h => (by have := Ht.out.2 h.2; cases this), rfl⟩⟩, HT2.out.bel⟩
  | true =>
  go_wp2_with (refine wp_loadBox 37 (.tmp 3) rfl rfl (w.heap.size) rfl (cs := [.int .i64 (d.shape 0), .int .i64 (d.shape 1), .int .i64 (d.shape 2), .int .i64 (d.shape 3), .int .i64 (d.shape 4), .int .i64 (d.shape 5), .int .i64 (d.shape 6), .int .i64 (d.shape 7), .int .i64 (d.shape 8), .slice ao1 d.groups.1 cap1, .slice ao2 d.on.1 cap2, .slice ao3 d.tapes.1 cap3, .int .i64 d.writes, .int .i64 d.stop, .bool d.down]) (HT2.out.b1) Tryz.underlying37 size_W rfl ?_)
  refine (onFault_any d g _ hi _ (layWorld.rd_below HRD.out HT2.out.bel hhi) (Nat.le_trans hhi HT2.out.bel.size) HOK.out.shape).mono ?_
  rintro e w3 ⟨x, rfl, hx, b3⟩
  have HB : Hid (Below w.heap.size w w3) := (HT2.out.call b3).bel
  have HXX : Hid ((¬ InP g 0 (d.shape 0 + d.shape 1 - 1) ∧ x = 3) ∨ (InP g 0 (d.shape 0 + d.shape 1 - 1) ∧ ((¬ HasP d.on.1 d.on.2 g ∧ x = 8) ∨ (HasP d.on.1 d.on.2 g ∧ x = 0)))) := hx
  clear hx b3 HT2
  go_wp2
  go_ret
  refine ⟨x, rfl, .inr ⟨HX.out, ?_⟩, HB.out⟩
  have hr := Ht.out.1 (by simp)
  rcases HXX.out with ⟨h1, h2⟩ | ⟨h1, ⟨h2, h3⟩ | ⟨h2, h3⟩⟩
  · exact .inl ⟨fun h => h1 h.1, h2⟩
  · exact .inr ⟨⟨h1, hr⟩, .inl ⟨h2, h3⟩⟩
  · exact .inr ⟨⟨h1, hr⟩, .inr ⟨h2, h3⟩⟩
set_option maxHeartbeats 8000000 in
set_option maxRecDepth 20000 in
theorem l7Where_any (d : WorldD) (g r : Int) (cs : List Value) (hi : Nat) (w : World) (h : layWorld.rd w hi d cs) (hhi : hi ≤ w.heap.size) (hsz : szWorldD d ≤ 1048576) :
    Calls Tryz.prog 38 #[.agg cs.toArray, .int .i64 g, .int .i64 r] w (CodeP (WhereAns d g r) w) := by
  have h' := h
  obtain ⟨ao1, cap1, ao2, cap2, ao3, cap3, rfl, g1, g2, g3, k0, k4, k5⟩ := World_rd h'
  have HRD : Hid (layWorld.rd w hi d [.int .i64 (d.shape 0), .int .i64 (d.shape 1), .int .i64 (d.shape 2), .int .i64 (d.shape 3), .int .i64 (d.shape 4), .int .i64 (d.shape 5), .int .i64 (d.shape 6), .int .i64 (d.shape 7), .int .i64 (d.shape 8), .slice ao1 d.groups.1 cap1, .slice ao2 d.on.1 cap2, .slice ao3 d.tapes.1 cap3, .int .i64 d.writes, .int .i64 d.stop, .bool d.down]) := h
  have HG2 : Hid (RdI w hi (.slice ao2 d.on.1 cap2) d.on.1 d.on.2) := by
    obtain ⟨_, e2, ⟨h2, _⟩, _⟩ := g2
    cases e2
    exact h2
  clear h h' g1 g2 g3 k0 k4 k5
  have T0 := one_new w #[.int .i64 (d.shape 0), .int .i64 (d.shape 1), .int .i64 (d.shape 2), .int .i64 (d.shape 3), .int .i64 (d.shape 4), .int .i64 (d.shape 5), .int .i64 (d.shape 6), .int .i64 (d.shape 7), .int .i64 (d.shape 8), .slice ao1 d.groups.1 cap1, .slice ao2 d.on.1 cap2, .slice ao3 d.tapes.1 cap3, .int .i64 d.writes, .int .i64 d.stop, .bool d.down] 37
  have HSZ : Hid (szWorldD d ≤ 1048576) := hsz
  clear hsz
  go_enter Tryz.func38, Tryz.ntmps38
  go_wp2_with (refine wp_loadBox 37 (.tmp 3) rfl rfl (w.heap.size) rfl (cs := [.int .i64 (d.shape 0), .int .i64 (d.shape 1), .int .i64 (d.shape 2), .int .i64 (d.shape 3), .int .i64 (d.shape 4), .int .i64 (d.shape 5), .int .i64 (d.shape 6), .int .i64 (d.shape 7), .int .i64 (d.shape 8), .slice ao1 d.groups.1 cap1, .slice ao2 d.on.1 cap2, .slice ao3 d.tapes.1 cap3, .int .i64 d.writes, .int .i64 d.stop, .bool d.down]) (T0.b1) Tryz.underlying37 size_W rfl ?_)
  refine (l5Asked_any d _ hi _ (layWorld.rd_below HRD.out T0.bel hhi) (Nat.le_trans hhi T0.bel.size) HSZ.out).mono ?_
  rintro e w1 ⟨x, rfl, hx, b1⟩
  have HT1 : Hid (One w w1 #[.int .i64 (d.shape 0), .int .i64 (d.shape 1), .int .i64 (d.shape 2), .int .i64 (d.shape 3), .int .i64 (d.shape 4), .int .i64 (d.shape 5), .int .i64 (d.shape 6), .int .i64 (d.shape 7), .int .i64 (d.shape 8), .slice ao1 d.groups.1 cap1, .slice ao2 d.on.1 cap2, .slice ao3 d.tapes.1 cap3, .int .i64 d.writes, .int .i64 d.stop, .bool d.down] 37) := T0.call b1
  have HX : Hid (AskAns d x) := hx
  clear b1 T0 hx
  by_cases hx0 : x = 0
  case neg =>
    have hne : (x != 0) = true := by simp [hx0]
    go_wp2
    go_ret
    exact ⟨x, rfl, .inl ⟨hx0, HX.out⟩, HT1.out.bel⟩
  subst hx0
  have HOK : Hid (OkWorld d) := ask_ok HX.out
  have x_0 : w1.cell? ⟨w.heap.size, 0, none⟩ = some (.int .i64 (d.shape 0)) := HT1.out.b1.cell 0
  have x_1 : w1.cell? ⟨w.heap.size, 1, none⟩ = some (.int .i64 (d.shape 1)) := HT1.out.b1.cell 1
  have x_2 : w1.cell? ⟨w.heap.size, 2, none⟩ = some (.int .i64 (d.shape 2)) := HT1.out.b1.cell 2
  have x_3 : w1.cell? ⟨w.heap.size, 3, none⟩ = some (.int .i64 (d.shape 3)) := HT1.out.b1.cell 3
  have x_4 : w1.cell? ⟨w.heap.size, 4, none⟩ = some (.int .i64 (d.shape 4)) := HT1.out.b1.cell 4
  have x_5 : w1.cell? ⟨w.heap.size, 5, none⟩ = some (.int .i64 (d.shape 5)) := HT1.out.b1.cell 5
  have x_6 : w1.cell? ⟨w.heap.size, 6, none⟩ = some (.int .i64 (d.shape 6)) := HT1.out.b1.cell 6
  have x_7 : w1.cell? ⟨w.heap.size, 7, none⟩ = some (.int .i64 (d.shape 7)) := HT1.out.b1.cell 7
  have x_8 : w1.cell? ⟨w.heap.size, 8, none⟩ = some (.int .i64 (d.shape 8)) := HT1.out.b1.cell 8
  have CP := l5Place_any d.shape HOK.out.shape g 0 r w1
  unfold shapeV at CP
  go_wp2_with fail
  refine CP.mono ?_
  rintro e w2 ⟨t, rfl, ht, b2⟩
  have Ht : Hid (t = true ↔ WhP d.shape g r) := ht.trans (place_wh HOK.out.shape g r)
  have HT2 : Hid (One w w2 #[.int .i64 (d.shape 0), .int .i64 (d.shape 1), .int .i64 (d.shape 2), .int .i64 (d.shape 3), .int .i64 (d.shape 4), .int .i64 (d.shape 5), .int .i64 (d.shape 6), .int .i64 (d.shape 7), .int .i64 (d.shape 8), .slice ao1 d.groups.1 cap1, .slice ao2 d.on.1 cap2, .slice ao3 d.tapes.1 cap3, .int .i64 d.writes, .int .i64 d.stop, .bool d.down] 37) := HT1.out.call b2
  clear CP b2 ht HT1 x_0 x_1 x_2 x_3 x_4 x_5 x_6 x_7 x_8
  cases t with
  | false =>
    go_wp2
    go_ret
    exact ⟨3, rfl, .inr ⟨HX.out, .inl ⟨fun h => (by have := Ht.out.2 h; cases this), rfl⟩⟩, HT2.out.bel⟩
  | true =>
  have x10 : w2.cell? ⟨w.heap.size, 10, none⟩ = some (.slice ao2 d.on.1 cap2) := HT2.out.b1.cell 10
  have CH := l1Has_any _ _ _ hi g w2 (HG2.out.below HT2.out.bel hhi)
  go_wp2_with fail
  refine CH.mono ?_
  rintro e w3 ⟨t, rfl, ht, b3⟩
  have HB : Hid (Below w.heap.size w w3) := (HT2.out.call b3).bel
  have HH : Hid (t = true ↔ HasP d.on.1 d.on.2 g) := ht
  clear ht b3 HT2 CH x10
  cases t with
  | false =>
    go_wp2
    go_ret
    exact ⟨8, rfl, .inr ⟨HX.out, .inr ⟨Ht.out.1 (by simp), .inl ⟨fun h => (by have := HH.out.2 h; cases this), rfl⟩⟩⟩, HB.out⟩
  | true =>
    go_wp2
    go_ret
    exact ⟨0, rfl, .inr ⟨HX.out, .inr ⟨Ht.out.1 (by simp), .inr ⟨HH.out.1 (by simp), rfl⟩⟩⟩, HB.out⟩
end Go.Proofs.YtgbnibapkgbklaaGreat

namespace Go.Proofs.YtgbnibapkgbklaaGreat
open Go.RowKit F256
set_option linter.unusedVariables false
set_option linter.unusedSimpArgs false
/-- the greatest stamp in row R of the first n drives that are not wiped -/
def stampN (x : Nat → DriveD) (R : Nat) : Nat → Int
  | 0 => 0
  | n + 1 => if (x n).wiped = true then stampN x R n else (if stampN x R n > ((x n).blocks.2 R).stamp then stampN x R n else ((x n).blocks.2 R).stamp)
set_option maxHeartbeats 8000000 in
set_option maxRecDepth 20000 in
theorem stampInRow_any (d : WorldD) (cs : List Value) (hi : Nat) (G R : Nat) (w : World) (h : layWorld.rd w hi d cs) (hhi : hi ≤ w.heap.size) (hG : G < d.groups.1) (hR : ∀ k, k < (d.groups.2 G).1 → R < ((d.groups.2 G).2 k).blocks.1) :
    Calls Tryz.prog 41 #[.agg cs.toArray, .int .i64 (G : Int), .int .i64 (R : Int)] w fun e w' => e = .returned (.int .i64 (stampN (d.groups.2 G).2 R (d.groups.2 G).1)) ∧ Below w.heap.size w w' := by
  obtain ⟨ao1, cap1, ao2, cap2, ao3, cap3, rfl, g1, g2, g3, k0, k4, k5⟩ := World_rd h
  obtain ⟨_, _, e1, hm1, hc1⟩ := g1
  cases e1
  obtain ⟨b1, off1, he1, hb1, hel1⟩ := hc1 (by omega)
  subst he1
  obtain ⟨cg, hrg, hcg⟩ := hel1 G hG
  obtain ⟨ao9, cap9, rfl⟩ := sl_form hrg
  have c0 : w.cell? ⟨b1, off1 + G, none⟩ = some (.slice ao9 (d.groups.2 G).1 cap9) := by
    have := hcg 0 (by decide)
    have e : off1 + (G * (layDrive.slice 88).sz + 0) = off1 + G := by show off1 + (G * 1 + 0) = off1 + G; omega
    rw [e] at this
    exact this
  obtain ⟨_, _, e9, hm9, hc9⟩ := hrg
  cases e9
  unfold maxLen at hm9
  have i1 : (0 : Int) ≤ (G : Int) := by omega
  have i2 : (G : Int) < (d.groups.1 : Int) := by omega
  clear g2 g3 k0 k4 k5 hcg hel1 hc1 hm1
  have T0 := one_new w #[.int .i64 (d.shape 0), .int .i64 (d.shape 1), .int .i64 (d.shape 2), .int .i64 (d.shape 3), .int .i64 (d.shape 4), .int .i64 (d.shape 5), .int .i64 (d.shape 6), .int .i64 (d.shape 7), .int .i64 (d.shape 8), .slice (some ⟨b1, off1, none⟩) d.groups.1 cap1, .slice ao2 d.on.1 cap2, .slice ao3 d.tapes.1 cap3, .int .i64 d.writes, .int .i64 d.stop, .bool d.down] 37
  have x9 := T0.b1.cell 9
  have c0' := (T0.bel.cell (p := ⟨b1, off1 + G, none⟩) (by show b1 < w.heap.size; omega)).trans c0
  go_enter Tryz.func41, Tryz.ntmps41
  go_wp2
  go_loopw [7, 16] (fun v i wr => ∃ k : Nat, k ≤ (d.groups.2 G).1 ∧ i = .int .i64 k ∧ v = .int .i64 (stampN (d.groups.2 G).2 R k) ∧ One w wr #[.int .i64 (d.shape 0), .int .i64 (d.shape 1), .int .i64 (d.shape 2), .int .i64 (d.shape 3), .int .i64 (d.shape 4), .int .i64 (d.shape 5), .int .i64 (d.shape 6), .int .i64 (d.shape 7), .int .i64 (d.shape 8), .slice (some ⟨b1, off1, none⟩) d.groups.1 cap1, .slice ao2 d.on.1 cap2, .slice ao3 d.tapes.1 cap3, .int .i64 d.writes, .int .i64 d.stop, .bool d.down] 37) (fun _ i _ => (d.groups.2 G).1 - (intOf i).toNat)
  case atStart => exact ⟨0, Nat.zero_le _, rfl, rfl, T0⟩
  case round =>
    clear T0 x9 c0'
    obtain ⟨k, hk, rfl, rfl, T⟩ := hrel
    have HT : Hid (One w wr #[.int .i64 (d.shape 0), .int .i64 (d.shape 1), .int .i64 (d.shape 2), .int .i64 (d.shape 3), .int .i64 (d.shape 4), .int .i64 (d.shape 5), .int .i64 (d.shape 6), .int .i64 (d.shape 7), .int .i64 (d.shape 8), .slice (some ⟨b1, off1, none⟩) d.groups.1 cap1, .slice ao2 d.on.1 cap2, .slice ao3 d.tapes.1 cap3, .int .i64 d.writes, .int .i64 d.stop, .bool d.down] 37) := T
    by_cases hlt : k < (d.groups.2 G).1
    · have t1 : (k : Int) < ((d.groups.2 G).1 : Int) := by omega
      obtain ⟨b, off, rfl, hblt, hcell⟩ := hc9 (by omega)
      obtain ⟨cd, hrd, hcd⟩ := hcell k hlt
      obtain ⟨ao5, cap5, rfl, g5⟩ := Drive_rd hrd
      have hRk : R < ((d.groups.2 G).2 k).blocks.1 := hR k hlt
      obtain ⟨_, _, e5, hm5, hc5⟩ := g5
      cases e5
      obtain ⟨b5, off5, he5, hb5, hel5⟩ := hc5 (by omega)
      subst he5
      obtain ⟨cb, hrb, hcb⟩ := hel5 R hRk
      obtain ⟨ao0, cap0, rfl, -, -⟩ := Block_rd hrb
      have c2 : wr.cell? ⟨b, off + k * 2, none⟩ = some (.bool ((d.groups.2 G).2 k).wiped) := (T.bel.cell (p := ⟨b, off + k * 2, none⟩) (by show b < w.heap.size; omega)).trans (hcd 0 (by decide))
      have c3 : wr.cell? ⟨b, off + k * 2 + 1, none⟩ = some (.slice (some ⟨b5, off5, none⟩) ((d.groups.2 G).2 k).blocks.1 cap5) := (T.bel.cell (p := ⟨b, off + k * 2 + 1, none⟩) (by show b < w.heap.size; omega)).trans (hcd 1 (by decide))
      have c4 : wr.cell? ⟨b5, off5 + R * 2, none⟩ = some (.int .i64 (((d.groups.2 G).2 k).blocks.2 R).stamp) := (T.bel.cell (p := ⟨b5, off5 + R * 2, none⟩) (by show b5 < w.heap.size; omega)).trans (hcb 0 (by decide))
      obtain ⟨D, hD⟩ : ∃ D, D = (d.groups.2 G).2 k := ⟨_, rfl⟩
      have HD : Hid (D = (d.groups.2 G).2 k) := hD
      rw [← hD] at c2 c3 c4 hRk
      obtain ⟨y, hy⟩ : ∃ y, y = (D.blocks.2 R).stamp := ⟨_, rfl⟩
      have HY : Hid (y = (D.blocks.2 R).stamp) := hy
      rw [← hy] at c4
      obtain ⟨m, hm⟩ : ∃ m, m = stampN (d.groups.2 G).2 R k := ⟨_, rfl⟩
      have HM : Hid (m = stampN (d.groups.2 G).2 R k) := hm
      rw [← hm]
      have bA : Below wr.heap.size wr (wr.alloc (.cells #[.bool D.wiped, .slice (some ⟨b5, off5, none⟩) D.blocks.1 cap5] 88)) := (Below.refl _ _).alloc (Nat.le_refl _) _
      have HT9 : Hid (One w (wr.alloc (.cells #[.bool D.wiped, .slice (some ⟨b5, off5, none⟩) D.blocks.1 cap5] 88)) #[.int .i64 (d.shape 0), .int .i64 (d.shape 1), .int .i64 (d.shape 2), .int .i64 (d.shape 3), .int .i64 (d.shape 4), .int .i64 (d.shape 5), .int .i64 (d.shape 6), .int .i64 (d.shape 7), .int .i64 (d.shape 8), .slice (some ⟨b1, off1, none⟩) d.groups.1 cap1, .slice ao2 d.on.1 cap2, .slice ao3 d.tapes.1 cap3, .int .i64 d.writes, .int .i64 d.stop, .bool d.down] 37) := HT.out.call bA
      have c4' : (wr.alloc (.cells #[.bool D.wiped, .slice (some ⟨b5, off5, none⟩) D.blocks.1 cap5] 88)).cell? ⟨b5, off5 + R * 2, none⟩ = some (.int .i64 y) := (bA.cell (p := ⟨b5, off5 + R * 2, none⟩) (by have := T.b1.lt; show b5 < wr.heap.size; omega)).trans c4
      have j1 : (0 : Int) ≤ (R : Int) := by omega
      have j2 : (R : Int) < (D.blocks.1 : Int) := by omega
      clear hc9 hcell hcd hrd hcb hrb hel5 hc5 hm5 T hD hm hy bA
      cases hw : D.wiped with
      | true =>
        rw [hw] at c2 HT9 c4'
        have HW : Hid (D.wiped = true) := hw
        clear hw
        go_wp2
        go_roundw
        case rel => exact ⟨k + 1, by omega, by go_num, by
          have e : stampN (d.groups.2 G).2 R (k + 1) = m := by
            show (if ((d.groups.2 G).2 k).wiped = true then _ else _) = m
            rw [← HD.out, if_pos HW.out, ← HM.out]
          rw [e], HT9.out⟩
        case measure => simp [intOf]; omega
      | false =>
        rw [hw] at c2 HT9 c4'
        have HW : Hid (D.wiped = false) := hw
        clear hw
        have E1 : Hid (stampN (d.groups.2 G).2 R (k + 1) = if m > y then m else y) := by
          show (if ((d.groups.2 G).2 k).wiped = true then _ else (if stampN (d.groups.2 G).2 R k > (((d.groups.2 G).2 k).blocks.2 R).stamp then stampN (d.groups.2 G).2 R k else (((d.groups.2 G).2 k).blocks.2 R).stamp)) = _
          rw [← HD.out, if_neg (by rw [HW.out]; decide), ← HM.out, ← HY.out]
        by_cases hmy : m > y
        · have HMY : Hid (m > y) := hmy
          have q1 : (if m < y then y else m) = m := by rw [if_neg (by omega)]
          have q2 : max m y = m := by omega
          go_wp2
          go_roundw
          case rel => exact ⟨k + 1, by omega, by go_num, by rw [E1.out, if_pos HMY.out] <;> (first | rfl | omega), HT9.out⟩
          case measure => simp [intOf]; omega
        · have HMY : Hid (¬ m > y) := hmy
          have q2 : max m y = y := by omega
          go_wp2
          go_roundw
          case rel => exact ⟨k + 1, by omega, by go_num, by rw [E1.out, if_neg HMY.out] <;> (first | rfl | omega), HT9.out⟩
          case measure => simp [intOf]; omega
    · obtain rfl : k = (d.groups.2 G).1 := by omega
      clear hlt T hc9
      go_wp2
      go_ret
      exact ⟨rfl, HT.out.bel⟩
theorem l1Max_is (a b : Int) (w : World) : Calls Tryz.prog 66 #[.int .i64 a, .int .i64 b] w fun e w' => e = .returned (.int .i64 (if a > b then a else b)) ∧ w' = w := by
  by_cases h : b < a
  · rw [if_pos h]
    go_enter Tryz.func66, Tryz.ntmps66
    go_wp2
    go_ret
    exact ⟨rfl, rfl⟩
  · rw [if_neg h]
    have h' : decide (b < a) = false := decide_eq_false h
    go_enter Tryz.func66, Tryz.ntmps66
    go_wp2
    go_ret
    exact ⟨rfl, rfl⟩
set_option maxHeartbeats 8000000 in
set_option maxRecDepth 20000 in
theorem l7Stamp_any (d : WorldD) (cs : List Value) (hi B : Nat) (G R : Nat) (w : World) (h : layWorld.rd w hi d cs) (hhi : hi ≤ w.heap.size) (hB : Box w B cs.toArray 37) (hG : G < d.groups.1) (hR : ∀ k, k < (d.groups.2 G).1 → R < ((d.groups.2 G).2 k).blocks.1) :
    Calls Tryz.prog 39 #[.pointer (some ⟨B, 0, none⟩), .int .i64 (G : Int), .int .i64 (R : Int)] w fun e w' => e = .returned (.int .i64 (stampN (d.groups.2 G).2 R (d.groups.2 G).1)) ∧ w' = w := by
  obtain ⟨ao1, cap1, ao2, cap2, ao3, cap3, rfl, g1, g2, g3, k0, k4, k5⟩ := World_rd h
  obtain ⟨_, _, e1, hm1, hc1⟩ := g1
  cases e1
  obtain ⟨b1, off1, he1, hb1, hel1⟩ := hc1 (by omega)
  subst he1
  obtain ⟨cg, hrg, hcg⟩ := hel1 G hG
  obtain ⟨ao9, cap9, rfl⟩ := sl_form hrg
  have c0 : w.cell? ⟨b1, off1 + G, none⟩ = some (.slice ao9 (d.groups.2 G).1 cap9) := by
    have := hcg 0 (by decide)
    have e : off1 + (G * (layDrive.slice 88).sz + 0) = off1 + G := by show off1 + (G * 1 + 0) = off1 + G; omega
    rw [e] at this
    exact this
  obtain ⟨_, _, e9, hm9, hc9⟩ := hrg
  cases e9
  unfold maxLen at hm9
  have i1 : (0 : Int) ≤ (G : Int) := by omega
  have i2 : (G : Int) < (d.groups.1 : Int) := by omega
  clear g2 g3 k0 k4 k5 hcg hel1 hc1 hm1
  have x9 : w.cell? ⟨B, 9, none⟩ = some (.slice (some ⟨b1, off1, none⟩) d.groups.1 cap1) := hB.cell 9
  clear hB
  go_enter Tryz.func39, Tryz.ntmps39
  go_wp2
  go_loopw [7, 8] (fun v i wr => ∃ k : Nat, k ≤ (d.groups.2 G).1 ∧ i = .int .i64 k ∧ v = .int .i64 (stampN (d.groups.2 G).2 R k) ∧ wr = w) (fun _ i _ => (d.groups.2 G).1 - (intOf i).toNat)
  case atStart => exact ⟨0, Nat.zero_le _, rfl, rfl, rfl⟩
  case round =>
    obtain ⟨k, hk, rfl, rfl, e⟩ := hrel
    obtain rfl := e.symm
    by_cases hlt : k < (d.groups.2 G).1
    · have t1 : (k : Int) < ((d.groups.2 G).1 : Int) := by omega
      obtain ⟨b, off, rfl, hblt, hcell⟩ := hc9 (by omega)
      obtain ⟨cd, hrd, hcd⟩ := hcell k hlt
      obtain ⟨ao5, cap5, rfl, g5⟩ := Drive_rd hrd
      have hRk : R < ((d.groups.2 G).2 k).blocks.1 := hR k hlt
      obtain ⟨_, _, e5, hm5, hc5⟩ := g5
      cases e5
      obtain ⟨b5, off5, he5, hb5, hel5⟩ := hc5 (by omega)
      subst he5
      obtain ⟨cb, hrb, hcb⟩ := hel5 R hRk
      obtain ⟨ao0, cap0, rfl, -, -⟩ := Block_rd hrb
      have c2 : w.cell? ⟨b, off + k * 2, none⟩ = some (.bool ((d.groups.2 G).2 k).wiped) := hcd 0 (by decide)
      have c3 : w.cell? ⟨b, off + k * 2 + 1, none⟩ = some (.slice (some ⟨b5, off5, none⟩) ((d.groups.2 G).2 k).blocks.1 cap5) := hcd 1 (by decide)
      have c4 : w.cell? ⟨b5, off5 + R * 2, none⟩ = some (.int .i64 (((d.groups.2 G).2 k).blocks.2 R).stamp) := hcb 0 (by decide)
      obtain ⟨D, hD⟩ : ∃ D, D = (d.groups.2 G).2 k := ⟨_, rfl⟩
      have HD : Hid (D = (d.groups.2 G).2 k) := hD
      rw [← hD] at c2 c3 c4 hRk
      obtain ⟨y, hy⟩ : ∃ y, y = (D.blocks.2 R).stamp := ⟨_, rfl⟩
      have HY : Hid (y = (D.blocks.2 R).stamp) := hy
      rw [← hy] at c4
      obtain ⟨m, hm⟩ : ∃ m, m = stampN (d.groups.2 G).2 R k := ⟨_, rfl⟩
      have HM : Hid (m = stampN (d.groups.2 G).2 R k) := hm
      rw [← hm]
      have j1 : (0 : Int) ≤ (R : Int) := by omega
      have j2 : (R : Int) < (D.blocks.1 : Int) := by omega
      have CM := l1Max_is m y w
      clear hc9 hcell hcd hrd hcb hrb hel5 hc5 hm5 hD hm hy
      cases hw : D.wiped with
      | true =>
        rw [hw] at c2
        have HW : Hid (D.wiped = true) := hw
        clear hw CM
        go_wp2
        go_roundw
        case rel => exact ⟨k + 1, by omega, by go_num, by
          have e : stampN (d.groups.2 G).2 R (k + 1) = m := by
            show (if ((d.groups.2 G).2 k).wiped = true then _ else _) = m
            rw [← HD.out, if_pos HW.out, ← HM.out]
          rw [e], trivial⟩
        case measure => simp [intOf]; omega
      | false =>
        rw [hw] at c2
        have HW : Hid (D.wiped = false) := hw
        clear hw
        have E1 : Hid (stampN (d.groups.2 G).2 R (k + 1) = if m > y then m else y) := by
          show (if ((d.groups.2 G).2 k).wiped = true then _ else (if stampN (d.groups.2 G).2 R k > (((d.groups.2 G).2 k).blocks.2 R).stamp then stampN (d.groups.2 G).2 R k else (((d.groups.2 G).2 k).blocks.2 R).stamp)) = _
          rw [← HD.out, if_neg (by rw [HW.out]; decide), ← HM.out, ← HY.out]
        obtain ⟨z, hz⟩ : ∃ z, z = (if m > y then m else y) := ⟨_, rfl⟩
        have HZ : Hid (z = (if m > y then m else y)) := hz
        rw [← hz] at CM
        clear hz
        go_wp2_with fail
        refine CM.mono ?_
        rintro e w2 ⟨rfl, e2⟩
        obtain rfl := e2.symm
        go_wp2
        go_roundw
        case rel => exact ⟨k + 1, by omega, by go_num, by rw [E1.out, ← HZ.out], trivial⟩
        case measure => simp [intOf]; omega
    · obtain rfl : k = (d.groups.2 G).1 := by omega
      clear hlt hc9
      go_wp2
      go_ret
      exact ⟨rfl, rfl⟩
end Go.Proofs.YtgbnibapkgbklaaGreat

namespace Go.Proofs.YtgbnibapkgbklaaGreat
open Go.RowKit F256
set_option linter.unusedVariables false
set_option linter.unusedSimpArgs false
theorem size_Ir : (Tryz.prog.info? 45).map (·.size) = some 2 := by kernel_rfl
theorem two_one (a b : Int) : ∀ v, v ∈ ([.int .i64 a, .int .i64 b] : List Value) → v.oneCell' = true := fun v hv => by
  simp only [List.mem_cons, List.not_mem_nil, or_false] at hv
  rcases hv with rfl | rfl <;> rfl
theorem wh_at {d : WorldD} (h : OkWorld d) {g r : Int} (hp : WhP d.shape g r) : ∃ G R : Nat, g = (G : Int) ∧ r = (R : Int) ∧ G < d.groups.1 ∧ ∀ k, k < (d.groups.2 G).1 → R < ((d.groups.2 G).2 k).blocks.1 := by
  obtain ⟨hA, hC⟩ := hp
  have hf := h.form.1
  unfold InP at hA hC
  obtain ⟨G, rfl⟩ : ∃ G : Nat, g = (G : Int) := ⟨g.toNat, by omega⟩
  obtain ⟨R, rfl⟩ : ∃ R : Nat, r = (R : Int) := ⟨r.toNat, by omega⟩
  have hG : G < d.groups.1 := by have := hf.1; omega
  exact ⟨G, R, rfl, rfl, hG, fun k hk => by have := ((hf.2 G hG).2 k hk).1; omega⟩
theorem where_zero {d : WorldD} {g r : Int} (h : WhereAns d g r 0) : AskAns d 0 ∧ WhP d.shape g r := by
  rcases h with ⟨h, _⟩ | ⟨h1, ⟨_, h⟩ | ⟨h2, _⟩⟩
  · exact absurd rfl h
  · cases h
  · exact ⟨h1, h2⟩
def StampAns (d : WorldD) (g r c v : Int) : Prop := (c ≠ 0 ∧ WhereAns d g r c ∧ v = 0) ∨ (WhereAns d g r 0 ∧ c = 0 ∧ v = stampN (d.groups.2 g.toNat).2 r.toNat (d.groups.2 g.toNat).1)
theorem StampAns.one {d : WorldD} {g r c v c' v' : Int} (h : StampAns d g r c v) (k : StampAns d g r c' v') : c = c' ∧ v = v' := by
  rcases h with ⟨h1, h2, rfl⟩ | ⟨h1, rfl, rfl⟩ <;> rcases k with ⟨k1, k2, rfl⟩ | ⟨k1, rfl, rfl⟩
  · exact ⟨h2.one k2, rfl⟩
  · exact absurd (h2.one k1) h1
  · exact absurd (k2.one h1) k1
  · exact ⟨rfl, rfl⟩
set_option maxHeartbeats 8000000 in
set_option maxRecDepth 20000 in
theorem implStamp_any (d : WorldD) (g r : Int) (cs : List Value) (hi : Nat) (w : World) (h : layWorld.rd w hi d cs) (hhi : hi ≤ w.heap.size) (hsz : szWorldD d ≤ 1048576) :
    Calls Tryz.prog 15 #[.agg cs.toArray, .int .i64 g, .int .i64 r] w fun e w' => ∃ c v, e = .returned (.agg #[.int .i64 c, .int .i64 v]) ∧ StampAns d g r c v ∧ Below w.heap.size w w' := by
  have h' := h
  obtain ⟨ao1, cap1, ao2, cap2, ao3, cap3, rfl, g1, g2, g3, k0, k4, k5⟩ := World_rd h'
  have HRD : Hid (layWorld.rd w hi d [.int .i64 (d.shape 0), .int .i64 (d.shape 1), .int .i64 (d.shape 2), .int .i64 (d.shape 3), .int .i64 (d.shape 4), .int .i64 (d.shape 5), .int .i64 (d.shape 6), .int .i64 (d.shape 7), .int .i64 (d.shape 8), .slice ao1 d.groups.1 cap1, .slice ao2 d.on.1 cap2, .slice ao3 d.tapes.1 cap3, .int .i64 d.writes, .int .i64 d.stop, .bool d.down]) := h
  clear h h' g1 g2 g3 k0 k4 k5
  have T0 := two_newb w #[.int .i64 (d.shape 0), .int .i64 (d.shape 1), .int .i64 (d.shape 2), .int .i64 (d.shape 3), .int .i64 (d.shape 4), .int .i64 (d.shape 5), .int .i64 (d.shape 6), .int .i64 (d.shape 7), .int .i64 (d.shape 8), .slice ao1 d.groups.1 cap1, .slice ao2 d.on.1 cap2, .slice ao3 d.tapes.1 cap3, .int .i64 d.writes, .int .i64 d.stop, .bool d.down] #[.int .i64 0, .int .i64 0] 37 45
  go_enter Tryz.func15, Tryz.ntmps15
  go_wp2_with (refine wp_loadBox 37 (.tmp 3) rfl rfl (w.heap.size) rfl (cs := [.int .i64 (d.shape 0), .int .i64 (d.shape 1), .int .i64 (d.shape 2), .int .i64 (d.shape 3), .int .i64 (d.shape 4), .int .i64 (d.shape 5), .int .i64 (d.shape 6), .int .i64 (d.shape 7), .int .i64 (d.shape 8), .slice ao1 d.groups.1 cap1, .slice ao2 d.on.1 cap2, .slice ao3 d.tapes.1 cap3, .int .i64 d.writes, .int .i64 d.stop, .bool d.down]) (T0.b1) Tryz.underlying37 size_W rfl ?_)
  refine (rowFault_any d g r _ hi _ (layWorld.rd_below HRD.out T0.bel hhi) (Nat.le_trans hhi T0.bel.size) hsz).mono ?_
  rintro e w1 ⟨x, rfl, hx, b1⟩
  have HT1 : Hid (Two w w1 #[.int .i64 (d.shape 0), .int .i64 (d.shape 1), .int .i64 (d.shape 2), .int .i64 (d.shape 3), .int .i64 (d.shape 4), .int .i64 (d.shape 5), .int .i64 (d.shape 6), .int .i64 (d.shape 7), .int .i64 (d.shape 8), .slice ao1 d.groups.1 cap1, .slice ao2 d.on.1 cap2, .slice ao3 d.tapes.1 cap3, .int .i64 d.writes, .int .i64 d.stop, .bool d.down] #[.int .i64 0, .int .i64 0] 37 45) := T0.call b1
  have HX : Hid (WhereAns d g r x) := hx
  have z1 : w.heap.size + 1 < w1.heap.size := HT1.out.b2.lt
  clear b1 T0 hx
  by_cases hx0 : x = 0
  case neg =>
    have hne : (x != 0) = true := by simp [hx0]
    go_wp2_with (refine wp_storeBox 45 _ _ rfl rfl (w.heap.size + 1) rfl (cs := [.int .i64 x, .int .i64 0]) (old := [.int .i64 0, .int .i64 0]) rfl (HT1.out.b2) size_Ir rfl rfl (two_one _ _) ?_; intro w9 X9 C9 z9)
    refine ret_box Tryz.results15 rfl X9 Tryz.underlying45 size_Ir rfl rfl ?_
    exact ⟨x, 0, rfl, .inl ⟨hx0, HX.out, rfl⟩, HT1.out.bel.trans (C9.bel (fun b hb => by simp at hb; omega) HT1.out.bel.size)⟩
  subst hx0
  obtain ⟨ha, hw⟩ := where_zero HX.out
  obtain ⟨G, R, rfl, rfl, hG, hR⟩ := wh_at (ask_ok ha) hw
  clear ha hw
  have CS := stampInRow_any d [.int .i64 (d.shape 0), .int .i64 (d.shape 1), .int .i64 (d.shape 2), .int .i64 (d.shape 3), .int .i64 (d.shape 4), .int .i64 (d.shape 5), .int .i64 (d.shape 6), .int .i64 (d.shape 7), .int .i64 (d.shape 8), .slice ao1 d.groups.1 cap1, .slice ao2 d.on.1 cap2, .slice ao3 d.tapes.1 cap3, .int .i64 d.writes, .int .i64 d.stop, .bool d.down] hi G R w1 (layWorld.rd_below HRD.out HT1.out.bel hhi) (Nat.le_trans hhi HT1.out.bel.size) hG hR
  obtain ⟨z, hz⟩ : ∃ z, z = stampN (d.groups.2 G).2 R (d.groups.2 G).1 := ⟨_, rfl⟩
  have HZ : Hid (z = stampN (d.groups.2 G).2 R (d.groups.2 G).1) := hz
  rw [← hz] at CS
  clear hz hR
  go_wp2_with (first | (refine wp_loadBox 37 (.tmp 3) rfl rfl (w.heap.size) rfl (cs := [.int .i64 (d.shape 0), .int .i64 (d.shape 1), .int .i64 (d.shape 2), .int .i64 (d.shape 3), .int .i64 (d.shape 4), .int .i64 (d.shape 5), .int .i64 (d.shape 6), .int .i64 (d.shape 7), .int .i64 (d.shape 8), .slice ao1 d.groups.1 cap1, .slice ao2 d.on.1 cap2, .slice ao3 d.tapes.1 cap3, .int .i64 d.writes, .int .i64 d.stop, .bool d.down]) (HT1.out.b1) Tryz.underlying37 size_W rfl ?_) | (go_at_call 41; refine CS.mono ?_; rintro e w2 ⟨rfl, b2⟩; have T2 := HT1.out.call b2) | (refine wp_storeBox 45 _ _ rfl rfl (w.heap.size + 1) rfl (cs := [.int .i64 0, .int .i64 z]) (old := [.int .i64 0, .int .i64 0]) rfl (T2.b2) size_Ir rfl rfl (two_one _ _) ?_; intro w9 X9 C9 z9))
  refine ret_box Tryz.results15 rfl X9 Tryz.underlying45 size_Ir rfl rfl ?_
  exact ⟨0, z, rfl, .inr ⟨HX.out, rfl, HZ.out⟩, T2.bel.trans (C9.bel (fun b hb => by simp at hb; omega) T2.bel.size)⟩
set_option maxHeartbeats 8000000 in
set_option maxRecDepth 20000 in
theorem specStamp_any (d : WorldD) (g r : Int) (cs : List Value) (hi : Nat) (w : World) (h : layWorld.rd w hi d cs) (hhi : hi ≤ w.heap.size) (hsz : szWorldD d ≤ 1048576) :
    Calls Tryz.prog 14 #[.agg cs.toArray, .int .i64 g, .int .i64 r] w fun e w' => ∃ c v, e = .returned (.agg #[.int .i64 c, .int .i64 v]) ∧ StampAns d g r c v ∧ Below w.heap.size w w' := by
  have h' := h
  obtain ⟨ao1, cap1, ao2, cap2, ao3, cap3, rfl, g1, g2, g3, k0, k4, k5⟩ := World_rd h'
  have HRD : Hid (layWorld.rd w hi d [.int .i64 (d.shape 0), .int .i64 (d.shape 1), .int .i64 (d.shape 2), .int .i64 (d.shape 3), .int .i64 (d.shape 4), .int .i64 (d.shape 5), .int .i64 (d.shape 6), .int .i64 (d.shape 7), .int .i64 (d.shape 8), .slice ao1 d.groups.1 cap1, .slice ao2 d.on.1 cap2, .slice ao3 d.tapes.1 cap3, .int .i64 d.writes, .int .i64 d.stop, .bool d.down]) := h
  clear h h' g1 g2 g3 k0 k4 k5
  have T0 := two_newb w #[.int .i64 (d.shape 0), .int .i64 (d.shape 1), .int .i64 (d.shape 2), .int .i64 (d.shape 3), .int .i64 (d.shape 4), .int .i64 (d.shape 5), .int .i64 (d.shape 6), .int .i64 (d.shape 7), .int .i64 (d.shape 8), .slice ao1 d.groups.1 cap1, .slice ao2 d.on.1 cap2, .slice ao3 d.tapes.1 cap3, .int .i64 d.writes, .int .i64 d.stop, .bool d.down] #[.int .i64 0, .int .i64 0] 37 45
  go_enter Tryz.func14, Tryz.ntmps14
  go_wp2_with (refine wp_loadBox 37 (.tmp 3) rfl rfl (w.heap.size) rfl (cs := [.int .i64 (d.shape 0), .int .i64 (d.shape 1), .int .i64 (d.shape 2), .int .i64 (d.shape 3), .int .i64 (d.shape 4), .int .i64 (d.shape 5), .int .i64 (d.shape 6), .int .i64 (d.shape 7), .int .i64 (d.shape 8), .slice ao1 d.groups.1 cap1, .slice ao2 d.on.1 cap2, .slice ao3 d.tapes.1 cap3, .int .i64 d.writes, .int .i64 d.stop, .bool d.down]) (T0.b1) Tryz.underlying37 size_W rfl ?_)
  refine (l7Where_any d g r _ hi _ (layWorld.rd_below HRD.out T0.bel hhi) (Nat.le_trans hhi T0.bel.size) hsz).mono ?_
  rintro e w1 ⟨x, rfl, hx, b1⟩
  have HT1 : Hid (Two w w1 #[.int .i64 (d.shape 0), .int .i64 (d.shape 1), .int .i64 (d.shape 2), .int .i64 (d.shape 3), .int .i64 (d.shape 4), .int .i64 (d.shape 5), .int .i64 (d.shape 6), .int .i64 (d.shape 7), .int .i64 (d.shape 8), .slice ao1 d.groups.1 cap1, .slice ao2 d.on.1 cap2, .slice ao3 d.tapes.1 cap3, .int .i64 d.writes, .int .i64 d.stop, .bool d.down] #[.int .i64 0, .int .i64 0] 37 45) := T0.call b1
  have HX : Hid (WhereAns d g r x) := hx
  have z1 : w.heap.size + 1 < w1.heap.size := HT1.out.b2.lt
  clear b1 T0 hx
  by_cases hx0 : x = 0
  case neg =>
    have hne : (x != 0) = true := by simp [hx0]
    go_wp2_with (refine wp_storeBox 45 _ _ rfl rfl (w.heap.size + 1) rfl (cs := [.int .i64 x, .int .i64 0]) (old := [.int .i64 0, .int .i64 0]) rfl (HT1.out.b2) size_Ir rfl rfl (two_one _ _) ?_; intro w9 X9 C9 z9)
    refine ret_box Tryz.results14 rfl X9 Tryz.underlying45 size_Ir rfl rfl ?_
    exact ⟨x, 0, rfl, .inl ⟨hx0, HX.out, rfl⟩, HT1.out.bel.trans (C9.bel (fun b hb => by simp at hb; omega) HT1.out.bel.size)⟩
  subst hx0
  obtain ⟨ha, hw⟩ := where_zero HX.out
  obtain ⟨G, R, rfl, rfl, hG, hR⟩ := wh_at (ask_ok ha) hw
  clear ha hw
  have CS := l7Stamp_any d [.int .i64 (d.shape 0), .int .i64 (d.shape 1), .int .i64 (d.shape 2), .int .i64 (d.shape 3), .int .i64 (d.shape 4), .int .i64 (d.shape 5), .int .i64 (d.shape 6), .int .i64 (d.shape 7), .int .i64 (d.shape 8), .slice ao1 d.groups.1 cap1, .slice ao2 d.on.1 cap2, .slice ao3 d.tapes.1 cap3, .int .i64 d.writes, .int .i64 d.stop, .bool d.down] hi w.heap.size G R w1 (layWorld.rd_below HRD.out HT1.out.bel hhi) (Nat.le_trans hhi HT1.out.bel.size) HT1.out.b1 hG hR
  obtain ⟨z, hz⟩ : ∃ z, z = stampN (d.groups.2 G).2 R (d.groups.2 G).1 := ⟨_, rfl⟩
  have HZ : Hid (z = stampN (d.groups.2 G).2 R (d.groups.2 G).1) := hz
  rw [← hz] at CS
  clear hz hR
  go_wp2_with (first | (go_at_call 39; refine CS.mono ?_; rintro e w2 ⟨rfl, e2⟩; obtain rfl := e2.symm) | (refine wp_storeBox 45 _ _ rfl rfl (w.heap.size + 1) rfl (cs := [.int .i64 0, .int .i64 z]) (old := [.int .i64 0, .int .i64 0]) rfl (HT1.out.b2) size_Ir rfl rfl (two_one _ _) ?_; intro w9 X9 C9 z9))
  refine ret_box Tryz.results14 rfl X9 Tryz.underlying45 size_Ir rfl rfl ?_
  exact ⟨0, z, rfl, .inr ⟨HX.out, rfl, HZ.out⟩, HT1.out.bel.trans (C9.bel (fun b hb => by simp at hb; omega) HT1.out.bel.size)⟩
end Go.Proofs.YtgbnibapkgbklaaGreat
