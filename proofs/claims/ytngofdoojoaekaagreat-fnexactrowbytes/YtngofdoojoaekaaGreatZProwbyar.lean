/- What l5Asked and poweredFault tell, and the walks of the small ones. -/
import Derived.Test.YtngofdoojoaekaaGreatZProwbyao
import Derived.Test.YtngofdoojoaekaaGreatZProwbyaq
import Derived.Test.YtngofdoojoaekaaGreatZProwbyaj
import Derived.Test.YtngofdoojoaekaaGreatZProwbyak
import Derived.Deep.DeepCutAuto
import Derived.Test.YtngofdoojoaekaaGreatZProwbyac
import Derived.Test.YtngofdoojoaekaaGreatZProwbyan
import Derived.Test.YtngofdoojoaekaaGreatZProwbyaa
import Derived.OrdersHeld
import Derived.Deep.RegionHeld
namespace Go.Proofs.YtngofdoojoaekaaGreat
open Go.RowKit F256
set_option linter.unusedVariables false
set_option linter.unusedSimpArgs false
/-- the world's fault, then 9 where it is down -/
def AskAns (d : WorldD) (x : Int) : Prop := (x ≠ 0 ∧ WldAns d x) ∨ (WldAns d 0 ∧ ((d.down = true ∧ x = 9) ∨ (d.down = false ∧ x = 0)))
theorem AskAns.one {d : WorldD} {x y : Int} (h : AskAns d x) (k : AskAns d y) : x = y := by
  rcases h with ⟨h1, h2⟩ | ⟨h1, h2⟩ <;> rcases k with ⟨k1, k2⟩ | ⟨k1, k2⟩
  · exact h2.one k2
  · exact absurd (h2.one k1) h1
  · exact absurd (k2.one h1) k1
  · rcases h2 with ⟨a, rfl⟩ | ⟨a, rfl⟩ <;> rcases k2 with ⟨b, rfl⟩ | ⟨b, rfl⟩
    · rfl
    · rw [a] at b; cases b
    · rw [a] at b; cases b
    · rfl
/-- a number is told -/
def IntPost (P : Int → Prop) (w : World) (e : Ending) (w' : World) : Prop := ∃ x, e = .returned (.int .i64 x) ∧ P x ∧ Below w.heap.size w w'
end Go.Proofs.YtngofdoojoaekaaGreat

namespace Go.Proofs.YtngofdoojoaekaaGreat
open Go.RowKit F256
set_option linter.unusedVariables false
set_option linter.unusedSimpArgs false
set_option maxHeartbeats 4000000 in
set_option maxRecDepth 20000 in
theorem l5Asked_any (d : WorldD) (cs : List Value) (hi : Nat) (w : World) (h : layWorld.rd w hi d cs) (hhi : hi ≤ w.heap.size) (hsz : szWorldD d ≤ 1048576) :
    Calls Tryz.prog 39 #[.agg cs.toArray] w (IntPost (AskAns d) w) := by
  have C := fun w' hb => specWorld_any d cs hi w' (layWorld.rd_below h (B := w.heap.size) hb hhi)
  obtain ⟨ao1, cap1, ao2, cap2, ao3, cap3, rfl, -⟩ := World_rd h
  have T0 := one_new w #[.int .i64 (d.shape 0), .int .i64 (d.shape 1), .int .i64 (d.shape 2), .int .i64 (d.shape 3), .int .i64 (d.shape 4), .int .i64 (d.shape 5), .int .i64 (d.shape 6), .int .i64 (d.shape 7), .int .i64 (d.shape 8), .slice ao1 d.groups.1 cap1, .slice ao2 d.on.1 cap2, .slice ao3 d.tapes.1 cap3, .int .i64 d.writes, .int .i64 d.stop, .bool d.down] 38
  clear h
  go_enter Tryz.func39, Tryz.ntmps39
  go_wp2_with (refine wp_loadBox 38 (.tmp 1) rfl rfl w.heap.size rfl (cs := [.int .i64 (d.shape 0), .int .i64 (d.shape 1), .int .i64 (d.shape 2), .int .i64 (d.shape 3), .int .i64 (d.shape 4), .int .i64 (d.shape 5), .int .i64 (d.shape 6), .int .i64 (d.shape 7), .int .i64 (d.shape 8), .slice ao1 d.groups.1 cap1, .slice ao2 d.on.1 cap2, .slice ao3 d.tapes.1 cap3, .int .i64 d.writes, .int .i64 d.stop, .bool d.down]) T0.b1 Tryz.underlying38 size_W rfl ?_)
  refine (C _ T0.bel (Nat.le_trans hhi T0.bel.size) (wld_ok_names hsz)).mono ?_
  rintro e w1 ⟨x, rfl, hx, b1⟩
  have T1 := T0.call b1
  have HX : Hid (WldAns d x) := hx
  have HB : Hid (Below w.heap.size w w1) := T1.bel
  have c14 : w1.cell? ⟨w.heap.size, 14, none⟩ = some (.bool d.down) := T1.b1.cell 14
  clear T0 T1 b1 C hx
  by_cases hx0 : x = 0
  · subst hx0
    obtain ⟨dn, hdn⟩ : ∃ b, b = d.down := ⟨_, rfl⟩
    rw [← hdn] at c14
    have HD : Hid (dn = d.down) := hdn
    clear hdn
    cases dn with
    | true =>
      go_wp2
      go_ret
      exact ⟨9, rfl, .inr ⟨HX.out, .inl ⟨HD.out.symm, rfl⟩⟩, HB.out⟩
    | false =>
      go_wp2
      go_ret
      exact ⟨0, rfl, .inr ⟨HX.out, .inr ⟨HD.out.symm, rfl⟩⟩, HB.out⟩
  · have hne : (x != 0) = true := by simp [hx0]
    go_wp2
    go_ret
    exact ⟨x, rfl, .inl ⟨hx0, HX.out⟩, HB.out⟩
set_option maxHeartbeats 4000000 in
set_option maxRecDepth 20000 in
theorem powered_any (d : WorldD) (cs : List Value) (hi : Nat) (w : World) (h : layWorld.rd w hi d cs) (hhi : hi ≤ w.heap.size) (hsz : szWorldD d ≤ 1048576) :
    Calls Tryz.prog 43 #[.agg cs.toArray] w (IntPost (AskAns d) w) := by
  have C := fun w' hb => implWorld_any d cs hi w' (layWorld.rd_below h (B := w.heap.size) hb hhi)
  obtain ⟨ao1, cap1, ao2, cap2, ao3, cap3, rfl, -⟩ := World_rd h
  have T0 := one_new w #[.int .i64 (d.shape 0), .int .i64 (d.shape 1), .int .i64 (d.shape 2), .int .i64 (d.shape 3), .int .i64 (d.shape 4), .int .i64 (d.shape 5), .int .i64 (d.shape 6), .int .i64 (d.shape 7), .int .i64 (d.shape 8), .slice ao1 d.groups.1 cap1, .slice ao2 d.on.1 cap2, .slice ao3 d.tapes.1 cap3, .int .i64 d.writes, .int .i64 d.stop, .bool d.down] 38
  clear h
  go_enter Tryz.func43, Tryz.ntmps43
  go_wp2_with (refine wp_loadBox 38 (.tmp 1) rfl rfl w.heap.size rfl (cs := [.int .i64 (d.shape 0), .int .i64 (d.shape 1), .int .i64 (d.shape 2), .int .i64 (d.shape 3), .int .i64 (d.shape 4), .int .i64 (d.shape 5), .int .i64 (d.shape 6), .int .i64 (d.shape 7), .int .i64 (d.shape 8), .slice ao1 d.groups.1 cap1, .slice ao2 d.on.1 cap2, .slice ao3 d.tapes.1 cap3, .int .i64 d.writes, .int .i64 d.stop, .bool d.down]) T0.b1 Tryz.underlying38 size_W rfl ?_)
  refine (C _ T0.bel (Nat.le_trans hhi T0.bel.size) (wld_ok_names hsz)).mono ?_
  rintro e w1 ⟨x, rfl, hx, b1⟩
  have T1 := T0.call b1
  have HX : Hid (WldAns d x) := hx
  have HB : Hid (Below w.heap.size w w1) := T1.bel
  have c14 : w1.cell? ⟨w.heap.size, 14, none⟩ = some (.bool d.down) := T1.b1.cell 14
  clear T0 T1 b1 C hx
  by_cases hx0 : x = 0
  · subst hx0
    obtain ⟨dn, hdn⟩ : ∃ b, b = d.down := ⟨_, rfl⟩
    rw [← hdn] at c14
    have HD : Hid (dn = d.down) := hdn
    clear hdn
    cases dn with
    | true =>
      go_wp2
      go_ret
      exact ⟨9, rfl, .inr ⟨HX.out, .inl ⟨HD.out.symm, rfl⟩⟩, HB.out⟩
    | false =>
      go_wp2
      go_ret
      exact ⟨0, rfl, .inr ⟨HX.out, .inr ⟨HD.out.symm, rfl⟩⟩, HB.out⟩
  · have hne : (x != 0) = true := by simp [hx0]
    go_wp2
    go_ret
    exact ⟨x, rfl, .inl ⟨hx0, HX.out⟩, HB.out⟩
/-- a place within the shape -/
def PlaceP (s : Nat → Int) (g k r : Int) : Prop := InP g 0 (s 0 + s 1 - 1) ∧ InP k 0 (s 2 + s 3 - 1) ∧ InP r 0 (s 4 - 1)
theorem size_S : (Tryz.prog.info? 34).map (·.size) = some 9 := by kernel_rfl
set_option maxHeartbeats 4000000 in
set_option maxRecDepth 20000 in
theorem l5Place_any (s : Nat → Int) (hok : OkShape s) (g k r : Int) (w : World) : Calls Tryz.prog 49 #[shapeV s, .int .i64 g, .int .i64 k, .int .i64 r] w (BoolP (PlaceP s g k r) w) := by
  have hb := okB hok
  obtain ⟨t1, h1⟩ := exB (InP g 0 (s 0 + s 1 - 1))
  obtain ⟨t2, h2⟩ := exB (InP k 0 (s 2 + s 3 - 1))
  obtain ⟨t3, h3⟩ := exB (InP r 0 (s 4 - 1))
  have CA := fun w' => l5All_any s hok w'
  have CD := fun w' => l5Drives_any s hok w'
  have C1 := fun w' => l1In_b (w := w') h1
  have C2 := fun w' => l1In_b (w := w') h2
  have C3 := fun w' => l1In_b (w := w') h3
  have HE : Hid (PlaceP s g k r ↔ (t1 = true ∧ t2 = true ∧ t3 = true)) := by
    show PlaceP s g k r ↔ _
    rw [h1, h2, h3]
    exact Iff.rfl
  have T0 := one_new w #[.int .i64 (s 0), .int .i64 (s 1), .int .i64 (s 2), .int .i64 (s 3), .int .i64 (s 4), .int .i64 (s 5), .int .i64 (s 6), .int .i64 (s 7), .int .i64 (s 8)] 34
  unfold shapeV at CA CD ⊢
  clear h1 h2 h3 hok
  go_enter Tryz.func49, Tryz.ntmps49
  go_wp2_with (refine wp_loadBox 34 (.tmp 4) rfl rfl w.heap.size rfl (cs := [.int .i64 (s 0), .int .i64 (s 1), .int .i64 (s 2), .int .i64 (s 3), .int .i64 (s 4), .int .i64 (s 5), .int .i64 (s 6), .int .i64 (s 7), .int .i64 (s 8)]) T0.b1 Tryz.underlying34 size_S rfl ?_)
  refine (CA _).mono ?_
  rintro e w1 ⟨rfl, b1⟩
  have T1 := T0.call b1
  have HT1 : Hid (One w w1 #[.int .i64 (s 0), .int .i64 (s 1), .int .i64 (s 2), .int .i64 (s 3), .int .i64 (s 4), .int .i64 (s 5), .int .i64 (s 6), .int .i64 (s 7), .int .i64 (s 8)] 34) := T1
  have z1 : IntKind.i64.wrap (s 0 + s 1 - 1) = s 0 + s 1 - 1 := by rw [IntKind.wrap_i64]; omega
  have z2 : IntKind.i64.wrap (s 2 + s 3 - 1) = s 2 + s 3 - 1 := by rw [IntKind.wrap_i64]; omega
  have z3 : IntKind.i64.wrap (s 4 - 1) = s 4 - 1 := by rw [IntKind.wrap_i64]; omega
  have x_0 : w1.cell? ⟨w.heap.size, 0, none⟩ = some (.int .i64 (s 0)) := T1.b1.cell 0
  have x_1 : w1.cell? ⟨w.heap.size, 1, none⟩ = some (.int .i64 (s 1)) := T1.b1.cell 1
  have x_2 : w1.cell? ⟨w.heap.size, 2, none⟩ = some (.int .i64 (s 2)) := T1.b1.cell 2
  have x_3 : w1.cell? ⟨w.heap.size, 3, none⟩ = some (.int .i64 (s 3)) := T1.b1.cell 3
  have x_4 : w1.cell? ⟨w.heap.size, 4, none⟩ = some (.int .i64 (s 4)) := T1.b1.cell 4
  have x_5 : w1.cell? ⟨w.heap.size, 5, none⟩ = some (.int .i64 (s 5)) := T1.b1.cell 5
  have x_6 : w1.cell? ⟨w.heap.size, 6, none⟩ = some (.int .i64 (s 6)) := T1.b1.cell 6
  have x_7 : w1.cell? ⟨w.heap.size, 7, none⟩ = some (.int .i64 (s 7)) := T1.b1.cell 7
  have x_8 : w1.cell? ⟨w.heap.size, 8, none⟩ = some (.int .i64 (s 8)) := T1.b1.cell 8
  clear T0 b1 T1
  go_wp2_with fail
  refine (C1 _).mono ?_
  rintro e w' ⟨rfl, hw'⟩
  obtain rfl := hw'.symm
  cases t1 with
  | false =>
    go_wp2
    go_ret
    exact boolNo rfl (fun h => by have := HE.out.1 h; simp at this) HT1.out.bel
  | true =>
  go_wp2_with fail
  refine (CD _).mono ?_
  rintro e w2 ⟨rfl, b2⟩
  have T2 := HT1.out.call b2
  have HB2 : Hid (Below w.heap.size w w2) := T2.bel
  have y4 : w2.cell? ⟨w.heap.size, 4, none⟩ = some (.int .i64 (s 4)) := T2.b1.cell 4
  clear b2 T2 x_0 x_1 x_2 x_3 x_4 x_5 x_6 x_7 x_8
  go_wp2_with fail
  refine (C2 _).mono ?_
  rintro e w' ⟨rfl, hw'⟩
  obtain rfl := hw'.symm
  cases t2 with
  | false =>
    go_wp2
    go_ret
    exact boolNo rfl (fun h => by have := HE.out.1 h; simp at this) HB2.out
  | true =>
  go_wp2_with fail
  refine (C3 _).mono ?_
  rintro e w' ⟨rfl, hw'⟩
  obtain rfl := hw'.symm
  cases t3 with
  | false =>
    go_wp2
    go_ret
    exact boolNo rfl (fun h => by have := HE.out.1 h; simp at this) HB2.out
  | true =>
    go_wp2
    go_ret
    exact boolYes rfl (HE.out.2 (by simp)) HB2.out
set_option maxHeartbeats 4000000 in
set_option maxRecDepth 20000 in
theorem isOn_any (d : WorldD) (cs : List Value) (hi : Nat) (g : Int) (w : World) (h : layWorld.rd w hi d cs) (hhi : hi ≤ w.heap.size) : Calls Tryz.prog 78 #[.agg cs.toArray, .int .i64 g] w (BoolP (HasP d.on.1 d.on.2 g) w) := by
  obtain ⟨ao1, cap1, ao2, cap2, ao3, cap3, rfl, g1, g2, g3, -⟩ := World_rd h
  obtain ⟨_, e2, ⟨h2, _⟩, _⟩ := g2
  cases e2
  have T0 := one_new w #[.int .i64 (d.shape 0), .int .i64 (d.shape 1), .int .i64 (d.shape 2), .int .i64 (d.shape 3), .int .i64 (d.shape 4), .int .i64 (d.shape 5), .int .i64 (d.shape 6), .int .i64 (d.shape 7), .int .i64 (d.shape 8), .slice ao1 d.groups.1 cap1, .slice ao2 d.on.1 cap2, .slice ao3 d.tapes.1 cap3, .int .i64 d.writes, .int .i64 d.stop, .bool d.down] 38
  have C := contains_any (.slice ao2 d.on.1 cap2) d.on.1 d.on.2 hi g _ (h2.below T0.bel hhi)
  clear h g1 g3 h2
  go_enter Tryz.func78, Tryz.ntmps78
  go_wp2_with fail
  refine C.mono ?_
  rintro e w1 ⟨b, rfl, hb, b1⟩
  have HP : Hid (b = true ↔ HasP d.on.1 d.on.2 g) := hb
  have HB : Hid (Below w.heap.size w w1) := (T0.call b1).bel
  clear b1 T0 C hb
  go_wp2
  go_ret
  exact ⟨b, rfl, HP.out, HB.out⟩
end Go.Proofs.YtngofdoojoaekaaGreat

namespace Go.Proofs.YtngofdoojoaekaaGreat
open Go.RowKit F256
set_option linter.unusedVariables false
set_option linter.unusedSimpArgs false
def zeroBl : BlockD := ⟨0, (0, fun _ => 0)⟩
def drvAt (d : WorldD) (g k : Int) : DriveD := (d.groups.2 g.toNat).2 k.toNat
def ReadAns (d : WorldD) (g k r : Int) (q : BlockResultD) : Prop :=
  (∃ x, x ≠ 0 ∧ AskAns d x ∧ q = ⟨x, zeroBl⟩) ∨ (AskAns d 0 ∧ ((¬ PlaceP d.shape g k r ∧ q = ⟨3, zeroBl⟩) ∨ (PlaceP d.shape g k r ∧ ((¬ HasP d.on.1 d.on.2 g ∧ q = ⟨8, zeroBl⟩) ∨ (HasP d.on.1 d.on.2 g ∧
    (((drvAt d g k).wiped = true ∧ q = ⟨12, zeroBl⟩) ∨ ((drvAt d g k).wiped = false ∧ q = ⟨0, (drvAt d g k).blocks.2 r.toNat⟩)))))))
theorem ReadAns.one {d : WorldD} {g k r : Int} {p q : BlockResultD} (h : ReadAns d g k r p) (l : ReadAns d g k r q) : p = q := by
  rcases h with ⟨x, h1, h2, rfl⟩ | ⟨h1, h⟩ <;> rcases l with ⟨y, l1, l2, rfl⟩ | ⟨l1, l⟩
  · rw [h2.one l2]
  · exact absurd (h2.one l1) h1
  · exact absurd (l2.one h1) l1
  · rcases h with ⟨h2, rfl⟩ | ⟨h2, h⟩ <;> rcases l with ⟨l2, rfl⟩ | ⟨l2, l⟩
    · rfl
    · exact absurd l2 h2
    · exact absurd h2 l2
    · rcases h with ⟨h3, rfl⟩ | ⟨h3, h⟩ <;> rcases l with ⟨l3, rfl⟩ | ⟨l3, l⟩
      · rfl
      · exact absurd l3 h3
      · exact absurd h3 l3
      · rcases h with ⟨h4, rfl⟩ | ⟨h4, rfl⟩ <;> rcases l with ⟨l4, rfl⟩ | ⟨l4, rfl⟩
        · rfl
        · rw [h4] at l4; cases l4
        · rw [h4] at l4; cases l4
        · rfl
theorem ask_small {d : WorldD} {x : Int} (h : AskAns d x) : (-9223372036854775808 ≤ x ∧ x ≤ 9223372036854775807) := by
  rcases h with ⟨_, h⟩ | ⟨_, h | h⟩
  · exact wld_small h
  · rw [h.2]; decide
  · rw [h.2]; decide
theorem ask_ok {d : WorldD} (h : AskAns d 0) : OkWorld d := by
  rcases h with ⟨h, _⟩ | ⟨h, _⟩
  · exact absurd rfl h
  · exact h.ok
end Go.Proofs.YtngofdoojoaekaaGreat

namespace Go.Proofs.YtngofdoojoaekaaGreat
open Go.RowKit F256
set_option linter.unusedVariables false
set_option linter.unusedSimpArgs false
/-- a group and a row of it -/
def WhP (s : Nat → Int) (g r : Int) : Prop := InP g 0 (s 0 + s 1 - 1) ∧ InP r 0 (s 4 - 1)
theorem place_wh {s : Nat → Int} (h : OkShape s) (g r : Int) : PlaceP s g 0 r ↔ WhP s g r := by
  obtain ⟨s1, s2, _⟩ := h
  unfold Shp at s2
  unfold PlaceP WhP
  constructor
  · rintro ⟨a, b, c⟩; exact ⟨a, c⟩
  · rintro ⟨a, c⟩; exact ⟨a, by unfold InP; omega, c⟩
def WhereAns (d : WorldD) (g r x : Int) : Prop := (x ≠ 0 ∧ AskAns d x) ∨ (AskAns d 0 ∧ ((¬ WhP d.shape g r ∧ x = 3) ∨ (WhP d.shape g r ∧ ((¬ HasP d.on.1 d.on.2 g ∧ x = 8) ∨ (HasP d.on.1 d.on.2 g ∧ x = 0)))))
theorem WhereAns.one {d : WorldD} {g r x y : Int} (h : WhereAns d g r x) (l : WhereAns d g r y) : x = y := by
  rcases h with ⟨h1, h2⟩ | ⟨h1, h⟩ <;> rcases l with ⟨k1, k2⟩ | ⟨k1, l⟩
  · exact h2.one k2
  · exact absurd (h2.one k1) h1
  · exact absurd (k2.one h1) k1
  · rcases h with ⟨h2, rfl⟩ | ⟨h2, h⟩ <;> rcases l with ⟨k2, rfl⟩ | ⟨k2, l⟩
    · rfl
    · exact absurd k2 h2
    · exact absurd h2 k2
    · rcases h with ⟨h3, rfl⟩ | ⟨h3, rfl⟩ <;> rcases l with ⟨k3, rfl⟩ | ⟨k3, rfl⟩
      · rfl
      · exact absurd k3 h3
      · exact absurd h3 k3
      · rfl
theorem where_small {d : WorldD} {g r x : Int} (h : WhereAns d g r x) : -9223372036854775808 ≤ x ∧ x ≤ 9223372036854775807 := by
  rcases h with ⟨_, h⟩ | ⟨_, ⟨_, rfl⟩ | ⟨_, ⟨_, rfl⟩ | ⟨_, rfl⟩⟩⟩
  · exact ask_small h
  · decide
  · decide
  · decide
def CodeP (P : Int → Prop) (w : World) (e : Ending) (w' : World) : Prop := ∃ x, e = .returned (.int .i64 x) ∧ P x ∧ Below w.heap.size w w'
set_option maxHeartbeats 8000000 in
set_option maxRecDepth 20000 in
theorem onFault_any (d : WorldD) (g : Int) (cs : List Value) (hi : Nat) (w : World) (h : layWorld.rd w hi d cs) (hhi : hi ≤ w.heap.size) (hok : OkShape d.shape) :
    Calls Tryz.prog 55 #[.agg cs.toArray, .int .i64 g] w (CodeP (fun x => (¬ InP g 0 (d.shape 0 + d.shape 1 - 1) ∧ x = 3) ∨ (InP g 0 (d.shape 0 + d.shape 1 - 1) ∧ ((¬ HasP d.on.1 d.on.2 g ∧ x = 8) ∨ (HasP d.on.1 d.on.2 g ∧ x = 0)))) w) := by
  have h' := h
  obtain ⟨ao1, cap1, ao2, cap2, ao3, cap3, rfl, g1, g2, g3, k0, k4, k5⟩ := World_rd h'
  have HRD : Hid (layWorld.rd w hi d [.int .i64 (d.shape 0), .int .i64 (d.shape 1), .int .i64 (d.shape 2), .int .i64 (d.shape 3), .int .i64 (d.shape 4), .int .i64 (d.shape 5), .int .i64 (d.shape 6), .int .i64 (d.shape 7), .int .i64 (d.shape 8), .slice ao1 d.groups.1 cap1, .slice ao2 d.on.1 cap2, .slice ao3 d.tapes.1 cap3, .int .i64 d.writes, .int .i64 d.stop, .bool d.down]) := h
  have HG2 : Hid (RdI w hi (.slice ao2 d.on.1 cap2) d.on.1 d.on.2) := by
    obtain ⟨_, e2, ⟨h2, _⟩, _⟩ := g2
    cases e2
    exact h2
  clear h h' g1 g2 g3 k0 k4 k5
  have T0 := one_new w #[.int .i64 (d.shape 0), .int .i64 (d.shape 1), .int .i64 (d.shape 2), .int .i64 (d.shape 3), .int .i64 (d.shape 4), .int .i64 (d.shape 5), .int .i64 (d.shape 6), .int .i64 (d.shape 7), .int .i64 (d.shape 8), .slice ao1 d.groups.1 cap1, .slice ao2 d.on.1 cap2, .slice ao3 d.tapes.1 cap3, .int .i64 d.writes, .int .i64 d.stop, .bool d.down] 38
  have HT : Hid (One w (w.alloc (.cells #[.int .i64 (d.shape 0), .int .i64 (d.shape 1), .int .i64 (d.shape 2), .int .i64 (d.shape 3), .int .i64 (d.shape 4), .int .i64 (d.shape 5), .int .i64 (d.shape 6), .int .i64 (d.shape 7), .int .i64 (d.shape 8), .slice ao1 d.groups.1 cap1, .slice ao2 d.on.1 cap2, .slice ao3 d.tapes.1 cap3, .int .i64 d.writes, .int .i64 d.stop, .bool d.down] 38)) #[.int .i64 (d.shape 0), .int .i64 (d.shape 1), .int .i64 (d.shape 2), .int .i64 (d.shape 3), .int .i64 (d.shape 4), .int .i64 (d.shape 5), .int .i64 (d.shape 6), .int .i64 (d.shape 7), .int .i64 (d.shape 8), .slice ao1 d.groups.1 cap1, .slice ao2 d.on.1 cap2, .slice ao3 d.tapes.1 cap3, .int .i64 d.writes, .int .i64 d.stop, .bool d.down] 38) := T0
  obtain ⟨t, ht⟩ := exB (InP g 0 (d.shape 0 + d.shape 1 - 1))
  have Ht : Hid (t = true ↔ InP g 0 (d.shape 0 + d.shape 1 - 1)) := ht
  have CI := isGroup_b hok ht (w.alloc (.cells #[.int .i64 (d.shape 0), .int .i64 (d.shape 1), .int .i64 (d.shape 2), .int .i64 (d.shape 3), .int .i64 (d.shape 4), .int .i64 (d.shape 5), .int .i64 (d.shape 6), .int .i64 (d.shape 7), .int .i64 (d.shape 8), .slice ao1 d.groups.1 cap1, .slice ao2 d.on.1 cap2, .slice ao3 d.tapes.1 cap3, .int .i64 d.writes, .int .i64 d.stop, .bool d.down] 38))
  unfold shapeV at CI
  have x_0 : (w.alloc (.cells #[.int .i64 (d.shape 0), .int .i64 (d.shape 1), .int .i64 (d.shape 2), .int .i64 (d.shape 3), .int .i64 (d.shape 4), .int .i64 (d.shape 5), .int .i64 (d.shape 6), .int .i64 (d.shape 7), .int .i64 (d.shape 8), .slice ao1 d.groups.1 cap1, .slice ao2 d.on.1 cap2, .slice ao3 d.tapes.1 cap3, .int .i64 d.writes, .int .i64 d.stop, .bool d.down] 38)).cell? ⟨w.heap.size, 0, none⟩ = some (.int .i64 (d.shape 0)) := T0.b1.cell 0
  have x_1 : (w.alloc (.cells #[.int .i64 (d.shape 0), .int .i64 (d.shape 1), .int .i64 (d.shape 2), .int .i64 (d.shape 3), .int .i64 (d.shape 4), .int .i64 (d.shape 5), .int .i64 (d.shape 6), .int .i64 (d.shape 7), .int .i64 (d.shape 8), .slice ao1 d.groups.1 cap1, .slice ao2 d.on.1 cap2, .slice ao3 d.tapes.1 cap3, .int .i64 d.writes, .int .i64 d.stop, .bool d.down] 38)).cell? ⟨w.heap.size, 1, none⟩ = some (.int .i64 (d.shape 1)) := T0.b1.cell 1
  have x_2 : (w.alloc (.cells #[.int .i64 (d.shape 0), .int .i64 (d.shape 1), .int .i64 (d.shape 2), .int .i64 (d.shape 3), .int .i64 (d.shape 4), .int .i64 (d.shape 5), .int .i64 (d.shape 6), .int .i64 (d.shape 7), .int .i64 (d.shape 8), .slice ao1 d.groups.1 cap1, .slice ao2 d.on.1 cap2, .slice ao3 d.tapes.1 cap3, .int .i64 d.writes, .int .i64 d.stop, .bool d.down] 38)).cell? ⟨w.heap.size, 2, none⟩ = some (.int .i64 (d.shape 2)) := T0.b1.cell 2
  have x_3 : (w.alloc (.cells #[.int .i64 (d.shape 0), .int .i64 (d.shape 1), .int .i64 (d.shape 2), .int .i64 (d.shape 3), .int .i64 (d.shape 4), .int .i64 (d.shape 5), .int .i64 (d.shape 6), .int .i64 (d.shape 7), .int .i64 (d.shape 8), .slice ao1 d.groups.1 cap1, .slice ao2 d.on.1 cap2, .slice ao3 d.tapes.1 cap3, .int .i64 d.writes, .int .i64 d.stop, .bool d.down] 38)).cell? ⟨w.heap.size, 3, none⟩ = some (.int .i64 (d.shape 3)) := T0.b1.cell 3
  have x_4 : (w.alloc (.cells #[.int .i64 (d.shape 0), .int .i64 (d.shape 1), .int .i64 (d.shape 2), .int .i64 (d.shape 3), .int .i64 (d.shape 4), .int .i64 (d.shape 5), .int .i64 (d.shape 6), .int .i64 (d.shape 7), .int .i64 (d.shape 8), .slice ao1 d.groups.1 cap1, .slice ao2 d.on.1 cap2, .slice ao3 d.tapes.1 cap3, .int .i64 d.writes, .int .i64 d.stop, .bool d.down] 38)).cell? ⟨w.heap.size, 4, none⟩ = some (.int .i64 (d.shape 4)) := T0.b1.cell 4
  have x_5 : (w.alloc (.cells #[.int .i64 (d.shape 0), .int .i64 (d.shape 1), .int .i64 (d.shape 2), .int .i64 (d.shape 3), .int .i64 (d.shape 4), .int .i64 (d.shape 5), .int .i64 (d.shape 6), .int .i64 (d.shape 7), .int .i64 (d.shape 8), .slice ao1 d.groups.1 cap1, .slice ao2 d.on.1 cap2, .slice ao3 d.tapes.1 cap3, .int .i64 d.writes, .int .i64 d.stop, .bool d.down] 38)).cell? ⟨w.heap.size, 5, none⟩ = some (.int .i64 (d.shape 5)) := T0.b1.cell 5
  have x_6 : (w.alloc (.cells #[.int .i64 (d.shape 0), .int .i64 (d.shape 1), .int .i64 (d.shape 2), .int .i64 (d.shape 3), .int .i64 (d.shape 4), .int .i64 (d.shape 5), .int .i64 (d.shape 6), .int .i64 (d.shape 7), .int .i64 (d.shape 8), .slice ao1 d.groups.1 cap1, .slice ao2 d.on.1 cap2, .slice ao3 d.tapes.1 cap3, .int .i64 d.writes, .int .i64 d.stop, .bool d.down] 38)).cell? ⟨w.heap.size, 6, none⟩ = some (.int .i64 (d.shape 6)) := T0.b1.cell 6
  have x_7 : (w.alloc (.cells #[.int .i64 (d.shape 0), .int .i64 (d.shape 1), .int .i64 (d.shape 2), .int .i64 (d.shape 3), .int .i64 (d.shape 4), .int .i64 (d.shape 5), .int .i64 (d.shape 6), .int .i64 (d.shape 7), .int .i64 (d.shape 8), .slice ao1 d.groups.1 cap1, .slice ao2 d.on.1 cap2, .slice ao3 d.tapes.1 cap3, .int .i64 d.writes, .int .i64 d.stop, .bool d.down] 38)).cell? ⟨w.heap.size, 7, none⟩ = some (.int .i64 (d.shape 7)) := T0.b1.cell 7
  have x_8 : (w.alloc (.cells #[.int .i64 (d.shape 0), .int .i64 (d.shape 1), .int .i64 (d.shape 2), .int .i64 (d.shape 3), .int .i64 (d.shape 4), .int .i64 (d.shape 5), .int .i64 (d.shape 6), .int .i64 (d.shape 7), .int .i64 (d.shape 8), .slice ao1 d.groups.1 cap1, .slice ao2 d.on.1 cap2, .slice ao3 d.tapes.1 cap3, .int .i64 d.writes, .int .i64 d.stop, .bool d.down] 38)).cell? ⟨w.heap.size, 8, none⟩ = some (.int .i64 (d.shape 8)) := T0.b1.cell 8
  clear ht T0
  go_enter Tryz.func55, Tryz.ntmps55
  go_wp2_with fail
  refine CI.mono ?_
  rintro e w2 ⟨rfl, b2⟩
  have HT2 : Hid (One w w2 #[.int .i64 (d.shape 0), .int .i64 (d.shape 1), .int .i64 (d.shape 2), .int .i64 (d.shape 3), .int .i64 (d.shape 4), .int .i64 (d.shape 5), .int .i64 (d.shape 6), .int .i64 (d.shape 7), .int .i64 (d.shape 8), .slice ao1 d.groups.1 cap1, .slice ao2 d.on.1 cap2, .slice ao3 d.tapes.1 cap3, .int .i64 d.writes, .int .i64 d.stop, .bool d.down] 38) := HT.out.call b2
  clear CI b2 HT x_0 x_1 x_2 x_3 x_4 x_5 x_6 x_7 x_8
  cases t with
  | false =>
    go_wp2
    go_ret
    exact ⟨3, rfl, .inl ⟨fun h => (by have := Ht.out.2 h; cases this), rfl⟩, HT2.out.bel⟩
  | true =>
  go_wp2_with (refine wp_loadBox 38 (.tmp 2) rfl rfl (w.heap.size) rfl (cs := [.int .i64 (d.shape 0), .int .i64 (d.shape 1), .int .i64 (d.shape 2), .int .i64 (d.shape 3), .int .i64 (d.shape 4), .int .i64 (d.shape 5), .int .i64 (d.shape 6), .int .i64 (d.shape 7), .int .i64 (d.shape 8), .slice ao1 d.groups.1 cap1, .slice ao2 d.on.1 cap2, .slice ao3 d.tapes.1 cap3, .int .i64 d.writes, .int .i64 d.stop, .bool d.down]) (HT2.out.b1) Tryz.underlying38 size_W rfl ?_)
  refine (isOn_any d _ hi g _ (layWorld.rd_below HRD.out HT2.out.bel hhi) (Nat.le_trans hhi HT2.out.bel.size)).mono ?_
  rintro e w3 ⟨t, rfl, ht, b3⟩
  have HB : Hid (Below w.heap.size w w3) := (HT2.out.call b3).bel
  have HH : Hid (t = true ↔ HasP d.on.1 d.on.2 g) := ht
  clear ht b3 HT2
  cases t with
  | false =>
    go_wp2
    go_ret
    exact ⟨8, rfl, .inr ⟨Ht.out.1 (by simp), .inl ⟨fun h => (by have := HH.out.2 h; cases this), rfl⟩⟩, HB.out⟩
  | true =>
    go_wp2
    go_ret
    exact ⟨0, rfl, .inr ⟨Ht.out.1 (by simp), .inr ⟨HH.out.1 (by simp), rfl⟩⟩, HB.out⟩
set_option maxHeartbeats 8000000 in
set_option maxRecDepth 20000 in
theorem rowFault_any (d : WorldD) (g r : Int) (cs : List Value) (hi : Nat) (w : World) (h : layWorld.rd w hi d cs) (hhi : hi ≤ w.heap.size) (hsz : szWorldD d ≤ 1048576) :
    Calls Tryz.prog 28 #[.agg cs.toArray, .int .i64 g, .int .i64 r] w (CodeP (WhereAns d g r) w) := by
  have h' := h
  obtain ⟨ao1, cap1, ao2, cap2, ao3, cap3, rfl, g1, g2, g3, k0, k4, k5⟩ := World_rd h'
  have HRD : Hid (layWorld.rd w hi d [.int .i64 (d.shape 0), .int .i64 (d.shape 1), .int .i64 (d.shape 2), .int .i64 (d.shape 3), .int .i64 (d.shape 4), .int .i64 (d.shape 5), .int .i64 (d.shape 6), .int .i64 (d.shape 7), .int .i64 (d.shape 8), .slice ao1 d.groups.1 cap1, .slice ao2 d.on.1 cap2, .slice ao3 d.tapes.1 cap3, .int .i64 d.writes, .int .i64 d.stop, .bool d.down]) := h
  have HG2 : Hid (RdI w hi (.slice ao2 d.on.1 cap2) d.on.1 d.on.2) := by
    obtain ⟨_, e2, ⟨h2, _⟩, _⟩ := g2
    cases e2
    exact h2
  clear h h' g1 g2 g3 k0 k4 k5
  have T0 := one_new w #[.int .i64 (d.shape 0), .int .i64 (d.shape 1), .int .i64 (d.shape 2), .int .i64 (d.shape 3), .int .i64 (d.shape 4), .int .i64 (d.shape 5), .int .i64 (d.shape 6), .int .i64 (d.shape 7), .int .i64 (d.shape 8), .slice ao1 d.groups.1 cap1, .slice ao2 d.on.1 cap2, .slice ao3 d.tapes.1 cap3, .int .i64 d.writes, .int .i64 d.stop, .bool d.down] 38
  have HSZ : Hid (szWorldD d ≤ 1048576) := hsz
  clear hsz
  go_enter Tryz.func28, Tryz.ntmps28
  go_wp2_with (refine wp_loadBox 38 (.tmp 3) rfl rfl (w.heap.size) rfl (cs := [.int .i64 (d.shape 0), .int .i64 (d.shape 1), .int .i64 (d.shape 2), .int .i64 (d.shape 3), .int .i64 (d.shape 4), .int .i64 (d.shape 5), .int .i64 (d.shape 6), .int .i64 (d.shape 7), .int .i64 (d.shape 8), .slice ao1 d.groups.1 cap1, .slice ao2 d.on.1 cap2, .slice ao3 d.tapes.1 cap3, .int .i64 d.writes, .int .i64 d.stop, .bool d.down]) (T0.b1) Tryz.underlying38 size_W rfl ?_)
  refine (powered_any d _ hi _ (layWorld.rd_below HRD.out T0.bel hhi) (Nat.le_trans hhi T0.bel.size) HSZ.out).mono ?_
  rintro e w1 ⟨x, rfl, hx, b1⟩
  have HT1 : Hid (One w w1 #[.int .i64 (d.shape 0), .int .i64 (d.shape 1), .int .i64 (d.shape 2), .int .i64 (d.shape 3), .int .i64 (d.shape 4), .int .i64 (d.shape 5), .int .i64 (d.shape 6), .int .i64 (d.shape 7), .int .i64 (d.shape 8), .slice ao1 d.groups.1 cap1, .slice ao2 d.on.1 cap2, .slice ao3 d.tapes.1 cap3, .int .i64 d.writes, .int .i64 d.stop, .bool d.down] 38) := T0.call b1
  have HX : Hid (AskAns d x) := hx
  clear b1 T0 hx
  by_cases hx0 : x = 0
  case neg =>
    have hne : (x != 0) = true := by simp [hx0]
    go_wp2
    go_ret
    exact ⟨x, rfl, .inl ⟨hx0, HX.out⟩, HT1.out.bel⟩
  subst hx0
  have HOK : Hid (OkWorld d) := ask_ok HX.out
  have x_0 : w1.cell? ⟨w.heap.size, 0, none⟩ = some (.int .i64 (d.shape 0)) := HT1.out.b1.cell 0
  have x_1 : w1.cell? ⟨w.heap.size, 1, none⟩ = some (.int .i64 (d.shape 1)) := HT1.out.b1.cell 1
  have x_2 : w1.cell? ⟨w.heap.size, 2, none⟩ = some (.int .i64 (d.shape 2)) := HT1.out.b1.cell 2
  have x_3 : w1.cell? ⟨w.heap.size, 3, none⟩ = some (.int .i64 (d.shape 3)) := HT1.out.b1.cell 3
  have x_4 : w1.cell? ⟨w.heap.size, 4, none⟩ = some (.int .i64 (d.shape 4)) := HT1.out.b1.cell 4
  have x_5 : w1.cell? ⟨w.heap.size, 5, none⟩ = some (.int .i64 (d.shape 5)) := HT1.out.b1.cell 5
  have x_6 : w1.cell? ⟨w.heap.size, 6, none⟩ = some (.int .i64 (d.shape 6)) := HT1.out.b1.cell 6
  have x_7 : w1.cell? ⟨w.heap.size, 7, none⟩ = some (.int .i64 (d.shape 7)) := HT1.out.b1.cell 7
  have x_8 : w1.cell? ⟨w.heap.size, 8, none⟩ = some (.int .i64 (d.shape 8)) := HT1.out.b1.cell 8
  obtain ⟨t, ht⟩ := exB (InP r 0 (d.shape 4 - 1))
  have Ht : Hid (t = true ↔ InP r 0 (d.shape 4 - 1)) := ht
  have CI := isRow_b HOK.out.shape ht w1
  unfold shapeV at CI
  clear ht
  go_wp2_with fail
  refine CI.mono ?_
  rintro e w2 ⟨rfl, b2⟩
  have HT2 : Hid (One w w2 #[.int .i64 (d.shape 0), .int .i64 (d.shape 1), .int .i64 (d.shape 2), .int .i64 (d.shape 3), .int .i64 (d.shape 4), .int .i64 (d.shape 5), .int .i64 (d.shape 6), .int .i64 (d.shape 7), .int .i64 (d.shape 8), .slice ao1 d.groups.1 cap1, .slice ao2 d.on.1 cap2, .slice ao3 d.tapes.1 cap3, .int .i64 d.writes, .int .i64 d.stop, .bool d.down] 38) := HT1.out.call b2
  clear CI b2 HT1 x_0 x_1 x_2 x_3 x_4 x_5 x_6 x_7 x_8
  cases t with
  | false =>
    go_wp2
    go_ret
    exact ⟨3, rfl, .inr ⟨HX.out, .inl ⟨fun h => (by have := Ht.out.2 h.2; cases this), rfl⟩⟩, HT2.out.bel⟩
  | true =>
  go_wp2_with (refine wp_loadBox 38 (.tmp 3) rfl rfl (w.heap.size) rfl (cs := [.int .i64 (d.shape 0), .int .i64 (d.shape 1), .int .i64 (d.shape 2), .int .i64 (d.shape 3), .int .i64 (d.shape 4), .int .i64 (d.shape 5), .int .i64 (d.shape 6), .int .i64 (d.shape 7), .int .i64 (d.shape 8), .slice ao1 d.groups.1 cap1, .slice ao2 d.on.1 cap2, .slice ao3 d.tapes.1 cap3, .int .i64 d.writes, .int .i64 d.stop, .bool d.down]) (HT2.out.b1) Tryz.underlying38 size_W rfl ?_)
  refine (onFault_any d g _ hi _ (layWorld.rd_below HRD.out HT2.out.bel hhi) (Nat.le_trans hhi HT2.out.bel.size) HOK.out.shape).mono ?_
  rintro e w3 ⟨x, rfl, hx, b3⟩
  have HB : Hid (Below w.heap.size w w3) := (HT2.out.call b3).bel
  have HXX : Hid ((¬ InP g 0 (d.shape 0 + d.shape 1 - 1) ∧ x = 3) ∨ (InP g 0 (d.shape 0 + d.shape 1 - 1) ∧ ((¬ HasP d.on.1 d.on.2 g ∧ x = 8) ∨ (HasP d.on.1 d.on.2 g ∧ x = 0)))) := hx
  clear hx b3 HT2
  go_wp2
  go_ret
  refine ⟨x, rfl, .inr ⟨HX.out, ?_⟩, HB.out⟩
  have hr := Ht.out.1 (by simp)
  rcases HXX.out with ⟨h1, h2⟩ | ⟨h1, ⟨h2, h3⟩ | ⟨h2, h3⟩⟩
  · exact .inl ⟨fun h => h1 h.1, h2⟩
  · exact .inr ⟨⟨h1, hr⟩, .inl ⟨h2, h3⟩⟩
  · exact .inr ⟨⟨h1, hr⟩, .inr ⟨h2, h3⟩⟩
set_option maxHeartbeats 8000000 in
set_option maxRecDepth 20000 in
theorem l7Where_any (d : WorldD) (g r : Int) (cs : List Value) (hi : Nat) (w : World) (h : layWorld.rd w hi d cs) (hhi : hi ≤ w.heap.size) (hsz : szWorldD d ≤ 1048576) :
    Calls Tryz.prog 22 #[.agg cs.toArray, .int .i64 g, .int .i64 r] w (CodeP (WhereAns d g r) w) := by
  have h' := h
  obtain ⟨ao1, cap1, ao2, cap2, ao3, cap3, rfl, g1, g2, g3, k0, k4, k5⟩ := World_rd h'
  have HRD : Hid (layWorld.rd w hi d [.int .i64 (d.shape 0), .int .i64 (d.shape 1), .int .i64 (d.shape 2), .int .i64 (d.shape 3), .int .i64 (d.shape 4), .int .i64 (d.shape 5), .int .i64 (d.shape 6), .int .i64 (d.shape 7), .int .i64 (d.shape 8), .slice ao1 d.groups.1 cap1, .slice ao2 d.on.1 cap2, .slice ao3 d.tapes.1 cap3, .int .i64 d.writes, .int .i64 d.stop, .bool d.down]) := h
  have HG2 : Hid (RdI w hi (.slice ao2 d.on.1 cap2) d.on.1 d.on.2) := by
    obtain ⟨_, e2, ⟨h2, _⟩, _⟩ := g2
    cases e2
    exact h2
  clear h h' g1 g2 g3 k0 k4 k5
  have T0 := one_new w #[.int .i64 (d.shape 0), .int .i64 (d.shape 1), .int .i64 (d.shape 2), .int .i64 (d.shape 3), .int .i64 (d.shape 4), .int .i64 (d.shape 5), .int .i64 (d.shape 6), .int .i64 (d.shape 7), .int .i64 (d.shape 8), .slice ao1 d.groups.1 cap1, .slice ao2 d.on.1 cap2, .slice ao3 d.tapes.1 cap3, .int .i64 d.writes, .int .i64 d.stop, .bool d.down] 38
  have HSZ : Hid (szWorldD d ≤ 1048576) := hsz
  clear hsz
  go_enter Tryz.func22, Tryz.ntmps22
  go_wp2_with (refine wp_loadBox 38 (.tmp 3) rfl rfl (w.heap.size) rfl (cs := [.int .i64 (d.shape 0), .int .i64 (d.shape 1), .int .i64 (d.shape 2), .int .i64 (d.shape 3), .int .i64 (d.shape 4), .int .i64 (d.shape 5), .int .i64 (d.shape 6), .int .i64 (d.shape 7), .int .i64 (d.shape 8), .slice ao1 d.groups.1 cap1, .slice ao2 d.on.1 cap2, .slice ao3 d.tapes.1 cap3, .int .i64 d.writes, .int .i64 d.stop, .bool d.down]) (T0.b1) Tryz.underlying38 size_W rfl ?_)
  refine (l5Asked_any d _ hi _ (layWorld.rd_below HRD.out T0.bel hhi) (Nat.le_trans hhi T0.bel.size) HSZ.out).mono ?_
  rintro e w1 ⟨x, rfl, hx, b1⟩
  have HT1 : Hid (One w w1 #[.int .i64 (d.shape 0), .int .i64 (d.shape 1), .int .i64 (d.shape 2), .int .i64 (d.shape 3), .int .i64 (d.shape 4), .int .i64 (d.shape 5), .int .i64 (d.shape 6), .int .i64 (d.shape 7), .int .i64 (d.shape 8), .slice ao1 d.groups.1 cap1, .slice ao2 d.on.1 cap2, .slice ao3 d.tapes.1 cap3, .int .i64 d.writes, .int .i64 d.stop, .bool d.down] 38) := T0.call b1
  have HX : Hid (AskAns d x) := hx
  clear b1 T0 hx
  by_cases hx0 : x = 0
  case neg =>
    have hne : (x != 0) = true := by simp [hx0]
    go_wp2
    go_ret
    exact ⟨x, rfl, .inl ⟨hx0, HX.out⟩, HT1.out.bel⟩
  subst hx0
  have HOK : Hid (OkWorld d) := ask_ok HX.out
  have x_0 : w1.cell? ⟨w.heap.size, 0, none⟩ = some (.int .i64 (d.shape 0)) := HT1.out.b1.cell 0
  have x_1 : w1.cell? ⟨w.heap.size, 1, none⟩ = some (.int .i64 (d.shape 1)) := HT1.out.b1.cell 1
  have x_2 : w1.cell? ⟨w.heap.size, 2, none⟩ = some (.int .i64 (d.shape 2)) := HT1.out.b1.cell 2
  have x_3 : w1.cell? ⟨w.heap.size, 3, none⟩ = some (.int .i64 (d.shape 3)) := HT1.out.b1.cell 3
  have x_4 : w1.cell? ⟨w.heap.size, 4, none⟩ = some (.int .i64 (d.shape 4)) := HT1.out.b1.cell 4
  have x_5 : w1.cell? ⟨w.heap.size, 5, none⟩ = some (.int .i64 (d.shape 5)) := HT1.out.b1.cell 5
  have x_6 : w1.cell? ⟨w.heap.size, 6, none⟩ = some (.int .i64 (d.shape 6)) := HT1.out.b1.cell 6
  have x_7 : w1.cell? ⟨w.heap.size, 7, none⟩ = some (.int .i64 (d.shape 7)) := HT1.out.b1.cell 7
  have x_8 : w1.cell? ⟨w.heap.size, 8, none⟩ = some (.int .i64 (d.shape 8)) := HT1.out.b1.cell 8
  have CP := l5Place_any d.shape HOK.out.shape g 0 r w1
  unfold shapeV at CP
  go_wp2_with fail
  refine CP.mono ?_
  rintro e w2 ⟨t, rfl, ht, b2⟩
  have Ht : Hid (t = true ↔ WhP d.shape g r) := ht.trans (place_wh HOK.out.shape g r)
  have HT2 : Hid (One w w2 #[.int .i64 (d.shape 0), .int .i64 (d.shape 1), .int .i64 (d.shape 2), .int .i64 (d.shape 3), .int .i64 (d.shape 4), .int .i64 (d.shape 5), .int .i64 (d.shape 6), .int .i64 (d.shape 7), .int .i64 (d.shape 8), .slice ao1 d.groups.1 cap1, .slice ao2 d.on.1 cap2, .slice ao3 d.tapes.1 cap3, .int .i64 d.writes, .int .i64 d.stop, .bool d.down] 38) := HT1.out.call b2
  clear CP b2 ht HT1 x_0 x_1 x_2 x_3 x_4 x_5 x_6 x_7 x_8
  cases t with
  | false =>
    go_wp2
    go_ret
    exact ⟨3, rfl, .inr ⟨HX.out, .inl ⟨fun h => (by have := Ht.out.2 h; cases this), rfl⟩⟩, HT2.out.bel⟩
  | true =>
  have x10 : w2.cell? ⟨w.heap.size, 10, none⟩ = some (.slice ao2 d.on.1 cap2) := HT2.out.b1.cell 10
  have CH := l1Has_any _ _ _ hi g w2 (HG2.out.below HT2.out.bel hhi)
  go_wp2_with fail
  refine CH.mono ?_
  rintro e w3 ⟨t, rfl, ht, b3⟩
  have HB : Hid (Below w.heap.size w w3) := (HT2.out.call b3).bel
  have HH : Hid (t = true ↔ HasP d.on.1 d.on.2 g) := ht
  clear ht b3 HT2 CH x10
  cases t with
  | false =>
    go_wp2
    go_ret
    exact ⟨8, rfl, .inr ⟨HX.out, .inr ⟨Ht.out.1 (by simp), .inl ⟨fun h => (by have := HH.out.2 h; cases this), rfl⟩⟩⟩, HB.out⟩
  | true =>
    go_wp2
    go_ret
    exact ⟨0, rfl, .inr ⟨HX.out, .inr ⟨Ht.out.1 (by simp), .inr ⟨HH.out.1 (by simp), rfl⟩⟩⟩, HB.out⟩
end Go.Proofs.YtngofdoojoaekaaGreat

namespace Go.Proofs.YtngofdoojoaekaaGreat
open Go.RowKit F256
set_option linter.unusedVariables false
set_option linter.unusedSimpArgs false
theorem wh_at {d : WorldD} (h : OkWorld d) {g r : Int} (hp : WhP d.shape g r) : ∃ G R : Nat, g = (G : Int) ∧ r = (R : Int) ∧ G < d.groups.1 ∧ ∀ k, k < (d.groups.2 G).1 → R < ((d.groups.2 G).2 k).blocks.1 := by
  obtain ⟨hA, hC⟩ := hp
  have hf := h.form.1
  unfold InP at hA hC
  obtain ⟨G, rfl⟩ : ∃ G : Nat, g = (G : Int) := ⟨g.toNat, by omega⟩
  obtain ⟨R, rfl⟩ : ∃ R : Nat, r = (R : Int) := ⟨r.toNat, by omega⟩
  have hG : G < d.groups.1 := by have := hf.1; omega
  exact ⟨G, R, rfl, rfl, hG, fun k hk => by have := ((hf.2 G hG).2 k hk).1; omega⟩
theorem where_zero {d : WorldD} {g r : Int} (h : WhereAns d g r 0) : AskAns d 0 ∧ WhP d.shape g r := by
  rcases h with ⟨h, _⟩ | ⟨h1, ⟨_, h⟩ | ⟨h2, _⟩⟩
  · exact absurd rfl h
  · cases h
  · exact ⟨h1, h2⟩
end Go.Proofs.YtngofdoojoaekaaGreat

namespace Go.Proofs.YtngofdoojoaekaaGreat
open Go.RowKit F256
set_option linter.unusedVariables false
theorem chgL_setRow {w : World} (b : Nat) (cs : Array Value) : ChgL [b] w (w.setRow b cs) :=
  ⟨rfl, rfl, rfl, by simp, fun k _ hn => setRow_other w b k cs (fun h => hn (by simp [h]))⟩
/-- a whole struct is stored -/
theorem wp_storeBox {ops : Array Oper} {rest : List Oper} {o : Oper} {a : Act} {w : World} {Q : Exit → Act → World → Prop} (T : TypeId) (x y : Operand) (ho : o.op = .store T x y) (hgd : o.guard = none) (b : Nat) (hx : a.eval x = .pointer (some ⟨b, 0, none⟩)) {cs old : List Value} (hy : a.eval y = .agg cs.toArray) (hB : Box w b old.toArray T) {n : Nat} (hi : (Tryz.prog.info? T).map (·.size) = some n) (hl : cs.length = n) (hol : old.length = n) (h1 : ∀ v, v ∈ cs → v.oneCell' = true)
    (h : ∀ w', Box w' b cs.toArray T → ChgL [b] w w' → w'.heap.size = w.heap.size → wpList Tryz.prog ops Q rest (a.put o.dst undef) w') : wpList Tryz.prog ops Q (o :: rest) a w := by
  refine wpList_store_row hgd T x y ho b cs.toArray hx hy T old.toArray hB (by rw [hi]; simp [hl]) (by simp [hl, hol]) (by simp; exact h1) ?_
  exact h _ (setRow_heap w b _ cs.toArray T (0, 0) hB) (chgL_setRow b _) (by simp)
/-- a struct's block is told -/
theorem ret_box {fn : Func} {R : Ending → World → Prop} {a : Act} {w : World} {p : Tmp} {ty : TypeId} (h : fn.results = #[.cell p ty]) {b : Nat} {cs : List Value} (hp : a.tmps.getD p undef = .pointer (some ⟨b, 0, none⟩)) (hB : Box w b cs.toArray ty) {fs : Array Field} (hu : Tryz.prog.underlying ty = some (.struct fs)) {n : Nat} (hi : (Tryz.prog.info? ty).map (·.size) = some n) (hl : cs.length = n) (hd : a.defers = []) (hR : R (.returned (.agg cs.toArray)) w) : bodyPost Tryz.prog fn R .ret a w :=
  bodyPost_ret (results_cell_row h a.tmps w b ty cs.toArray (0, 0) (.struct fs) hp hB hu rfl (by rw [hi]; simp [hl])) hd hR
theorem OwnT.chgk {α : Type} {A : Lay α} {w w' : World} {lo hi : Nat} {a : α} {cs : List Value} {K : List Nat} (h : OwnT A w lo hi a cs) (hc : ChgL K w w') (hK : ∀ b, b ∈ K → b < lo ∨ hi ≤ b) : OwnT A w' lo hi a cs := by
  obtain ⟨M, h1, h2, h3⟩ := h
  exact ⟨M, A.own_kept h1 (fun b hb => hc.block b (A.own_lt h1 b hb) (fun hh => by have := hK b hh; have := h3 b hb; omega)), h2, h3⟩
end Go.Proofs.YtngofdoojoaekaaGreat

namespace Go.Proofs.YtngofdoojoaekaaGreat
open Go.RowKit F256
set_option linter.unusedVariables false
set_option linter.unusedSimpArgs false
structure RecsResultD where
  code : Int
  recs : Nat × (Nat → RecD)
structure BytesResultD where
  code : Int
  bytes : Nat × (Nat → Nat)
def layBytesResult : Lay BytesResultD := (layI.two layBytes).as fun d => (d.code, d.bytes)
theorem BytesResult_rd {w : World} {hi : Nat} {d : BytesResultD} {cs : List Value} (h : layBytesResult.rd w hi d cs) : ∃ ao1 cap1, cs = [.int .i64 d.code, .slice ao1 d.bytes.1 cap1] ∧ layBytes.rd w hi d.bytes [.slice ao1 d.bytes.1 cap1] ∧ (-9223372036854775808 ≤ d.code ∧ d.code ≤ 9223372036854775807) := by
  obtain ⟨c0, r0, rfl, h0, h1⟩ := h
  obtain ⟨rfl, k0⟩ := h0
  obtain ⟨ao1, cap1, rfl⟩ := bytes_form h1
  exact ⟨ao1, cap1, rfl, h1, k0⟩
theorem BytesResult_own {w : World} {d : BytesResultD} {cs : List Value} {L : List Nat} (h : layBytesResult.own w d cs L) : ∃ ao1 cap1 K1, cs = [.int .i64 d.code, .slice ao1 d.bytes.1 cap1] ∧ L = K1 ∧ layBytes.own w d.bytes [.slice ao1 d.bytes.1 cap1] K1 ∧ (-9223372036854775808 ≤ d.code ∧ d.code ≤ 9223372036854775807) := by
  obtain ⟨c0, r0, L0, M0, rfl, rfl, h0, h1⟩ := h
  obtain ⟨rfl, k0, rfl⟩ := h0
  obtain ⟨ao1, cap1, rfl⟩ := bytes_formO h1
  exact ⟨ao1, cap1, _, rfl, rfl, h1, k0⟩
theorem BytesResult_mk {w : World} (d : BytesResultD) {ao1 : Option Addr} {cap1 : Nat} {K1 : List Nat} (h1 : layBytes.own w d.bytes [.slice ao1 d.bytes.1 cap1] K1) (k0 : (-9223372036854775808 ≤ d.code ∧ d.code ≤ 9223372036854775807)) : layBytesResult.own w d [.int .i64 d.code, .slice ao1 d.bytes.1 cap1] (K1) := ⟨_, _, [], K1, rfl, rfl, ⟨rfl, k0, rfl⟩, h1⟩
def cvBytesResultD (d : BytesResultD) : Nat := lenD d.bytes
def mkvBytesResultD (j : Nat) (d : BytesResultD) : BytesResultD := ⟨d.code, mkBytes (j) d.bytes⟩
structure IntsResultD where
  code : Int
  list : Nat × (Nat → Int)
structure GroupsResultD where
  code : Int
  groups : Nat × (Nat → Int)
end Go.Proofs.YtngofdoojoaekaaGreat

namespace Go.Proofs.YtngofdoojoaekaaGreat
open Go.RowKit F256
set_option linter.unusedVariables false
set_option linter.unusedSimpArgs false
theorem size_Yr : (Tryz.prog.info? 32).map (·.size) = some 2 := by kernel_rfl
theorem yres_own {w : World} {lo hi n cap : Nat} {ao : Option Addr} {f : Nat → Nat} (h : Own w lo hi (.slice ao n cap) n f) (hhi : hi ≤ w.heap.size) (hb : ∀ i, f i < 256) (c : Int) (hc : -9223372036854775808 ≤ c ∧ c ≤ 9223372036854775807) : OwnT layBytesResult w lo hi ⟨c, (n, f)⟩ [.int .i64 c, .slice ao n cap] :=
  ⟨(Value.slice ao n cap).ownBlock.toList, BytesResult_mk ⟨c, (n, f)⟩ ⟨_, rfl, rfl, h.weaken (Nat.zero_le _) hhi, hb⟩ hc, by cases (Value.slice ao n cap).ownBlock <;> simp, fun b hb => by
    have e : (Value.slice ao n cap).ownBlock = some b := by simpa using hb
    exact ⟨(h.1.lt b e).1, h.2 b e⟩⟩
theorem ycode_own (w : World) (c : Int) (hc : -9223372036854775808 ≤ c ∧ c ≤ 9223372036854775807) (lo hi : Nat) (hhi : hi ≤ w.heap.size) : OwnT layBytesResult w lo hi ⟨c, (0, fun _ => 0)⟩ [.int .i64 c, .slice none 0 0] := yres_own (own_nil w lo hi _) hhi (fun _ => Nat.zero_lt_succ _) c hc
def YPost (P : BytesResultD → Prop) (w : World) (e : Ending) (w' : World) : Prop := ∃ q cs, e = .returned (.agg cs.toArray) ∧ P q ∧ OwnT layBytesResult w' w.heap.size w'.heap.size q cs ∧ Below w.heap.size w w'
theorem rowB_lt (d : WorldD) (G R : Nat) (i : Nat) : rowB d G R i < 256 := by
  unfold rowB decN blockN
  exact mixN_lt _ _ (weightsN_lt _ _ _ _) _ _
def RbAns (d : WorldD) (g r : Int) (q : BytesResultD) : Prop :=
  (∃ x, x ≠ 0 ∧ WhereAns d g r x ∧ q = ⟨x, (0, fun _ => 0)⟩) ∨ (WhereAns d g r 0 ∧ DeadP d g.toNat ∧ q = ⟨10, (0, fun _ => 0)⟩) ∨ (WhereAns d g r 0 ∧ ¬ DeadP d g.toNat ∧ q = ⟨0, (4 * (d.shape 2).toNat, rowB d g.toNat r.toNat)⟩)
theorem RbAns.one {d : WorldD} {g r : Int} {p q : BytesResultD} (h : RbAns d g r p) (k : RbAns d g r q) : p = q := by
  rcases h with ⟨x, h1, h2, rfl⟩ | ⟨h1, h2, rfl⟩ | ⟨h1, h2, rfl⟩ <;> rcases k with ⟨y, k1, k2, rfl⟩ | ⟨k1, k2, rfl⟩ | ⟨k1, k2, rfl⟩
  · rw [h2.one k2]
  · exact absurd (h2.one k1) h1
  · exact absurd (h2.one k1) h1
  · exact absurd (k2.one h1) k1
  · rfl
  · exact absurd h2 k2
  · exact absurd (k2.one h1) k1
  · exact absurd k2 h2
  · rfl
set_option maxHeartbeats 8000000 in
set_option maxRecDepth 20000 in
theorem implRowB_any (d : WorldD) (g r : Int) (cs : List Value) (hi : Nat) (w : World) (h : layWorld.rd w hi d cs) (hhi : hi ≤ w.heap.size) (hsz : szWorldD d ≤ 1048576) :
    Calls Tryz.prog 8 #[.agg cs.toArray, .int .i64 g, .int .i64 r] w (YPost (RbAns d g r) w) := by
  have h' := h
  obtain ⟨ao1, cap1, ao2, cap2, ao3, cap3, rfl, g1, g2, g3, k0, k4, k5⟩ := World_rd h'
  have HRD : Hid (layWorld.rd w hi d [.int .i64 (d.shape 0), .int .i64 (d.shape 1), .int .i64 (d.shape 2), .int .i64 (d.shape 3), .int .i64 (d.shape 4), .int .i64 (d.shape 5), .int .i64 (d.shape 6), .int .i64 (d.shape 7), .int .i64 (d.shape 8), .slice ao1 d.groups.1 cap1, .slice ao2 d.on.1 cap2, .slice ao3 d.tapes.1 cap3, .int .i64 d.writes, .int .i64 d.stop, .bool d.down]) := h
  clear h h' g1 g2 g3 k0 k4 k5
  have T0 := two_newb w #[.int .i64 (d.shape 0), .int .i64 (d.shape 1), .int .i64 (d.shape 2), .int .i64 (d.shape 3), .int .i64 (d.shape 4), .int .i64 (d.shape 5), .int .i64 (d.shape 6), .int .i64 (d.shape 7), .int .i64 (d.shape 8), .slice ao1 d.groups.1 cap1, .slice ao2 d.on.1 cap2, .slice ao3 d.tapes.1 cap3, .int .i64 d.writes, .int .i64 d.stop, .bool d.down] #[.int .i64 0, .slice none 0 0] 38 32
  go_enter Tryz.func8, Tryz.ntmps8
  go_wp2_with (refine wp_loadBox 38 (.tmp 3) rfl rfl (w.heap.size) rfl (cs := [.int .i64 (d.shape 0), .int .i64 (d.shape 1), .int .i64 (d.shape 2), .int .i64 (d.shape 3), .int .i64 (d.shape 4), .int .i64 (d.shape 5), .int .i64 (d.shape 6), .int .i64 (d.shape 7), .int .i64 (d.shape 8), .slice ao1 d.groups.1 cap1, .slice ao2 d.on.1 cap2, .slice ao3 d.tapes.1 cap3, .int .i64 d.writes, .int .i64 d.stop, .bool d.down]) (T0.b1) Tryz.underlying38 size_W rfl ?_)
  refine (rowFault_any d g r _ hi _ (layWorld.rd_below HRD.out T0.bel hhi) (Nat.le_trans hhi T0.bel.size) hsz).mono ?_
  rintro e w1 ⟨x, rfl, hx, b1⟩
  have HT1 : Hid (Two w w1 #[.int .i64 (d.shape 0), .int .i64 (d.shape 1), .int .i64 (d.shape 2), .int .i64 (d.shape 3), .int .i64 (d.shape 4), .int .i64 (d.shape 5), .int .i64 (d.shape 6), .int .i64 (d.shape 7), .int .i64 (d.shape 8), .slice ao1 d.groups.1 cap1, .slice ao2 d.on.1 cap2, .slice ao3 d.tapes.1 cap3, .int .i64 d.writes, .int .i64 d.stop, .bool d.down] #[.int .i64 0, .slice none 0 0] 38 32) := T0.call b1
  have HX : Hid (WhereAns d g r x) := hx
  have z1 : w.heap.size + 1 < w1.heap.size := HT1.out.b2.lt
  clear b1 T0 hx
  by_cases hx0 : x = 0
  case neg =>
    have hne : (x != 0) = true := by simp [hx0]
    go_wp2_with (refine wp_storeBox 32 _ _ rfl rfl (w.heap.size + 1) rfl (cs := [.int .i64 x, .slice none 0 0]) (old := [.int .i64 0, .slice none 0 0]) rfl (HT1.out.b2) size_Yr rfl rfl ((ycode_own w1 x (where_small HX.out) 0 0 (Nat.zero_le _)).one) ?_; intro w9 X9 C9 z9)
    refine ret_box Tryz.results8 rfl X9 Tryz.underlying32 size_Yr rfl rfl ?_
    have zz := C9.size
    exact ⟨_, _, rfl, .inl ⟨x, hx0, HX.out, rfl⟩, ycode_own w9 x (where_small HX.out) _ _ (Nat.le_refl _), HT1.out.bel.trans (C9.bel (fun b hb => by simp at hb; omega) HT1.out.bel.size)⟩
  subst hx0
  obtain ⟨ha, hw⟩ := where_zero HX.out
  have HOK : Hid (OkWorld d) := ask_ok ha
  obtain ⟨G, R, rfl, rfl, hG, hR⟩ := wh_at (ask_ok ha) hw
  have HR : Hid (∀ k, k < (d.groups.2 G).1 → R < ((d.groups.2 G).2 k).blocks.1) := hR
  clear ha hw hR
  have CD := isDead_any d [.int .i64 (d.shape 0), .int .i64 (d.shape 1), .int .i64 (d.shape 2), .int .i64 (d.shape 3), .int .i64 (d.shape 4), .int .i64 (d.shape 5), .int .i64 (d.shape 6), .int .i64 (d.shape 7), .int .i64 (d.shape 8), .slice ao1 d.groups.1 cap1, .slice ao2 d.on.1 cap2, .slice ao3 d.tapes.1 cap3, .int .i64 d.writes, .int .i64 d.stop, .bool d.down] hi G w1 (layWorld.rd_below HRD.out HT1.out.bel hhi) (Nat.le_trans hhi HT1.out.bel.size) hG
  go_wp2_with (refine wp_loadBox 38 (.tmp 3) rfl rfl (w.heap.size) rfl (cs := [.int .i64 (d.shape 0), .int .i64 (d.shape 1), .int .i64 (d.shape 2), .int .i64 (d.shape 3), .int .i64 (d.shape 4), .int .i64 (d.shape 5), .int .i64 (d.shape 6), .int .i64 (d.shape 7), .int .i64 (d.shape 8), .slice ao1 d.groups.1 cap1, .slice ao2 d.on.1 cap2, .slice ao3 d.tapes.1 cap3, .int .i64 d.writes, .int .i64 d.stop, .bool d.down]) (HT1.out.b1) Tryz.underlying38 size_W rfl ?_)
  refine CD.mono ?_
  rintro e w2 ⟨t, rfl, ht, b2⟩
  have HT2 : Hid (Two w w2 #[.int .i64 (d.shape 0), .int .i64 (d.shape 1), .int .i64 (d.shape 2), .int .i64 (d.shape 3), .int .i64 (d.shape 4), .int .i64 (d.shape 5), .int .i64 (d.shape 6), .int .i64 (d.shape 7), .int .i64 (d.shape 8), .slice ao1 d.groups.1 cap1, .slice ao2 d.on.1 cap2, .slice ao3 d.tapes.1 cap3, .int .i64 d.writes, .int .i64 d.stop, .bool d.down] #[.int .i64 0, .slice none 0 0] 38 32) := HT1.out.call b2
  have HD : Hid (t = true ↔ DeadP d G) := ht
  have z2 : w1.heap.size ≤ w2.heap.size := b2.size
  clear CD ht b2 HT1
  cases t with
  | true =>
    have hd : DeadP d G := HD.out.1 rfl
    have HDD : Hid (DeadP d G) := hd
    clear hd HD
    go_wp2_with (refine wp_storeBox 32 _ _ rfl rfl (w.heap.size + 1) rfl (cs := [.int .i64 10, .slice none 0 0]) (old := [.int .i64 0, .slice none 0 0]) rfl (HT2.out.b2) size_Yr rfl rfl ((ycode_own w2 10 (by decide) 0 0 (Nat.zero_le _)).one) ?_; intro w9 X9 C9 z9)
    refine ret_box Tryz.results8 rfl X9 Tryz.underlying32 size_Yr rfl rfl ?_
    have zz := C9.size
    exact ⟨_, _, rfl, .inr (.inl ⟨HX.out, HDD.out, rfl⟩), ycode_own w9 10 (by decide) _ _ (Nat.le_refl _), HT2.out.bel.trans (C9.bel (fun b hb => by simp at hb; omega) HT2.out.bel.size)⟩
  | false =>
    have hd : ¬ DeadP d G := fun hh => by have := HD.out.2 hh; cases this
    have HDD : Hid (¬ DeadP d G) := hd
    have CB := bytesInRow_any d [.int .i64 (d.shape 0), .int .i64 (d.shape 1), .int .i64 (d.shape 2), .int .i64 (d.shape 3), .int .i64 (d.shape 4), .int .i64 (d.shape 5), .int .i64 (d.shape 6), .int .i64 (d.shape 7), .int .i64 (d.shape 8), .slice ao1 d.groups.1 cap1, .slice ao2 d.on.1 cap2, .slice ao3 d.tapes.1 cap3, .int .i64 d.writes, .int .i64 d.stop, .bool d.down] hi G R w2 (layWorld.rd_below HRD.out HT2.out.bel hhi) (Nat.le_trans hhi HT2.out.bel.size) hG HR.out HOK.out hd
    clear hd HD
    go_wp2_with (refine wp_loadBox 38 (.tmp 3) rfl rfl (w.heap.size) rfl (cs := [.int .i64 (d.shape 0), .int .i64 (d.shape 1), .int .i64 (d.shape 2), .int .i64 (d.shape 3), .int .i64 (d.shape 4), .int .i64 (d.shape 5), .int .i64 (d.shape 6), .int .i64 (d.shape 7), .int .i64 (d.shape 8), .slice ao1 d.groups.1 cap1, .slice ao2 d.on.1 cap2, .slice ao3 d.tapes.1 cap3, .int .i64 d.writes, .int .i64 d.stop, .bool d.down]) (HT2.out.b1) Tryz.underlying38 size_W rfl ?_)
    refine CB.mono ?_
    rintro e w3 ⟨v3, rfl, o3, b3⟩
    have HT3 : Hid (Two w w3 #[.int .i64 (d.shape 0), .int .i64 (d.shape 1), .int .i64 (d.shape 2), .int .i64 (d.shape 3), .int .i64 (d.shape 4), .int .i64 (d.shape 5), .int .i64 (d.shape 6), .int .i64 (d.shape 7), .int .i64 (d.shape 8), .slice ao1 d.groups.1 cap1, .slice ao2 d.on.1 cap2, .slice ao3 d.tapes.1 cap3, .int .i64 d.writes, .int .i64 d.stop, .bool d.down] #[.int .i64 0, .slice none 0 0] 38 32) := HT2.out.call b3
    have z3 : w2.heap.size ≤ w3.heap.size := b3.size
    clear CB b3 HT2
    obtain ⟨ao9, cap9, rfl⟩ := o3.slice
    have OO := yres_own o3 (Nat.le_refl _) (rowB_lt d G R) 0 (by decide)
    clear o3
    go_wp2_with (refine wp_storeBox 32 _ _ rfl rfl (w.heap.size + 1) rfl (cs := [.int .i64 0, .slice ao9 (4 * (d.shape 2).toNat) cap9]) (old := [.int .i64 0, .slice none 0 0]) rfl (HT3.out.b2) size_Yr rfl rfl (OO.one) ?_; intro w9 X9 C9 z9)
    refine ret_box Tryz.results8 rfl X9 Tryz.underlying32 size_Yr rfl rfl ?_
    have zz := C9.size
    exact ⟨_, _, rfl, .inr (.inr ⟨HX.out, HDD.out, rfl⟩), (OO.chgk C9 (fun b hb => by simp at hb; omega)).weaken (by omega) zz, HT3.out.bel.trans (C9.bel (fun b hb => by simp at hb; omega) HT3.out.bel.size)⟩
set_option maxHeartbeats 8000000 in
set_option maxRecDepth 20000 in
theorem specRowB_any (d : WorldD) (g r : Int) (cs : List Value) (hi : Nat) (w : World) (h : layWorld.rd w hi d cs) (hhi : hi ≤ w.heap.size) (hsz : szWorldD d ≤ 1048576) :
    Calls Tryz.prog 6 #[.agg cs.toArray, .int .i64 g, .int .i64 r] w (YPost (RbAns d g r) w) := by
  have h' := h
  obtain ⟨ao1, cap1, ao2, cap2, ao3, cap3, rfl, g1, g2, g3, k0, k4, k5⟩ := World_rd h'
  have HRD : Hid (layWorld.rd w hi d [.int .i64 (d.shape 0), .int .i64 (d.shape 1), .int .i64 (d.shape 2), .int .i64 (d.shape 3), .int .i64 (d.shape 4), .int .i64 (d.shape 5), .int .i64 (d.shape 6), .int .i64 (d.shape 7), .int .i64 (d.shape 8), .slice ao1 d.groups.1 cap1, .slice ao2 d.on.1 cap2, .slice ao3 d.tapes.1 cap3, .int .i64 d.writes, .int .i64 d.stop, .bool d.down]) := h
  clear h h' g1 g2 g3 k0 k4 k5
  have T0 := two_newb w #[.int .i64 (d.shape 0), .int .i64 (d.shape 1), .int .i64 (d.shape 2), .int .i64 (d.shape 3), .int .i64 (d.shape 4), .int .i64 (d.shape 5), .int .i64 (d.shape 6), .int .i64 (d.shape 7), .int .i64 (d.shape 8), .slice ao1 d.groups.1 cap1, .slice ao2 d.on.1 cap2, .slice ao3 d.tapes.1 cap3, .int .i64 d.writes, .int .i64 d.stop, .bool d.down] #[.int .i64 0, .slice none 0 0] 38 32
  go_enter Tryz.func6, Tryz.ntmps6
  go_wp2_with (refine wp_loadBox 38 (.tmp 3) rfl rfl (w.heap.size) rfl (cs := [.int .i64 (d.shape 0), .int .i64 (d.shape 1), .int .i64 (d.shape 2), .int .i64 (d.shape 3), .int .i64 (d.shape 4), .int .i64 (d.shape 5), .int .i64 (d.shape 6), .int .i64 (d.shape 7), .int .i64 (d.shape 8), .slice ao1 d.groups.1 cap1, .slice ao2 d.on.1 cap2, .slice ao3 d.tapes.1 cap3, .int .i64 d.writes, .int .i64 d.stop, .bool d.down]) (T0.b1) Tryz.underlying38 size_W rfl ?_)
  refine (l7Where_any d g r _ hi _ (layWorld.rd_below HRD.out T0.bel hhi) (Nat.le_trans hhi T0.bel.size) hsz).mono ?_
  rintro e w1 ⟨x, rfl, hx, b1⟩
  have HT1 : Hid (Two w w1 #[.int .i64 (d.shape 0), .int .i64 (d.shape 1), .int .i64 (d.shape 2), .int .i64 (d.shape 3), .int .i64 (d.shape 4), .int .i64 (d.shape 5), .int .i64 (d.shape 6), .int .i64 (d.shape 7), .int .i64 (d.shape 8), .slice ao1 d.groups.1 cap1, .slice ao2 d.on.1 cap2, .slice ao3 d.tapes.1 cap3, .int .i64 d.writes, .int .i64 d.stop, .bool d.down] #[.int .i64 0, .slice none 0 0] 38 32) := T0.call b1
  have HX : Hid (WhereAns d g r x) := hx
  have z1 : w.heap.size + 1 < w1.heap.size := HT1.out.b2.lt
  clear b1 T0 hx
  by_cases hx0 : x = 0
  case neg =>
    have hne : (x != 0) = true := by simp [hx0]
    go_wp2_with (refine wp_storeBox 32 _ _ rfl rfl (w.heap.size + 1) rfl (cs := [.int .i64 x, .slice none 0 0]) (old := [.int .i64 0, .slice none 0 0]) rfl (HT1.out.b2) size_Yr rfl rfl ((ycode_own w1 x (where_small HX.out) 0 0 (Nat.zero_le _)).one) ?_; intro w9 X9 C9 z9)
    refine ret_box Tryz.results6 rfl X9 Tryz.underlying32 size_Yr rfl rfl ?_
    have zz := C9.size
    exact ⟨_, _, rfl, .inl ⟨x, hx0, HX.out, rfl⟩, ycode_own w9 x (where_small HX.out) _ _ (Nat.le_refl _), HT1.out.bel.trans (C9.bel (fun b hb => by simp at hb; omega) HT1.out.bel.size)⟩
  subst hx0
  obtain ⟨ha, hw⟩ := where_zero HX.out
  have HOK : Hid (OkWorld d) := ask_ok ha
  obtain ⟨G, R, rfl, rfl, hG, hR⟩ := wh_at (ask_ok ha) hw
  have HR : Hid (∀ k, k < (d.groups.2 G).1 → R < ((d.groups.2 G).2 k).blocks.1) := hR
  clear ha hw hR
  have CB := l7Bytes_any d [.int .i64 (d.shape 0), .int .i64 (d.shape 1), .int .i64 (d.shape 2), .int .i64 (d.shape 3), .int .i64 (d.shape 4), .int .i64 (d.shape 5), .int .i64 (d.shape 6), .int .i64 (d.shape 7), .int .i64 (d.shape 8), .slice ao1 d.groups.1 cap1, .slice ao2 d.on.1 cap2, .slice ao3 d.tapes.1 cap3, .int .i64 d.writes, .int .i64 d.stop, .bool d.down] hi w.heap.size G R w1 (layWorld.rd_below HRD.out HT1.out.bel hhi) (Nat.le_trans hhi HT1.out.bel.size) HT1.out.b1 hG HR.out HOK.out
  go_wp2_with fail
  refine CB.mono ?_
  rintro e w3 ⟨v3, t, rfl, ht, o3, b3⟩
  have HT3 : Hid (Two w w3 #[.int .i64 (d.shape 0), .int .i64 (d.shape 1), .int .i64 (d.shape 2), .int .i64 (d.shape 3), .int .i64 (d.shape 4), .int .i64 (d.shape 5), .int .i64 (d.shape 6), .int .i64 (d.shape 7), .int .i64 (d.shape 8), .slice ao1 d.groups.1 cap1, .slice ao2 d.on.1 cap2, .slice ao3 d.tapes.1 cap3, .int .i64 d.writes, .int .i64 d.stop, .bool d.down] #[.int .i64 0, .slice none 0 0] 38 32) := HT1.out.call b3
  have HD : Hid (t = true ↔ ¬ DeadP d G) := ht
  have z3 : w1.heap.size ≤ w3.heap.size := b3.size
  clear CB ht b3 HT1
  cases t with
  | false =>
    have hd : DeadP d G := Classical.byContradiction fun hh => by have := HD.out.2 hh; cases this
    have HDD : Hid (DeadP d G) := hd
    simp only [Bool.false_eq_true, if_false] at o3
    obtain ⟨ao9, cap9, rfl⟩ := o3.slice
    clear hd HD o3
    go_wp2_with (refine wp_storeBox 32 _ _ rfl rfl (w.heap.size + 1) rfl (cs := [.int .i64 10, .slice none 0 0]) (old := [.int .i64 0, .slice none 0 0]) rfl (HT3.out.b2) size_Yr rfl rfl ((ycode_own w3 10 (by decide) 0 0 (Nat.zero_le _)).one) ?_; intro w9 X9 C9 z9)
    refine ret_box Tryz.results6 rfl X9 Tryz.underlying32 size_Yr rfl rfl ?_
    have zz := C9.size
    exact ⟨_, _, rfl, .inr (.inl ⟨HX.out, HDD.out, rfl⟩), ycode_own w9 10 (by decide) _ _ (Nat.le_refl _), HT3.out.bel.trans (C9.bel (fun b hb => by simp at hb; omega) HT3.out.bel.size)⟩
  | true =>
    have hd : ¬ DeadP d G := HD.out.1 rfl
    have HDD : Hid (¬ DeadP d G) := hd
    simp only [if_pos] at o3
    clear hd HD
    obtain ⟨ao9, cap9, rfl⟩ := o3.slice
    have OO := yres_own o3 (Nat.le_refl _) (rowB_lt d G R) 0 (by decide)
    clear o3
    go_wp2_with (refine wp_storeBox 32 _ _ rfl rfl (w.heap.size + 1) rfl (cs := [.int .i64 0, .slice ao9 (4 * (d.shape 2).toNat) cap9]) (old := [.int .i64 0, .slice none 0 0]) rfl (HT3.out.b2) size_Yr rfl rfl (OO.one) ?_; intro w9 X9 C9 z9)
    refine ret_box Tryz.results6 rfl X9 Tryz.underlying32 size_Yr rfl rfl ?_
    have zz := C9.size
    exact ⟨_, _, rfl, .inr (.inr ⟨HX.out, HDD.out, rfl⟩), (OO.chgk C9 (fun b hb => by simp at hb; omega)).weaken (by omega) zz, HT3.out.bel.trans (C9.bel (fun b hb => by simp at hb; omega) HT3.out.bel.size)⟩
end Go.Proofs.YtngofdoojoaekaaGreat

namespace Go.Proofs.YtngofdoojoaekaaGreat
open Go.RowKit F256
theorem ask_ex (d : WorldD) : ∃ x, AskAns d x := by
  obtain ⟨x, hx⟩ := world_ex d
  by_cases h : x = 0
  · subst h
    cases hd : d.down with
    | true => exact ⟨9, .inr ⟨hx, .inl ⟨hd, rfl⟩⟩⟩
    | false => exact ⟨0, .inr ⟨hx, .inr ⟨hd, rfl⟩⟩⟩
  · exact ⟨x, .inl ⟨h, hx⟩⟩
theorem where_ex (d : WorldD) (g r : Int) : ∃ z, WhereAns d g r z := by
  obtain ⟨y, hy⟩ := ask_ex d
  by_cases h : y = 0
  · subst h
    by_cases h1 : WhP d.shape g r
    · by_cases h2 : HasP d.on.1 d.on.2 g
      · exact ⟨0, .inr ⟨hy, .inr ⟨h1, .inr ⟨h2, rfl⟩⟩⟩⟩
      · exact ⟨8, .inr ⟨hy, .inr ⟨h1, .inl ⟨h2, rfl⟩⟩⟩⟩
    · exact ⟨3, .inr ⟨hy, .inl ⟨h1, rfl⟩⟩⟩
  · exact ⟨y, .inl ⟨h, hy⟩⟩
end Go.Proofs.YtngofdoojoaekaaGreat

namespace Go.Proofs.YtngofdoojoaekaaGreat
open Go.RowKit
set_option linter.unusedVariables false
section
variable {P : Program} {ops : Array Oper} {Q : Exit → Act → World → Prop} {md : Region.Mode} {S : World → Prop} {L : Nat}
/-- whatever order is picked; S holds behind every operation but L -/
def wpAnyL (P : Program) (md : Region.Mode) (ops : Array Oper) (Q : Exit → Act → World → Prop) (S : World → Prop) (L : Nat) : Nat → Array Bool → Act → World → Prop
  | 0, listed, a, w => Region.ready md ops listed = [] ∧ Q .normal a w
  | fuel + 1, listed, a, w =>
    (Region.ready md ops listed = [] → Q .normal a w) ∧
    ∀ i ∈ Region.ready md ops listed, wpOp P ops Q i (fun a' w' => (i ≠ L → S w') ∧ wpAnyL P md ops Q S L fuel (listed.setIfInBounds i true) a' w') a w
theorem wpAny_of_L : ∀ (fuel : Nat) (listed : Array Bool) (a : Act) (w : World), wpAnyL P md ops Q S L fuel listed a w → wpAny P md ops Q fuel listed a w
  | 0, _, _, _, h => h
  | fuel + 1, _, _, _, h => ⟨h.1, fun i hi => wpOp_mono (fun a' w' h' => wpAny_of_L fuel _ a' w' h'.2) (h.2 i hi)⟩
/-- what has come up came behind all that it waits for -/
def ClosedP (md : Region.Mode) (ops : Array Oper) (listed : Array Bool) : Prop :=
  ∀ j oj, ops[j]? = some oj → listed.getD j false = true → ∀ e ∈ oj.after, Region.binds md e = true → listed.getD e.on false = true
def closedB (md : Region.Mode) (ops : Array Oper) (listed : Array Bool) : Bool :=
  (List.range ops.size).all fun j => !listed.getD j false || ((ops[j]?).map (·.after.all fun e => !Region.binds md e || listed.getD e.on false)).getD false
theorem closed_of {listed : Array Bool} (h : closedB md ops listed = true) : ClosedP md ops listed := fun j oj hj hl e he hb => by
  unfold closedB at h
  have hlt : j < ops.size := (Array.getElem?_eq_some_iff.1 hj).1
  have h1 := List.all_eq_true.1 h j (List.mem_range.2 hlt)
  rw [hl, hj] at h1
  simp only [Bool.not_true, Bool.false_or, Option.map_some, Option.getD_some, Array.all_eq_true_iff_forall_mem] at h1
  have h2 := h1 e he
  rw [hb] at h2
  simpa using h2
theorem closed_step {listed : Array Bool} {j : Nat} (h : ClosedP md ops listed) (hj : j ∈ Region.ready md ops listed) : ClosedP md ops (listed.setIfInBounds j true) := fun k ok hk hl e he hb => by
  obtain ⟨_, o, ho, hall⟩ := mem_ready.1 hj
  by_cases c : j = k
  · subst c
    rw [hk] at ho
    cases ho
    exact getD_set_true (hall e he hb)
  · rw [getD_set_ne false c] at hl
    exact getD_set_true (h k ok hk hl e he hb)
/-- l waits for i, over so many steps -/
def depB (md : Region.Mode) (ops : Array Oper) : Nat → Nat → Nat → Bool
  | 0, l, i => l == i
  | n + 1, l, i => l == i || ((ops[l]?).map (·.after.any fun e => Region.binds md e && depB md ops n e.on i)).getD false
theorem dep_listed {listed : Array Bool} (hc : ClosedP md ops listed) : ∀ (n l i : Nat), depB md ops n l i = true → listed.getD l false = true → listed.getD i false = true
  | 0, l, i, h, hl => by
    unfold depB at h
    have : l = i := by simpa using h
    rw [← this]; exact hl
  | n + 1, l, i, h, hl => by
    unfold depB at h
    rcases Bool.or_eq_true _ _ ▸ h with h1 | h1
    · have : l = i := by simpa using h1
      rw [← this]; exact hl
    · cases ho : ops[l]? with
      | none => rw [ho] at h1; simp at h1
      | some o =>
        rw [ho] at h1
        simp only [Option.map_some, Option.getD_some] at h1
        obtain ⟨k, hk, hbk⟩ := Array.any_eq_true.1 h1
        obtain ⟨hb, hd⟩ := Bool.and_eq_true _ _ ▸ hbk
        exact dep_listed hc n _ i hd (hc l o ho hl _ (Array.getElem_mem hk) hb)
theorem dep_waits {listed : Array Bool} (hc : ClosedP md ops listed) {n i : Nat} (hne : L ≠ i) (hd : depB md ops n L i = true) (hi : listed.getD i false = false) : L ∉ Region.ready md ops listed := fun hL => by
  obtain ⟨_, o, ho, hall⟩ := mem_ready.1 hL
  cases n with
  | zero => unfold depB at hd; exact hne (by simpa using hd)
  | succ n =>
    unfold depB at hd
    rcases Bool.or_eq_true _ _ ▸ hd with h1 | h1
    · exact hne (by simpa using h1)
    · rw [ho] at h1
      simp only [Option.map_some, Option.getD_some] at h1
      obtain ⟨k, hk, hbk⟩ := Array.any_eq_true.1 h1
      obtain ⟨hb, hd'⟩ := Bool.and_eq_true _ _ ▸ hbk
      have := dep_listed hc n _ i hd' (hall _ (Array.getElem_mem hk) hb)
      rw [hi] at this
      cases this
theorem unlisted_false {listed : Array Bool} {i : Nat} (h : listed.getD i true = false) : listed.getD i false = false := by
  rcases Nat.lt_or_ge i listed.size with h' | h'
  · simpa [h'] using h
  · simp [Array.getElem?_eq_none h'] at h
theorem wpAnyL_first {i : Nat} {oi : Oper} {v : Value} (hi : ops[i]? = some oi) (hsel : ∀ (j : Nat) (o : Oper) cs b, ops[j]? = some o → o.op ≠ .select cs b)
    (hQ : ∀ c a w, Q (.panic c) (a.put oi.dst v) w → Q (.panic c) a w) (hLi : L ≠ i) {n : Nat} (hd : depB md ops n L i = true) :
    ∀ (fuel : Nat) (listed : Array Bool) (a : Act) (w : World), ClosedP md ops listed →
      (∀ j oj, ops[j]? = some oj → j ≠ i → listed.getD j true = false → (∀ e ∈ oj.after, Region.binds md e = true → e.on ≠ i) → oi.apart ops oj = true) →
      i ∈ Region.ready md ops listed → YieldsIf P ops S oi v a → S w →
      wpAnyL P md ops Q S L fuel (listed.setIfInBounds i true) (a.put oi.dst v) w → wpAnyL P md ops Q S L (fuel + 1) listed a w := by
  intro fuel
  induction fuel with
  | zero =>
    intro listed a w _ _ hr hy hS H
    refine ⟨fun h => (by rw [h] at hr; cases hr), fun j hj => ?_⟩
    by_cases hji : j = i
    · subst hji; exact hy.wpOp hi hS ⟨fun _ => hS, H⟩
    · have := ready_mono hj hji
      rw [H.1] at this
      cases this
  | succ fuel ih =>
    intro listed a w hcl hfree hr hy hS H
    refine ⟨fun h => (by rw [h] at hr; cases hr), fun j hj => ?_⟩
    by_cases hji : j = i
    · subst hji; exact hy.wpOp hi hS ⟨fun _ => hS, H⟩
    · have hjL : j ≠ L := fun h => by
        subst h
        exact dep_waits hcl hLi hd (unlisted_false (mem_ready.1 hr).1) hj
      have h1 := H.2 j (ready_mono hj hji)
      obtain ⟨hjun, oj, hoj, hall⟩ := mem_ready.1 hj
      have hnot : ∀ e ∈ oj.after, Region.binds md e = true → e.on ≠ i := fun e he hb heq => by
        have h1 := hall e he hb
        have h0 := unlisted_false (mem_ready.1 hr).1
        rw [heq, h0] at h1
        cases h1
      have h2 := wpOp_putIf hoj (hfree j oj hoj hji hjun hnot) (fun cs b => hsel i oi cs b hi) (fun cs b => hsel j oj cs b hoj) hQ hy h1
      have hfree' : ∀ k ok, ops[k]? = some ok → k ≠ i → (listed.setIfInBounds j true).getD k true = false →
          (∀ e ∈ ok.after, Region.binds md e = true → e.on ≠ i) → oi.apart ops ok = true := fun k ok hk hki hun hno => by
        refine hfree k ok hk hki ?_ hno
        by_cases hjk : j = k
        · subst hjk; exact hjun
        · rw [getD_set_ne true hjk] at hun; exact hun
      refine wpOp_mono (fun a' w' h3 => ⟨h3.2.1, ih (listed.setIfInBounds j true) a' w' (closed_step hcl hj) hfree' (ready_mono hr (Ne.symm hji)) h3.1 (h3.2.1 hjL) ?_⟩) h2
      rw [Array.setIfInBounds_comm _ _ hji]
      exact h3.2.2
/-- take number i first -/
theorem wpAnyL_take {i : Nat} {oi : Oper} {v : Value} {fuel : Nat} {listed : Array Bool} {a : Act} {w : World} (n : Nat) (hi : ops[i]? = some oi)
    (hs : (Region.noSelect ops && Region.free md ops listed i && (Region.ready md ops listed).contains i && !(L == i) && depB md ops n L i && closedB md ops listed) = true)
    (hQ : ∀ c a w, Q (.panic c) (a.put oi.dst v) w → Q (.panic c) a w) (hy : YieldsIf P ops S oi v a) (hS : S w)
    (h : wpAnyL P md ops Q S L fuel (listed.setIfInBounds i true) (a.put oi.dst v) w) : wpAnyL P md ops Q S L (fuel + 1) listed a w := by
  simp only [Bool.and_eq_true, Bool.not_eq_true', beq_eq_false_iff_ne] at hs
  obtain ⟨⟨⟨⟨⟨h1, h2⟩, h3⟩, h4⟩, h5⟩, h6⟩ := hs
  exact wpAnyL_first hi (Region.noSelect_spec h1) hQ h4 h5 fuel listed a w (closed_of h6) (Region.free_spec hi h2) (by simpa using h3) hy hS h
/-- one operation alone may come up, and S holds behind it -/
theorem wpAnyL_one {i : Nat} {o : Oper} {fuel : Nat} {listed : Array Bool} {a : Act} {w : World} (ho : ops[i]? = some o) (hr : Region.ready md ops listed = [i])
    (h : ∀ K' : Act → World → Prop, Shut (∀ a w, S w → (S w → wpAnyL P md ops Q S L fuel (listed.setIfInBounds i true) a w) → K' a w) → if Region.wanted o (yielded ops a.tmps) = true then Oper.wp P o a w K' Q else K' (a.put o.dst undef) w) : wpAnyL P md ops Q S L (fuel + 1) listed a w := by
  refine ⟨fun h0 => (by rw [hr] at h0; cases h0), fun j hj => ?_⟩
  rw [hr] at hj
  obtain rfl : j = i := by simpa using hj
  exact wpOp_step ho (fun K' hK => h K' (fun a w hS hW => hK a w ⟨fun _ => hS, hW hS⟩))
/-- the last store: nothing is asked behind it -/
theorem wpAnyL_last {o : Oper} {fuel : Nat} {listed : Array Bool} {a : Act} {w : World} (ho : ops[L]? = some o) (hr : Region.ready md ops listed = [L])
    (h : ∀ K' : Act → World → Prop, Shut (∀ a w, wpAnyL P md ops Q S L fuel (listed.setIfInBounds L true) a w → K' a w) → if Region.wanted o (yielded ops a.tmps) = true then Oper.wp P o a w K' Q else K' (a.put o.dst undef) w) : wpAnyL P md ops Q S L (fuel + 1) listed a w := by
  refine ⟨fun h0 => (by rw [hr] at h0; cases h0), fun j hj => ?_⟩
  rw [hr] at hj
  obtain rfl : j = L := by simpa using hj
  exact wpOp_step ho (fun K' hK => h K' (fun a w hW => hK a w ⟨fun hn => absurd rfl hn, hW⟩))
theorem wpAnyL_done {listed : Array Bool} {a : Act} {w : World} (hr : Region.ready md ops listed = []) (h : Q .normal a w) : ∀ fuel, wpAnyL P md ops Q S L fuel listed a w
  | 0 => ⟨hr, h⟩
  | _ + 1 => ⟨fun _ => h, by rw [hr]; simp⟩
theorem wp_region_L {id : Nat} {a : Act} {w : World} (L : Nat) (S : World → Prop) (hm : P.follows .mixedOrders = true) (hS : S w.drew)
    (h : S w.drew → wpAnyL P .any ops Q S L ops.size (Array.replicate ops.size false) a w.drew) : (Code.region id ops true).wp P Q a w :=
  wp_region_any hm (wpAny_of_L _ _ _ _ (h hS))
end
end Go.Proofs.YtngofdoojoaekaaGreat
