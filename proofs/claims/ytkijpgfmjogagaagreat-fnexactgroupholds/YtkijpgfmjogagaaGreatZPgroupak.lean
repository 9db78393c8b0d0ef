/- What DeadGroups tells; walk of the program's DeadGroups. -/
import Derived.Test.YtkijpgfmjogagaaGreatZPgroupah
import Derived.Test.YtkijpgfmjogagaaGreatZPgroupaj
import Derived.Test.YtkijpgfmjogagaaGreatZPgroupag
import Derived.Deep.DeepCutAuto
import Derived.Test.YtkijpgfmjogagaaGreatZPgroupad
import Derived.Laws.CopyOwn
import Derived.Maps.AppendAt
import Derived.Test.YtkijpgfmjogagaaGreatZPgroupaa
set_option linter.unusedVariables false
set_option linter.unusedSimpArgs false
namespace Go.Proofs.YtkijpgfmjogagaaGreat
open Go.RowKit F256
def deadB (d : WorldD) (G : Nat) : Bool := decide (d.shape 3 < (wipedN (d.groups.2 G).2 (d.groups.2 G).1 : Int))
def deadsF (d : WorldD) : Nat → Int := fun i => (pickF (deadB d) d.groups.1 i : Int)
def DeadAns (d : WorldD) (q : GroupsResultD) : Prop := (∃ x, x ≠ 0 ∧ WldAns d x ∧ q = ⟨x, (0, fun _ => 0)⟩) ∨ (WldAns d 0 ∧ q = ⟨0, ((pickI (deadB d) d.groups.1).length, deadsF d)⟩)
theorem DeadAns.one {d : WorldD} {p q : GroupsResultD} (h : DeadAns d p) (k : DeadAns d q) : p = q := by
  rcases h with ⟨x, h1, h2, rfl⟩ | ⟨h1, rfl⟩ <;> rcases k with ⟨y, k1, k2, rfl⟩ | ⟨k1, rfl⟩
  · rw [h2.one k2]
  · exact absurd (h2.one k1) h1
  · exact absurd (k2.one h1) k1
  · rfl
end Go.Proofs.YtkijpgfmjogagaaGreat
namespace Go.Proofs.YtkijpgfmjogagaaGreat
open Go.RowKit F256
def AskAns (d : WorldD) (x : Int) : Prop := (x ≠ 0 ∧ WldAns d x) ∨ (WldAns d 0 ∧ ((d.down = true ∧ x = 9) ∨ (d.down = false ∧ x = 0)))
theorem AskAns.one {d : WorldD} {x y : Int} (h : AskAns d x) (k : AskAns d y) : x = y := by
  rcases h with ⟨h1, h2⟩ | ⟨h1, h2⟩ <;> rcases k with ⟨k1, k2⟩ | ⟨k1, k2⟩
  · exact h2.one k2
  · exact absurd (h2.one k1) h1
  · exact absurd (k2.one h1) k1
  · rcases h2 with ⟨a, rfl⟩ | ⟨a, rfl⟩ <;> rcases k2 with ⟨b, rfl⟩ | ⟨b, rfl⟩
    · rfl
    · rw [a] at b; cases b
    · rw [a] at b; cases b
    · rfl
end Go.Proofs.YtkijpgfmjogagaaGreat
namespace Go.Proofs.YtkijpgfmjogagaaGreat
open Go.RowKit F256
def PlaceP (s : Nat → Int) (g k r : Int) : Prop := InP g 0 (s 0 + s 1 - 1) ∧ InP k 0 (s 2 + s 3 - 1) ∧ InP r 0 (s 4 - 1)
theorem size_S : (Tryz.prog.info? 33).map (·.size) = some 9 := by kernel_rfl
set_option maxHeartbeats 4000000 in
set_option maxRecDepth 20000 in
theorem l5Place_any (s : Nat → Int) (hok : OkShape s) (g k r : Int) (w : World) : Calls Tryz.prog 36 #[shapeV s, .int .i64 g, .int .i64 k, .int .i64 r] w (BoolP (PlaceP s g k r) w) := by
  have hb := okB hok
  obtain ⟨t1, h1⟩ := exB (InP g 0 (s 0 + s 1 - 1))
  obtain ⟨t2, h2⟩ := exB (InP k 0 (s 2 + s 3 - 1))
  obtain ⟨t3, h3⟩ := exB (InP r 0 (s 4 - 1))
  have CA := fun w' => l5All_any s hok w'
  have CD := fun w' => l5Drives_any s hok w'
  have C1 := fun w' => l1In_b (w := w') h1
  have C2 := fun w' => l1In_b (w := w') h2
  have C3 := fun w' => l1In_b (w := w') h3
  have HE : Hid (PlaceP s g k r ↔ (t1 = true ∧ t2 = true ∧ t3 = true)) := by
    show PlaceP s g k r ↔ _
    rw [h1, h2, h3]
    exact Iff.rfl
  have T0 := one_new w #[.int .i64 (s 0), .int .i64 (s 1), .int .i64 (s 2), .int .i64 (s 3), .int .i64 (s 4), .int .i64 (s 5), .int .i64 (s 6), .int .i64 (s 7), .int .i64 (s 8)] 33
  unfold shapeV at CA CD ⊢
  clear h1 h2 h3 hok
  go_enter Tryz.func36, Tryz.ntmps36
  go_wp2_with (refine wp_loadBox 33 (.tmp 4) rfl rfl w.heap.size rfl (cs := [.int .i64 (s 0), .int .i64 (s 1), .int .i64 (s 2), .int .i64 (s 3), .int .i64 (s 4), .int .i64 (s 5), .int .i64 (s 6), .int .i64 (s 7), .int .i64 (s 8)]) T0.b1 Tryz.underlying33 size_S rfl ?_)
  refine (CA _).mono ?_
  rintro e w1 ⟨rfl, b1⟩
  have T1 := T0.call b1
  have HT1 : Hid (One w w1 #[.int .i64 (s 0), .int .i64 (s 1), .int .i64 (s 2), .int .i64 (s 3), .int .i64 (s 4), .int .i64 (s 5), .int .i64 (s 6), .int .i64 (s 7), .int .i64 (s 8)] 33) := T1
  have z1 : IntKind.i64.wrap (s 0 + s 1 - 1) = s 0 + s 1 - 1 := by rw [IntKind.wrap_i64]; omega
  have z2 : IntKind.i64.wrap (s 2 + s 3 - 1) = s 2 + s 3 - 1 := by rw [IntKind.wrap_i64]; omega
  have z3 : IntKind.i64.wrap (s 4 - 1) = s 4 - 1 := by rw [IntKind.wrap_i64]; omega
  have x_0 : w1.cell? ⟨w.heap.size, 0, none⟩ = some (.int .i64 (s 0)) := T1.b1.cell 0
  have x_1 : w1.cell? ⟨w.heap.size, 1, none⟩ = some (.int .i64 (s 1)) := T1.b1.cell 1
  have x_2 : w1.cell? ⟨w.heap.size, 2, none⟩ = some (.int .i64 (s 2)) := T1.b1.cell 2
  have x_3 : w1.cell? ⟨w.heap.size, 3, none⟩ = some (.int .i64 (s 3)) := T1.b1.cell 3
  have x_4 : w1.cell? ⟨w.heap.size, 4, none⟩ = some (.int .i64 (s 4)) := T1.b1.cell 4
  have x_5 : w1.cell? ⟨w.heap.size, 5, none⟩ = some (.int .i64 (s 5)) := T1.b1.cell 5
  have x_6 : w1.cell? ⟨w.heap.size, 6, none⟩ = some (.int .i64 (s 6)) := T1.b1.cell 6
  have x_7 : w1.cell? ⟨w.heap.size, 7, none⟩ = some (.int .i64 (s 7)) := T1.b1.cell 7
  have x_8 : w1.cell? ⟨w.heap.size, 8, none⟩ = some (.int .i64 (s 8)) := T1.b1.cell 8
  clear T0 b1 T1
  go_wp2_with fail
  refine (C1 _).mono ?_
  rintro e w' ⟨rfl, hw'⟩
  obtain rfl := hw'.symm
  cases t1 with
  | false =>
    go_wp2
    go_ret
    exact boolNo rfl (fun h => by have := HE.out.1 h; simp at this) HT1.out.bel
  | true =>
  go_wp2_with fail
  refine (CD _).mono ?_
  rintro e w2 ⟨rfl, b2⟩
  have T2 := HT1.out.call b2
  have HB2 : Hid (Below w.heap.size w w2) := T2.bel
  have y4 : w2.cell? ⟨w.heap.size, 4, none⟩ = some (.int .i64 (s 4)) := T2.b1.cell 4
  clear b2 T2 x_0 x_1 x_2 x_3 x_4 x_5 x_6 x_7 x_8
  go_wp2_with fail
  refine (C2 _).mono ?_
  rintro e w' ⟨rfl, hw'⟩
  obtain rfl := hw'.symm
  cases t2 with
  | false =>
    go_wp2
    go_ret
    exact boolNo rfl (fun h => by have := HE.out.1 h; simp at this) HB2.out
  | true =>
  go_wp2_with fail
  refine (C3 _).mono ?_
  rintro e w' ⟨rfl, hw'⟩
  obtain rfl := hw'.symm
  cases t3 with
  | false =>
    go_wp2
    go_ret
    exact boolNo rfl (fun h => by have := HE.out.1 h; simp at this) HB2.out
  | true =>
    go_wp2
    go_ret
    exact boolYes rfl (HE.out.2 (by simp)) HB2.out
end Go.Proofs.YtkijpgfmjogagaaGreat
namespace Go.Proofs.YtkijpgfmjogagaaGreat
open Go.RowKit F256
def wipB (d : WorldD) (G : Nat) : Nat → Bool := fun k => ((d.groups.2 G).2 k).wiped
def wipF (d : WorldD) (G : Nat) : Nat → Int := fun i => (pickF (wipB d G) (d.groups.2 G).1 i : Int)
def KnowAns (d : WorldD) (g x : Int) : Prop := (x ≠ 0 ∧ WldAns d x) ∨ (WldAns d 0 ∧ ((¬ InP g 0 (d.shape 0 + d.shape 1 - 1) ∧ x = 3) ∨ (InP g 0 (d.shape 0 + d.shape 1 - 1) ∧ x = 0)))
theorem KnowAns.one {d : WorldD} {g x y : Int} (h : KnowAns d g x) (k : KnowAns d g y) : x = y := by
  rcases h with ⟨h1, h2⟩ | ⟨h1, h2⟩ <;> rcases k with ⟨k1, k2⟩ | ⟨k1, k2⟩
  · exact h2.one k2
  · exact absurd (h2.one k1) h1
  · exact absurd (k2.one h1) k1
  · rcases h2 with ⟨a, rfl⟩ | ⟨a, rfl⟩ <;> rcases k2 with ⟨b, rfl⟩ | ⟨b, rfl⟩
    · rfl
    · exact absurd b a
    · exact absurd a b
    · rfl
theorem KnowAns.zero {d : WorldD} {g : Int} (h : KnowAns d g 0) : WldAns d 0 ∧ InP g 0 (d.shape 0 + d.shape 1 - 1) := by
  rcases h with ⟨h1, h2⟩ | ⟨h1, h2⟩
  · exact absurd rfl h1
  · rcases h2 with ⟨a, b⟩ | ⟨a, b⟩
    · omega
    · exact ⟨h1, a⟩
def WipAns (d : WorldD) (g : Int) (q : IntsResultD) : Prop := (∃ x, x ≠ 0 ∧ KnowAns d g x ∧ q = ⟨x, (0, fun _ => 0)⟩) ∨ (KnowAns d g 0 ∧ q = ⟨0, ((pickI (wipB d g.toNat) (d.groups.2 g.toNat).1).length, wipF d g.toNat)⟩)
theorem WipAns.one {d : WorldD} {g : Int} {p q : IntsResultD} (h : WipAns d g p) (k : WipAns d g q) : p = q := by
  rcases h with ⟨x, h1, h2, rfl⟩ | ⟨h1, rfl⟩ <;> rcases k with ⟨y, k1, k2, rfl⟩ | ⟨k1, rfl⟩
  · rw [h2.one k2]
  · exact absurd (h2.one k1) h1
  · exact absurd (k2.one h1) k1
  · rfl
theorem grp_few {d : WorldD} (h : OkWorld d) {G : Nat} (hG : G < d.groups.1) : ((d.groups.2 G).1 : Int) = d.shape 2 + d.shape 3 ∧ (d.groups.2 G).1 ≤ 100 := by
  have h1 := (h.form.1.2 G hG).1
  obtain ⟨_, q, _⟩ := h.shape
  unfold Shp at q
  omega
set_option maxHeartbeats 16000000 in
set_option maxRecDepth 20000 in
theorem knownFault_any (d : WorldD) (g : Int) (cs : List Value) (hi : Nat) (w : World) (h : layWorld.rd w hi d cs) (hhi : hi ≤ w.heap.size) (hsz : szWorldD d ≤ 1048576) :
    Calls Tryz.prog 25 #[.agg cs.toArray, .int .i64 g] w (fun e w' => ∃ x, e = .returned (.int .i64 x) ∧ KnowAns d g x ∧ Below w.heap.size w w') := by
  have h' := h
  obtain ⟨ao1, cap1, ao2, cap2, ao3, cap3, rfl, g1, g2, g3, k0, k4, k5⟩ := World_rd h'
  have HRD : Hid (layWorld.rd w hi d [.int .i64 (d.shape 0), .int .i64 (d.shape 1), .int .i64 (d.shape 2), .int .i64 (d.shape 3), .int .i64 (d.shape 4), .int .i64 (d.shape 5), .int .i64 (d.shape 6), .int .i64 (d.shape 7), .int .i64 (d.shape 8), .slice ao1 d.groups.1 cap1, .slice ao2 d.on.1 cap2, .slice ao3 d.tapes.1 cap3, .int .i64 d.writes, .int .i64 d.stop, .bool d.down]) := h
  have HSZ : Hid (szWorldD d ≤ 1048576) := hsz
  clear h h' hsz g1 g2 g3 k0 k4 k5
  have T0 := one_new w #[.int .i64 (d.shape 0), .int .i64 (d.shape 1), .int .i64 (d.shape 2), .int .i64 (d.shape 3), .int .i64 (d.shape 4), .int .i64 (d.shape 5), .int .i64 (d.shape 6), .int .i64 (d.shape 7), .int .i64 (d.shape 8), .slice ao1 d.groups.1 cap1, .slice ao2 d.on.1 cap2, .slice ao3 d.tapes.1 cap3, .int .i64 d.writes, .int .i64 d.stop, .bool d.down] 37
  go_enter Tryz.func25, Tryz.ntmps25
  go_wp2_with (refine wp_loadBox 37 (.tmp 2) rfl rfl (w.heap.size) rfl (cs := [.int .i64 (d.shape 0), .int .i64 (d.shape 1), .int .i64 (d.shape 2), .int .i64 (d.shape 3), .int .i64 (d.shape 4), .int .i64 (d.shape 5), .int .i64 (d.shape 6), .int .i64 (d.shape 7), .int .i64 (d.shape 8), .slice ao1 d.groups.1 cap1, .slice ao2 d.on.1 cap2, .slice ao3 d.tapes.1 cap3, .int .i64 d.writes, .int .i64 d.stop, .bool d.down]) (T0.b1) Tryz.underlying37 size_W rfl ?_)
  refine (implWorld_any d _ hi _ (layWorld.rd_below HRD.out T0.bel hhi) (Nat.le_trans hhi T0.bel.size) (wld_ok_names HSZ.out)).mono ?_
  rintro e w1 ⟨x, rfl, hx, b1⟩
  have HT1 : Hid (One w w1 #[.int .i64 (d.shape 0), .int .i64 (d.shape 1), .int .i64 (d.shape 2), .int .i64 (d.shape 3), .int .i64 (d.shape 4), .int .i64 (d.shape 5), .int .i64 (d.shape 6), .int .i64 (d.shape 7), .int .i64 (d.shape 8), .slice ao1 d.groups.1 cap1, .slice ao2 d.on.1 cap2, .slice ao3 d.tapes.1 cap3, .int .i64 d.writes, .int .i64 d.stop, .bool d.down] 37) := T0.call b1
  have HX : Hid (WldAns d x) := hx
  clear b1 T0 hx
  by_cases hx0 : x = 0
  case neg =>
    have hne : (x != 0) = true := by simp [hx0]
    go_wp2
    go_ret
    exact ⟨x, rfl, .inl ⟨hx0, HX.out⟩, HT1.out.bel⟩
  subst hx0
  have HOK : Hid (OkWorld d) := WldAns.ok HX.out
  obtain ⟨t, ht⟩ : ∃ t : Bool, (t = true ↔ InP g 0 (d.shape 0 + d.shape 1 - 1)) := ⟨@decide _ (Classical.propDecidable _), @decide_eq_true_iff _ (Classical.propDecidable _)⟩
  have HTT : Hid (t = true ↔ InP g 0 (d.shape 0 + d.shape 1 - 1)) := ht
  have x_0 : w1.cell? ⟨w.heap.size, 0, none⟩ = some (.int .i64 (d.shape 0)) := HT1.out.b1.cell 0
  have x_1 : w1.cell? ⟨w.heap.size, 1, none⟩ = some (.int .i64 (d.shape 1)) := HT1.out.b1.cell 1
  have x_2 : w1.cell? ⟨w.heap.size, 2, none⟩ = some (.int .i64 (d.shape 2)) := HT1.out.b1.cell 2
  have x_3 : w1.cell? ⟨w.heap.size, 3, none⟩ = some (.int .i64 (d.shape 3)) := HT1.out.b1.cell 3
  have x_4 : w1.cell? ⟨w.heap.size, 4, none⟩ = some (.int .i64 (d.shape 4)) := HT1.out.b1.cell 4
  have x_5 : w1.cell? ⟨w.heap.size, 5, none⟩ = some (.int .i64 (d.shape 5)) := HT1.out.b1.cell 5
  have x_6 : w1.cell? ⟨w.heap.size, 6, none⟩ = some (.int .i64 (d.shape 6)) := HT1.out.b1.cell 6
  have x_7 : w1.cell? ⟨w.heap.size, 7, none⟩ = some (.int .i64 (d.shape 7)) := HT1.out.b1.cell 7
  have x_8 : w1.cell? ⟨w.heap.size, 8, none⟩ = some (.int .i64 (d.shape 8)) := HT1.out.b1.cell 8
  have CB := isGroup_b HOK.out.shape ht w1
  unfold shapeV at CB
  clear ht
  go_wp2_with fail
  refine CB.mono ?_
  rintro e w2 ⟨rfl, b2⟩
  have HB2 : Hid (Below w.heap.size w w2) := (HT1.out.call b2).bel
  clear CB b2 HT1 x_0 x_1 x_2 x_3 x_4 x_5 x_6 x_7 x_8
  cases t with
  | true =>
    go_wp2
    go_ret
    exact ⟨0, rfl, .inr ⟨HX.out, .inr ⟨HTT.out.1 (by simp), rfl⟩⟩, HB2.out⟩
  | false =>
    go_wp2
    go_ret
    exact ⟨3, rfl, .inr ⟨HX.out, .inl ⟨fun h => absurd (HTT.out.2 h) (by simp), rfl⟩⟩, HB2.out⟩
end Go.Proofs.YtkijpgfmjogagaaGreat
namespace Go.Proofs.YtkijpgfmjogagaaGreat
open Go.RowKit F256
theorem OwnI.full {w : World} {lo hi g n : Nat} {f : Nat → Int} (h : OwnI w lo hi (.slice (some ⟨g, 0, none⟩) n n) n f) : w.heap[g]? = some (.cells (intsOf n f).toArray 2 (0, 0)) := by
  rcases h.1.2 with ⟨h', _⟩ | ⟨g', cap', cur, h', _, hg, _, _, hcs, htake⟩
  · simp at h'
  · simp only [Value.slice.injEq, Option.some.injEq, Addr.mk.injEq, and_true, true_and] at h'
    obtain ⟨rfl, rfl⟩ := h'
    have : cur = (intsOf n f).toArray := by
      rw [← htake, List.take_of_length_le (by simp; omega)]
    rw [← this]
    exact hg
end Go.Proofs.YtkijpgfmjogagaaGreat
namespace Go.Proofs.YtkijpgfmjogagaaGreat
open Go.RowKit F256
theorem run_append_none' {P : Program} (w : World) (base : Nat) (t ty e : TypeId) (i : TypeInfo) (size : Nat) (ht : P.underlying t = some (.slice e)) (hi : P.info? e = some i) (v : Value) (n c : Nat) (xs : List Value) (hown : w.ownsRow base e size v n xs) :
    (Builtin.append_ #[t, t] ty #[v, .slice none 0 c]).run P w = .ok v w := by
  rcases hown.2 with ⟨rfl, rfl⟩ | ⟨g, cap, cur, rfl, _, _, hnc, _⟩
  · simp [Builtin.append_, run_underlying ht, sizeOf, typeInfo, hi, Builtin.lenOf, Builtin.firstCells]
  · simp [Builtin.append_, run_underlying ht, sizeOf, typeInfo, hi, Builtin.lenOf, Builtin.firstCells, hnc, storeCells]
theorem wp_run2 {ops : Array Oper} {rest : List Oper} {o : Oper} {a : Act} {W w' : World} {Q : Exit → Act → World → Prop} {T : TypeId} {v' x1 x2 : Value} (hg : o.guard = none) (s y : Operand) (hop : o.op = Op.call { callee := Callee.builtin Builtin.append, args := #[s, y], argTypes := #[T, T] })
    (h1 : a.eval s = x1) (h2 : a.eval y = x2) (hrun : (Builtin.append_ #[T, T] o.type #[x1, x2]).run Tryz.prog W = .ok v' w') (hK : wpList Tryz.prog ops Q rest (a.put o.dst v') w') : wpList Tryz.prog ops Q (o :: rest) a W := by
  refine wpList_plain hg fun K hK' => ?_
  unfold Oper.wp
  simp [execOp, hop, resolve, invoke, builtin, h1, h2, hrun, Result.andThen]
  exact hK' _ _ hK
end Go.Proofs.YtkijpgfmjogagaaGreat
namespace Go.Proofs.YtkijpgfmjogagaaGreat
open Go.RowKit F256
def RdOne {α : Type} (E : Lay α) : Prop := ∀ (w : World) (hi : Nat) (a : α) (cs : List Value), E.rd w hi a cs → ∀ u, u ∈ cs → u.oneCell' = true
theorem rdOne_bytes : RdOne layBytes := fun w hi p cs h u hu => by
  obtain ⟨v, rfl, ⟨ao, cap, rfl, _⟩, _⟩ := h
  simp at hu
  subst hu
  rfl
def cat2 {β : Type} (x : Nat → β) (n : Nat) (y : Nat → β) : Nat → β := fun i => if i < n then x i else y (i - n)
theorem cat2_lt {β : Type} (x : Nat → β) {n i : Nat} (y : Nat → β) (h : i < n) : cat2 x n y i = x i := if_pos h
theorem cat2_ge {β : Type} (x : Nat → β) (n : Nat) (y : Nat → β) (i : Nat) : cat2 x n y (n + i) = y i := by
  unfold cat2
  rw [if_neg (by omega)]
  congr 1
  omega
theorem catN_cat2 {β : Type} (x : Nat → List β) (n : Nat) (y : Nat → List β) : ∀ m, catN (n + m) (cat2 x n y) = catN n x ++ catN m y
  | 0 => by rw [catN_zero, List.append_nil]; exact catN_congr (fun i hi => cat2_lt x y hi)
  | m + 1 => by rw [← Nat.add_assoc, catN_succ, catN_cat2 x n y m, catN_succ, cat2_ge, List.append_assoc]
structure View {α : Type} (E : Lay α) (t : TypeId) (w : World) (lo hi : Nat) (v : Value) (n : Nat) (x : Nat → α) (ce : Nat → List Value) : Prop where
  row : w.ownsRow lo t E.sz v n (catN n ce)
  each : ∀ i, i < n → E.rd w hi (x i) (ce i)
section
variable {α : Type} {E : Lay α} {t : TypeId} {w w' : World} {lo hi n : Nat} {v : Value} {x : Nat → α} {ce : Nat → List Value}
theorem View.nil (x : Nat → α) (ce : Nat → List Value) (w : World) (lo hi : Nat) : View E t w lo hi (.slice none 0 0) 0 x ce := ⟨World.ownsRow_nil w lo t E.sz, fun i hi => by omega⟩
theorem View.lit0 (x : Nat → α) (ce : Nat → List Value) (w : World) (hi : Nat) : View E t (w.alloc (.cells #[] t)) w.heap.size hi (.slice (some ⟨w.heap.size, 0, none⟩) 0 0) 0 x ce := by
  have h := World.ownsRow_lit (base := w.heap.size) (e := t) (size := E.sz) w #[] 0 (Nat.le_refl _) (Nat.zero_le _) (by simp)
  exact ⟨by simpa [catN_zero] using h, fun i hi => by omega⟩
theorem View.form (h : View E t w lo hi v n x ce) : ∃ ao cap, v = .slice ao n cap := by
  rcases h.row.2 with ⟨hv, hn⟩ | ⟨g, cap, cur, rfl, _⟩
  · exact ⟨none, 0, by rw [hv, hn]⟩
  · exact ⟨_, _, rfl⟩
theorem View.form0 (h : View E t w lo hi v n x ce) (h0 : n ≠ 0) : ∃ g cap, v = .slice (some ⟨g, 0, none⟩) n cap := by
  rcases h.row.2 with ⟨hv, hn⟩ | ⟨g, cap, cur, rfl, _⟩
  · exact absurd hn h0
  · exact ⟨_, _, rfl⟩
theorem View.len (h : View E t w lo hi v n x ce) : n ≤ maxLen := by
  rcases h.row.2 with ⟨hv, hn⟩ | ⟨g, cap, cur, rfl, hbg, hgg, hnc, hcm, rest⟩
  · omega
  · omega
theorem View.kept (h : View E t w lo hi v n x ce) (hk : ∀ b, v.ownBlock = some b → w'.heap[b]? = w.heap[b]?) (hb : Below hi w w') : View E t w' lo hi v n x ce := by
  refine ⟨⟨h.row.1, ?_⟩, fun i hi => E.rd_below (h.each i hi) hb (Nat.le_refl _)⟩
  rcases h.row.2 with hn | ⟨g, cap, cur, rfl, hbg, hgg, rest⟩
  · exact .inl hn
  · exact .inr ⟨g, cap, cur, rfl, hbg, (hk g (by simp [Value.ownBlock])).trans hgg, rest⟩
theorem View.below (h : View E t w lo hi v n x ce) (hb : Below w.heap.size w w') (hh : hi ≤ w.heap.size) : View E t w' lo hi v n x ce :=
  h.kept (fun b hv => hb.block b (h.row.lt b hv).2) (hb.mono hh)
theorem View.congr {y : Nat → α} (h : View E t w lo hi v n x ce) (hy : ∀ i, i < n → x i = y i) : View E t w lo hi v n y ce := ⟨h.row, fun i hi => by rw [← hy i hi]; exact h.each i hi⟩
theorem View.lens (h : View E t w lo hi v n x ce) : ∀ i, i < n → (ce i).length = E.sz := fun i hi => E.rd_len (h.each i hi)
theorem View.cell {g cap : Nat} (h : View E t w lo hi (.slice (some ⟨g, 0, none⟩) n cap) n x ce) {i j : Nat} (hi : i < n) (hj : j < E.sz) : w.cell? ⟨g, i * E.sz + j, none⟩ = (ce i)[j]? := by
  rw [h.row.cellAt _ (mul_lt hi hj), catN_get h.lens hi hj]
theorem View.rd (h : View E t w lo hi v n x ce) (hh : hi ≤ w.heap.size) : (E.slice t).rd w w.heap.size (n, x) [v] := by
  have hlt := fun b hb => (h.row.lt b hb).2
  obtain ⟨ao, cap, rfl⟩ := h.form
  refine ⟨ao, cap, rfl, h.len, fun h0 => ?_⟩
  obtain ⟨g, cap', e⟩ := h.form0 h0
  cases e
  refine ⟨g, 0, rfl, hlt g (by simp [Value.ownBlock]), fun i hi => ⟨ce i, E.rd_mono (h.each i hi) hh, fun j hj => ?_⟩⟩
  rw [Nat.zero_add]
  exact h.cell hi hj
theorem View.store1 {g cap : Nat} (h : View E t w lo hi (.slice (some ⟨g, 0, none⟩) n cap) n x ce) (h1 : E.sz = 1) (hlo : hi ≤ lo) {i : Nat} (hi' : i < n) {u : Value} {a : α} (ha : E.rd w hi a [u]) :
    View E t (w.setCell ⟨g, i, none⟩ u) lo hi (.slice (some ⟨g, 0, none⟩) n cap) n (upd x i a) (upd ce i [u]) ∧ Below lo w (w.setCell ⟨g, i, none⟩ u) := by
  have hg := h.row.lt g rfl
  have hb : Below lo w (w.setCell ⟨g, i, none⟩ u) := (Below.refl _ _).setCell hg.1 _
  refine ⟨⟨?_, fun m hm => ?_⟩, hb⟩
  · have := (h.row.stored (i * E.sz + 0) u).1
    rw [catN_set h.lens hi' (by omega)] at this
    rw [show i * E.sz + 0 = i by rw [h1]; omega] at this
    have hl := h.lens i hi'
    rw [h1] at hl
    obtain ⟨c, hc⟩ := List.length_eq_one_iff.1 hl
    rw [hc] at this
    exact this
  · by_cases c : m = i
    · subst c
      rw [upd_at, upd_at]
      exact E.rd_below ha hb hlo
    · rw [upd_ne x a c, upd_ne ce _ c]
      exact E.rd_below (h.each m hm) hb hlo
def Src (E : Lay α) (w : World) (hi : Nat) (ao : Option Addr) (m : Nat) (y : Nat → α) (cy : Nat → List Value) : Prop :=
  (m ≠ 0 → ∃ b off, ao = some ⟨b, off, none⟩ ∧ ∀ j, j < m → ∀ k, k < E.sz → w.cell? ⟨b, off + (j * E.sz + k), none⟩ = (cy j)[k]?) ∧ ∀ j, j < m → E.rd w hi (y j) (cy j)
theorem src_one {b : Nat} {y : α} {cs : List Value} (hc : ∀ k, k < E.sz → w.cell? ⟨b, k, none⟩ = cs[k]?) (hy : E.rd w hi y cs) : Src E w hi (some ⟨b, 0, none⟩) 1 (fun _ => y) (fun _ => cs) :=
  ⟨fun _ => ⟨b, 0, rfl, fun j hj k hk => by
    obtain rfl : j = 0 := by omega
    rw [← hc k hk]
    congr 2
    omega⟩, fun _ _ => hy⟩
theorem add_oo (b o j : Nat) : (⟨b, o, none⟩ : Addr).add j = ⟨b, o + j, none⟩ := by unfold Addr.add; split <;> simp_all
end
theorem run_appendV {α : Type} {E : Lay α} {T e : TypeId} {by_ : Nat} {zs : List Value} (I : ElInfo E T e by_ zs) (R1 : RdOne E) (ty : TypeId) {W : World} {lo hi n : Nat} {v : Value} {x : Nat → α} {ce : Nat → List Value} (h : View E e W lo hi v n x ce)
    {ao : Option Addr} {m : Nat} (c : Nat) {y : Nat → α} {cy : Nat → List Value} (hs : Src E W hi ao m y cy) (hlo : lo ≤ W.heap.size) (hhi : hi ≤ lo) (hn : n + m ≤ 10000000) (hc0 : ao = none → c = 0 ∨ m = 0) :
    ∃ v' w', (Builtin.append_ #[T, T] ty #[v, .slice ao m c]).run Tryz.prog W = .ok v' w' ∧ View E e w' lo hi v' (n + m) (cat2 x n y) (cat2 ce n cy) ∧ W.grownBy w' v.ownBlock ∧ Below lo W w' := by
  obtain ⟨hz, hzs, hu, hinf, few⟩ := I
  obtain ⟨i0, hi0⟩ : ∃ i0, Tryz.prog.info? e = some i0 := by
    cases h : Tryz.prog.info? e with
    | none => rw [h] at hinf; cases hinf
    | some i0 => exact ⟨i0, rfl⟩
  rw [hi0] at hinf
  simp only [Option.map_some, Option.some.injEq, Prod.mk.injEq] at hinf
  obtain ⟨h1, h2, h3⟩ := hinf
  obtain ⟨z, hz0, hzc⟩ : ∃ z, i0.zero = some z ∧ z.cells = zs.toArray := by
    cases h : i0.zero with
    | none => rw [h] at h1; cases h1
    | some z => rw [h] at h1; exact ⟨z, rfl, by simpa using h1⟩
  obtain ⟨hcell, hrd⟩ := hs
  have hlen : (catN m cy).length = m * E.sz := catN_len (fun j hj => E.rd_len (hrd j hj))
  have big : ∀ ad, ao = some ad → (∀ j u, (catN m cy)[j]? = some u → W.cell? (ad.add j) = some u) → ∃ v' w', (Builtin.append_ #[T, T] ty #[v, .slice ao m c]).run Tryz.prog W = .ok v' w' ∧ View E e w' lo hi v' (n + m) (cat2 x n y) (cat2 ce n cy) ∧ W.grownBy w' v.ownBlock ∧ Below lo W w' := fun ad ha hc => by
    subst ha
    obtain ⟨v', w', hr, r1, r2, r3, r4⟩ := run_append_own_at (P := Tryz.prog) W lo T ty e i0 z E.sz by_ hu hi0 hz0 h2 h3 (by rw [hzc]; simpa using hzs) hz v n (catN n ce) h.row ad m c (catN m cy) hlen hc
      (fun u hu => by
        obtain ⟨i, hi, hm⟩ := mem_catN.1 hu
        exact R1 _ _ _ _ (hrd i hi) u hm) (by unfold maxLen; omega) (by
        have : (n + m) * by_ ≤ 10000000 * 1000 := Nat.mul_le_mul hn few
        omega) hlo
    have hb : Below lo W w' := (Below.refl _ _).grown r2 hlo (fun k hk => (h.row.lt k hk).1)
    refine ⟨v', w', hr, ⟨by rw [catN_cat2]; exact r1, fun i hi => ?_⟩, r2, hb⟩
    by_cases c1 : i < n
    · rw [cat2_lt x y c1, cat2_lt ce cy c1]
      exact E.rd_below (h.each i c1) hb hhi
    · obtain ⟨k, rfl⟩ : ∃ k, i = n + k := ⟨i - n, by omega⟩
      rw [cat2_ge, cat2_ge]
      exact E.rd_below (hrd k (by omega)) hb hhi
  by_cases hm : m = 0
  · subst hm
    cases ao with
    | some ad => exact big ad rfl (fun j u hj => by rw [catN_zero] at hj; simp at hj)
    | none =>
      refine ⟨v, W, run_append_none' W lo T ty e i0 E.sz hu hi0 v n c _ h.row, ⟨by rw [catN_cat2, catN_zero, List.append_nil]; exact h.row, fun i hi => ?_⟩, ⟨rfl, rfl, rfl, Nat.le_refl _, fun _ _ _ => rfl⟩, Below.refl _ _⟩
      have hi' : i < n := by omega
      rw [cat2_lt x y hi', cat2_lt ce cy hi']
      exact h.each i hi'
  · obtain ⟨b, off, rfl, hcc⟩ := hcell hm
    refine big _ rfl (fun j u hj => ?_)
    have hj' : j < m * E.sz := by rw [← hlen]; exact (List.getElem?_eq_some_iff.1 hj).1
    have e1 : j / E.sz < m := Nat.div_lt_of_lt_mul (by rw [Nat.mul_comm]; exact hj')
    have e2 : j % E.sz < E.sz := Nat.mod_lt _ hz
    have e3 : j / E.sz * E.sz + j % E.sz = j := by rw [Nat.mul_comm]; exact Nat.div_add_mod j E.sz
    rw [add_oo, ← e3, hcc _ e1 _ e2, ← catN_get (fun j hj => E.rd_len (hrd j hj)) e1 e2, e3]
    exact hj
end Go.Proofs.YtkijpgfmjogagaaGreat
namespace Go.Proofs.YtkijpgfmjogagaaGreat
open Go.RowKit F256
theorem run_appendAt (w : World) (ty : TypeId) (lo hi : Nat) (v : Value) (n : Nat) (f : Nat → Nat) (hown : Own w lo hi v n f) (b c : Nat) (hcell : w.cell? ⟨b, 0, none⟩ = some (.int .u8 (f n))) (hn : n + 1 ≤ 1000000) (hlo : lo ≤ w.heap.size) :
    ∃ v' w', (Builtin.append_ #[91, 91] ty #[v, .slice (some ⟨b, 0, none⟩) 1 c]).run Tryz.prog w = .ok v' w' ∧ Own w' lo w'.heap.size v' (n + 1) f ∧ w.grownBy w' v.ownBlock ∧ (v'.ownBlock = v.ownBlock ∨ v'.ownBlock = some w.heap.size) := by
  obtain ⟨i0, hi0, hz0, hz1, hz2⟩ := info_parts info_u8
  obtain ⟨v', w', hr, h2, h3, _, h4⟩ := run_append_own_at (P := Tryz.prog) w lo 91 ty 5 i0 (.int .u8 0) 1 1 Tryz.underlying91 hi0 hz0 hz1 hz2 rfl (by decide) v n (cellsOf n f) hown.1 ⟨b, 0, none⟩ 1 c [.int .u8 (f n)] rfl
    (fun j u hj => by
      match j, hj with
      | 0, hj => simp at hj; subst hj; simpa [Addr.add] using hcell)
    (fun u hu => by simp at hu; subst hu; rfl) (by unfold maxLen; omega) (by omega) hlo
  rw [cellsOf_snoc] at h2
  exact ⟨v', w', hr, ⟨h2, fun k hk => (h2.lt k hk).2⟩, h3, h4⟩
theorem step_appendAt {ops : Array Oper} {o : Oper} {a : Act} {w : World} {K : Act → World → Prop} {Q : Exit → Act → World → Prop} {E : Prop}
    (hg : o.guard = none) (s x : Operand) (hop : o.op = Op.call { callee := Callee.builtin Builtin.append, args := #[s, x], argTypes := #[91, 91] })
    (lo hi : Nat) (v : Value) (n : Nat) (f : Nat → Nat) (hs : a.eval s = v) (hown : Own w lo hi v n f) (b c : Nat) (hx : a.eval x = .slice (some ⟨b, 0, none⟩) 1 c) (hcell : w.cell? ⟨b, 0, none⟩ = some (.int .u8 (f n)))
    (hn : n + 1 ≤ 1000000) (hlo : lo ≤ w.heap.size)
    (hK : ∀ v' w', Own w' lo w'.heap.size v' (n + 1) f → w.grownBy w' v.ownBlock → (v'.ownBlock = v.ownBlock ∨ v'.ownBlock = some w.heap.size) → K (a.put o.dst v') w') :
    if Region.wanted o (yielded ops a.tmps) = true then Oper.wp Tryz.prog o a w K Q else E := by
  have hw : Region.wanted o (yielded ops a.tmps) = true := by simp [Region.wanted, hg]
  rw [if_pos hw]
  obtain ⟨v', w', hrun, r1, r2, r3⟩ := run_appendAt w o.type lo hi v n f hown b c hcell hn hlo
  unfold Oper.wp
  simp [execOp, hop, resolve, invoke, builtin, hs, hx, hrun, Result.andThen]
  exact hK v' w' r1 r2 r3
theorem OwnE.grow {w w2 : World} {lo : Nat} {v : Value} {R : Nat} {n n' : Nat → Nat} {M : Mat} {g cap : Nat} {e : Nat → Value} {x : Value} {o : Obj} (h : OwnE w lo w.heap.size v R n M g cap e) (i : Nat) (hi' : i < R)
    (hg : (w.alloc o).grownBy w2 (e i).ownBlock) (ho : Own w2 lo w2.heap.size x (n' i) (M i)) (hx : x.ownBlock = (e i).ownBlock ∨ x.ownBlock = some (w.heap.size + 1)) (hn : ∀ j, j < R → j ≠ i → n' j = n j) :
    OwnE (w2.setCell ⟨g, i, none⟩ x) lo w2.heap.size v R n' M g cap (fun j => if j = i then x else e j) := by
  have hs : w.heap.size + 1 ≤ w2.heap.size := by have := hg.size; simpa using this
  have hhi := h.high
  have kp : ∀ b, b < w.heap.size → (e i).ownBlock ≠ some b → w2.heap[b]? = w.heap[b]? := fun b hb hne =>
    (hg.block b (by simp; omega) (fun hh => hne hh.symm)).trans (Below.heap_alloc w o b hb)
  have hr := row_kept (w' := w2) h.row fun b hb => by
    have e1 : b = g := by rw [h.val] at hb; simpa [Value.ownBlock] using hb.symm
    subst e1
    exact kp b hhi (h.apart.1 i hi')
  rw [h.val] at hr
  have hst := (hr.stored i x).1
  rw [valsOf_set R e (fun j => if j = i then x else e j) i x hi' (fun j _ => rfl)] at hst
  have oth : ∀ b, b ≠ g → (w2.setCell ⟨g, i, none⟩ x).heap[b]? = w2.heap[b]? := fun b hbg => heap_setCell_other w2 ⟨g, i, none⟩ b _ hbg
  have low : ∀ q, q < R → ∀ k, (e q).ownBlock = some k → k < w.heap.size := fun q hq k hk => (h.each q hq).2 k hk
  have xng : x.ownBlock ≠ some g := fun hh => by
    rcases hx with hx | hx
    · rw [hx] at hh
      exact h.apart.1 i hi' hh
    · rw [hx] at hh
      cases hh
      omega
  refine ⟨h.val, h.low, by omega, by rw [h.val]; exact hst, fun j hj => ?_, ⟨fun j hj => ?_, fun j l hj hl hne k hk => ?_⟩⟩
  · by_cases c : j = i
    · subst c
      simp only [if_pos]
      exact ho.kept fun k hk => oth k fun hkg => xng (by rw [hk, hkg])
    · simp only [if_neg c]
      rw [hn j hj c]
      refine ((h.each j hj).kept fun k hk => ?_).weaken (Nat.le_refl _) (by omega)
      exact (oth k fun hkg => h.apart.1 j hj (by rw [hk, hkg])).trans (kp k (low j hj k hk) fun hh => h.apart.2 i j hi' hj (fun z => c z.symm) k hh hk)
  · by_cases c : j = i
    · simp only [if_pos c]
      exact xng
    · simp only [if_neg c]
      exact h.apart.1 j hj
  · by_cases c : j = i
    · have c2 : ¬ l = i := fun z => hne (by rw [c, z])
      simp only [if_pos c] at hk
      simp only [if_neg c2]
      intro hh
      rcases hx with hx | hx
      · rw [hx] at hk
        exact h.apart.2 i l hi' hl (fun z => c2 z.symm) k hk hh
      · rw [hx] at hk
        cases hk
        have := low l hl _ hh
        omega
    · simp only [if_neg c] at hk
      by_cases c2 : l = i
      · simp only [if_pos c2]
        intro hh
        rcases hx with hx | hx
        · rw [hx] at hh
          exact h.apart.2 i j hi' hj (fun z => c z.symm) k hh hk
        · rw [hx] at hh
          cases hh
          have := low j hj _ hk
          omega
      · simp only [if_neg c2]
        exact h.apart.2 j l hj hl hne k hk
end Go.Proofs.YtkijpgfmjogagaaGreat