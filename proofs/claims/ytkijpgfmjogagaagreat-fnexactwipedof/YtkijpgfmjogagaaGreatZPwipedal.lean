/- Walks of the small ones that ask: of both sides. -/
import Derived.Test.YtkijpgfmjogagaaGreatZPwipedak
import Derived.Test.YtkijpgfmjogagaaGreatZPwipedah
import Derived.Test.YtkijpgfmjogagaaGreatZPwipedai
import Derived.Deep.DeepCutAuto
import Derived.Test.YtkijpgfmjogagaaGreatZPwipedaa
import Derived.OrdersHeld
import Derived.Deep.RegionHeld
import Derived.Test.YtkijpgfmjogagaaGreatZPwipedaj
import Derived.Test.YtkijpgfmjogagaaGreatZPwipedae
import Derived.Test.YtkijpgfmjogagaaGreatZPwipedaf
set_option linter.unusedVariables false
set_option linter.unusedSimpArgs false
namespace Go.Proofs.YtkijpgfmjogagaaGreat
open Go.RowKit F256
def PlaceP (s : Nat → Int) (g k r : Int) : Prop := InP g 0 (s 0 + s 1 - 1) ∧ InP k 0 (s 2 + s 3 - 1) ∧ InP r 0 (s 4 - 1)
theorem size_S : (Tryz.prog.info? 33).map (·.size) = some 9 := by kernel_rfl
set_option maxHeartbeats 4000000 in
set_option maxRecDepth 20000 in
theorem l5Place_any (s : Nat → Int) (hok : OkShape s) (g k r : Int) (w : World) : Calls Tryz.prog 36 #[shapeV s, .int .i64 g, .int .i64 k, .int .i64 r] w (BoolP (PlaceP s g k r) w) := by
  have hb := okB hok
  obtain ⟨t1, h1⟩ := exB (InP g 0 (s 0 + s 1 - 1))
  obtain ⟨t2, h2⟩ := exB (InP k 0 (s 2 + s 3 - 1))
  obtain ⟨t3, h3⟩ := exB (InP r 0 (s 4 - 1))
  have CA := fun w' => l5All_any s hok w'
  have CD := fun w' => l5Drives_any s hok w'
  have C1 := fun w' => l1In_b (w := w') h1
  have C2 := fun w' => l1In_b (w := w') h2
  have C3 := fun w' => l1In_b (w := w') h3
  have HE : Hid (PlaceP s g k r ↔ (t1 = true ∧ t2 = true ∧ t3 = true)) := by
    show PlaceP s g k r ↔ _
    rw [h1, h2, h3]
    exact Iff.rfl
  have T0 := one_new w #[.int .i64 (s 0), .int .i64 (s 1), .int .i64 (s 2), .int .i64 (s 3), .int .i64 (s 4), .int .i64 (s 5), .int .i64 (s 6), .int .i64 (s 7), .int .i64 (s 8)] 33
  unfold shapeV at CA CD ⊢
  clear h1 h2 h3 hok
  go_enter Tryz.func36, Tryz.ntmps36
  go_wp2_with (refine wp_loadBox 33 (.tmp 4) rfl rfl w.heap.size rfl (cs := [.int .i64 (s 0), .int .i64 (s 1), .int .i64 (s 2), .int .i64 (s 3), .int .i64 (s 4), .int .i64 (s 5), .int .i64 (s 6), .int .i64 (s 7), .int .i64 (s 8)]) T0.b1 Tryz.underlying33 size_S rfl ?_)
  refine (CA _).mono ?_
  rintro e w1 ⟨rfl, b1⟩
  have T1 := T0.call b1
  have HT1 : Hid (One w w1 #[.int .i64 (s 0), .int .i64 (s 1), .int .i64 (s 2), .int .i64 (s 3), .int .i64 (s 4), .int .i64 (s 5), .int .i64 (s 6), .int .i64 (s 7), .int .i64 (s 8)] 33) := T1
  have z1 : IntKind.i64.wrap (s 0 + s 1 - 1) = s 0 + s 1 - 1 := by rw [IntKind.wrap_i64]; omega
  have z2 : IntKind.i64.wrap (s 2 + s 3 - 1) = s 2 + s 3 - 1 := by rw [IntKind.wrap_i64]; omega
  have z3 : IntKind.i64.wrap (s 4 - 1) = s 4 - 1 := by rw [IntKind.wrap_i64]; omega
  have x_0 : w1.cell? ⟨w.heap.size, 0, none⟩ = some (.int .i64 (s 0)) := T1.b1.cell 0
  have x_1 : w1.cell? ⟨w.heap.size, 1, none⟩ = some (.int .i64 (s 1)) := T1.b1.cell 1
  have x_2 : w1.cell? ⟨w.heap.size, 2, none⟩ = some (.int .i64 (s 2)) := T1.b1.cell 2
  have x_3 : w1.cell? ⟨w.heap.size, 3, none⟩ = some (.int .i64 (s 3)) := T1.b1.cell 3
  have x_4 : w1.cell? ⟨w.heap.size, 4, none⟩ = some (.int .i64 (s 4)) := T1.b1.cell 4
  have x_5 : w1.cell? ⟨w.heap.size, 5, none⟩ = some (.int .i64 (s 5)) := T1.b1.cell 5
  have x_6 : w1.cell? ⟨w.heap.size, 6, none⟩ = some (.int .i64 (s 6)) := T1.b1.cell 6
  have x_7 : w1.cell? ⟨w.heap.size, 7, none⟩ = some (.int .i64 (s 7)) := T1.b1.cell 7
  have x_8 : w1.cell? ⟨w.heap.size, 8, none⟩ = some (.int .i64 (s 8)) := T1.b1.cell 8
  clear T0 b1 T1
  go_wp2_with fail
  refine (C1 _).mono ?_
  rintro e w' ⟨rfl, hw'⟩
  obtain rfl := hw'.symm
  cases t1 with
  | false =>
    go_wp2
    go_ret
    exact boolNo rfl (fun h => by have := HE.out.1 h; simp at this) HT1.out.bel
  | true =>
  go_wp2_with fail
  refine (CD _).mono ?_
  rintro e w2 ⟨rfl, b2⟩
  have T2 := HT1.out.call b2
  have HB2 : Hid (Below w.heap.size w w2) := T2.bel
  have y4 : w2.cell? ⟨w.heap.size, 4, none⟩ = some (.int .i64 (s 4)) := T2.b1.cell 4
  clear b2 T2 x_0 x_1 x_2 x_3 x_4 x_5 x_6 x_7 x_8
  go_wp2_with fail
  refine (C2 _).mono ?_
  rintro e w' ⟨rfl, hw'⟩
  obtain rfl := hw'.symm
  cases t2 with
  | false =>
    go_wp2
    go_ret
    exact boolNo rfl (fun h => by have := HE.out.1 h; simp at this) HB2.out
  | true =>
  go_wp2_with fail
  refine (C3 _).mono ?_
  rintro e w' ⟨rfl, hw'⟩
  obtain rfl := hw'.symm
  cases t3 with
  | false =>
    go_wp2
    go_ret
    exact boolNo rfl (fun h => by have := HE.out.1 h; simp at this) HB2.out
  | true =>
    go_wp2
    go_ret
    exact boolYes rfl (HE.out.2 (by simp)) HB2.out
end Go.Proofs.YtkijpgfmjogagaaGreat
namespace Go.Proofs.YtkijpgfmjogagaaGreat
open Go.RowKit F256
def wipB (d : WorldD) (G : Nat) : Nat → Bool := fun k => ((d.groups.2 G).2 k).wiped
def wipF (d : WorldD) (G : Nat) : Nat → Int := fun i => (pickF (wipB d G) (d.groups.2 G).1 i : Int)
def KnowAns (d : WorldD) (g x : Int) : Prop := (x ≠ 0 ∧ WldAns d x) ∨ (WldAns d 0 ∧ ((¬ InP g 0 (d.shape 0 + d.shape 1 - 1) ∧ x = 3) ∨ (InP g 0 (d.shape 0 + d.shape 1 - 1) ∧ x = 0)))
theorem KnowAns.one {d : WorldD} {g x y : Int} (h : KnowAns d g x) (k : KnowAns d g y) : x = y := by
  rcases h with ⟨h1, h2⟩ | ⟨h1, h2⟩ <;> rcases k with ⟨k1, k2⟩ | ⟨k1, k2⟩
  · exact h2.one k2
  · exact absurd (h2.one k1) h1
  · exact absurd (k2.one h1) k1
  · rcases h2 with ⟨a, rfl⟩ | ⟨a, rfl⟩ <;> rcases k2 with ⟨b, rfl⟩ | ⟨b, rfl⟩
    · rfl
    · exact absurd b a
    · exact absurd a b
    · rfl
theorem KnowAns.zero {d : WorldD} {g : Int} (h : KnowAns d g 0) : WldAns d 0 ∧ InP g 0 (d.shape 0 + d.shape 1 - 1) := by
  rcases h with ⟨h1, h2⟩ | ⟨h1, h2⟩
  · exact absurd rfl h1
  · rcases h2 with ⟨a, b⟩ | ⟨a, b⟩
    · omega
    · exact ⟨h1, a⟩
theorem know_ex (d : WorldD) (g : Int) : ∃ x, KnowAns d g x ∨ ¬ ∃ y, WldAns d y := by
  by_cases h : ∃ y, WldAns d y
  · obtain ⟨y, hy⟩ := h
    by_cases h0 : y = 0
    · subst h0
      by_cases hg : InP g 0 (d.shape 0 + d.shape 1 - 1)
      · exact ⟨0, .inl (.inr ⟨hy, .inr ⟨hg, rfl⟩⟩)⟩
      · exact ⟨3, .inl (.inr ⟨hy, .inl ⟨hg, rfl⟩⟩)⟩
    · exact ⟨y, .inl (.inl ⟨h0, hy⟩)⟩
  · exact ⟨0, .inr h⟩
theorem know_small {d : WorldD} {g x : Int} (h : KnowAns d g x) : -9223372036854775808 ≤ x ∧ x ≤ 9223372036854775807 := by
  rcases h with ⟨h1, h2⟩ | ⟨h1, h2⟩
  · exact wld_small h2
  · rcases h2 with ⟨a, rfl⟩ | ⟨a, rfl⟩ <;> decide
def WipAns (d : WorldD) (g : Int) (q : IntsResultD) : Prop := (∃ x, x ≠ 0 ∧ KnowAns d g x ∧ q = ⟨x, (0, fun _ => 0)⟩) ∨ (KnowAns d g 0 ∧ q = ⟨0, ((pickI (wipB d g.toNat) (d.groups.2 g.toNat).1).length, wipF d g.toNat)⟩)
theorem WipAns.one {d : WorldD} {g : Int} {p q : IntsResultD} (h : WipAns d g p) (k : WipAns d g q) : p = q := by
  rcases h with ⟨x, h1, h2, rfl⟩ | ⟨h1, rfl⟩ <;> rcases k with ⟨y, k1, k2, rfl⟩ | ⟨k1, rfl⟩
  · rw [h2.one k2]
  · exact absurd (h2.one k1) h1
  · exact absurd (k2.one h1) k1
  · rfl
def IrPost (P : IntsResultD → Prop) (w : World) (e : Ending) (w' : World) : Prop := ∃ q cs, e = .returned (.agg cs.toArray) ∧ P q ∧ OwnT layIntsResult w' w.heap.size w'.heap.size q cs ∧ Below w.heap.size w w'
theorem size_Is : (Tryz.prog.info? 31).map (·.size) = some 2 := by kernel_rfl
theorem ires_own {w : World} {lo hi n cap : Nat} {ao : Option Addr} {f : Nat → Int} (h : OwnI w lo hi (.slice ao n cap) n f) (hhi : hi ≤ w.heap.size) (hb : ∀ i, -9223372036854775808 ≤ f i ∧ f i ≤ 9223372036854775807) (c : Int) (hc : -9223372036854775808 ≤ c ∧ c ≤ 9223372036854775807) : OwnT layIntsResult w lo hi ⟨c, (n, f)⟩ [.int .i64 c, .slice ao n cap] :=
  ⟨(Value.slice ao n cap).ownBlock.toList, IntsResult_mk ⟨c, (n, f)⟩ ⟨_, rfl, rfl, h.weaken (Nat.zero_le _) hhi, hb⟩ hc, by cases (Value.slice ao n cap).ownBlock <;> simp, fun b hb => by
    have e : (Value.slice ao n cap).ownBlock = some b := by simpa using hb
    exact ⟨(h.1.lt b e).1, h.2 b e⟩⟩
theorem icode_own (w : World) (c : Int) (hc : -9223372036854775808 ≤ c ∧ c ≤ 9223372036854775807) (lo hi : Nat) (hhi : hi ≤ w.heap.size) : OwnT layIntsResult w lo hi ⟨c, (0, fun _ => 0)⟩ [.int .i64 c, .slice none 0 0] := ires_own (ownI_nil w lo hi _) hhi (fun _ => by decide) c hc
theorem grp_few {d : WorldD} (h : OkWorld d) {G : Nat} (hG : G < d.groups.1) : ((d.groups.2 G).1 : Int) = d.shape 2 + d.shape 3 ∧ (d.groups.2 G).1 ≤ 100 := by
  have h1 := (h.form.1.2 G hG).1
  obtain ⟨_, q, _⟩ := h.shape
  unfold Shp at q
  omega
theorem wipF_in {d : WorldD} (h : OkWorld d) {G : Nat} (hG : G < d.groups.1) (i : Nat) : -9223372036854775808 ≤ wipF d G i ∧ wipF d G i ≤ 9223372036854775807 := by
  have h1 := pickF_le (wipB d G) (d.groups.2 G).1 i
  have h2 := (grp_few h hG).2
  unfold wipF
  omega
set_option maxHeartbeats 16000000 in
set_option maxRecDepth 20000 in
theorem knownFault_any (d : WorldD) (g : Int) (cs : List Value) (hi : Nat) (w : World) (h : layWorld.rd w hi d cs) (hhi : hi ≤ w.heap.size) (hsz : szWorldD d ≤ 1048576) :
    Calls Tryz.prog 25 #[.agg cs.toArray, .int .i64 g] w (fun e w' => ∃ x, e = .returned (.int .i64 x) ∧ KnowAns d g x ∧ Below w.heap.size w w') := by
  have h' := h
  obtain ⟨ao1, cap1, ao2, cap2, ao3, cap3, rfl, g1, g2, g3, k0, k4, k5⟩ := World_rd h'
  have HRD : Hid (layWorld.rd w hi d [.int .i64 (d.shape 0), .int .i64 (d.shape 1), .int .i64 (d.shape 2), .int .i64 (d.shape 3), .int .i64 (d.shape 4), .int .i64 (d.shape 5), .int .i64 (d.shape 6), .int .i64 (d.shape 7), .int .i64 (d.shape 8), .slice ao1 d.groups.1 cap1, .slice ao2 d.on.1 cap2, .slice ao3 d.tapes.1 cap3, .int .i64 d.writes, .int .i64 d.stop, .bool d.down]) := h
  have HSZ : Hid (szWorldD d ≤ 1048576) := hsz
  clear h h' hsz g1 g2 g3 k0 k4 k5
  have T0 := one_new w #[.int .i64 (d.shape 0), .int .i64 (d.shape 1), .int .i64 (d.shape 2), .int .i64 (d.shape 3), .int .i64 (d.shape 4), .int .i64 (d.shape 5), .int .i64 (d.shape 6), .int .i64 (d.shape 7), .int .i64 (d.shape 8), .slice ao1 d.groups.1 cap1, .slice ao2 d.on.1 cap2, .slice ao3 d.tapes.1 cap3, .int .i64 d.writes, .int .i64 d.stop, .bool d.down] 37
  go_enter Tryz.func25, Tryz.ntmps25
  go_wp2_with (refine wp_loadBox 37 (.tmp 2) rfl rfl (w.heap.size) rfl (cs := [.int .i64 (d.shape 0), .int .i64 (d.shape 1), .int .i64 (d.shape 2), .int .i64 (d.shape 3), .int .i64 (d.shape 4), .int .i64 (d.shape 5), .int .i64 (d.shape 6), .int .i64 (d.shape 7), .int .i64 (d.shape 8), .slice ao1 d.groups.1 cap1, .slice ao2 d.on.1 cap2, .slice ao3 d.tapes.1 cap3, .int .i64 d.writes, .int .i64 d.stop, .bool d.down]) (T0.b1) Tryz.underlying37 size_W rfl ?_)
  refine (implWorld_any d _ hi _ (layWorld.rd_below HRD.out T0.bel hhi) (Nat.le_trans hhi T0.bel.size) (wld_ok_names HSZ.out)).mono ?_
  rintro e w1 ⟨x, rfl, hx, b1⟩
  have HT1 : Hid (One w w1 #[.int .i64 (d.shape 0), .int .i64 (d.shape 1), .int .i64 (d.shape 2), .int .i64 (d.shape 3), .int .i64 (d.shape 4), .int .i64 (d.shape 5), .int .i64 (d.shape 6), .int .i64 (d.shape 7), .int .i64 (d.shape 8), .slice ao1 d.groups.1 cap1, .slice ao2 d.on.1 cap2, .slice ao3 d.tapes.1 cap3, .int .i64 d.writes, .int .i64 d.stop, .bool d.down] 37) := T0.call b1
  have HX : Hid (WldAns d x) := hx
  clear b1 T0 hx
  by_cases hx0 : x = 0
  case neg =>
    have hne : (x != 0) = true := by simp [hx0]
    go_wp2
    go_ret
    exact ⟨x, rfl, .inl ⟨hx0, HX.out⟩, HT1.out.bel⟩
  subst hx0
  have HOK : Hid (OkWorld d) := WldAns.ok HX.out
  obtain ⟨t, ht⟩ : ∃ t : Bool, (t = true ↔ InP g 0 (d.shape 0 + d.shape 1 - 1)) := ⟨@decide _ (Classical.propDecidable _), @decide_eq_true_iff _ (Classical.propDecidable _)⟩
  have HTT : Hid (t = true ↔ InP g 0 (d.shape 0 + d.shape 1 - 1)) := ht
  have x_0 : w1.cell? ⟨w.heap.size, 0, none⟩ = some (.int .i64 (d.shape 0)) := HT1.out.b1.cell 0
  have x_1 : w1.cell? ⟨w.heap.size, 1, none⟩ = some (.int .i64 (d.shape 1)) := HT1.out.b1.cell 1
  have x_2 : w1.cell? ⟨w.heap.size, 2, none⟩ = some (.int .i64 (d.shape 2)) := HT1.out.b1.cell 2
  have x_3 : w1.cell? ⟨w.heap.size, 3, none⟩ = some (.int .i64 (d.shape 3)) := HT1.out.b1.cell 3
  have x_4 : w1.cell? ⟨w.heap.size, 4, none⟩ = some (.int .i64 (d.shape 4)) := HT1.out.b1.cell 4
  have x_5 : w1.cell? ⟨w.heap.size, 5, none⟩ = some (.int .i64 (d.shape 5)) := HT1.out.b1.cell 5
  have x_6 : w1.cell? ⟨w.heap.size, 6, none⟩ = some (.int .i64 (d.shape 6)) := HT1.out.b1.cell 6
  have x_7 : w1.cell? ⟨w.heap.size, 7, none⟩ = some (.int .i64 (d.shape 7)) := HT1.out.b1.cell 7
  have x_8 : w1.cell? ⟨w.heap.size, 8, none⟩ = some (.int .i64 (d.shape 8)) := HT1.out.b1.cell 8
  have CB := isGroup_b HOK.out.shape ht w1
  unfold shapeV at CB
  clear ht
  go_wp2_with fail
  refine CB.mono ?_
  rintro e w2 ⟨rfl, b2⟩
  have HB2 : Hid (Below w.heap.size w w2) := (HT1.out.call b2).bel
  clear CB b2 HT1 x_0 x_1 x_2 x_3 x_4 x_5 x_6 x_7 x_8
  cases t with
  | true =>
    go_wp2
    go_ret
    exact ⟨0, rfl, .inr ⟨HX.out, .inr ⟨HTT.out.1 (by simp), rfl⟩⟩, HB2.out⟩
  | false =>
    go_wp2
    go_ret
    exact ⟨3, rfl, .inr ⟨HX.out, .inl ⟨fun h => absurd (HTT.out.2 h) (by simp), rfl⟩⟩, HB2.out⟩
set_option maxHeartbeats 16000000 in
set_option maxRecDepth 20000 in
theorem l8Asked0_any (d : WorldD) (g : Int) (cs : List Value) (hi : Nat) (w : World) (h : layWorld.rd w hi d cs) (hhi : hi ≤ w.heap.size) (hsz : szWorldD d ≤ 1048576) :
    Calls Tryz.prog 19 #[.agg cs.toArray, .int .i64 g, .int .i64 0] w (fun e w' => ∃ x, e = .returned (.int .i64 x) ∧ KnowAns d g x ∧ Below w.heap.size w w') := by
  have h' := h
  obtain ⟨ao1, cap1, ao2, cap2, ao3, cap3, rfl, g1, g2, g3, k0, k4, k5⟩ := World_rd h'
  have HRD : Hid (layWorld.rd w hi d [.int .i64 (d.shape 0), .int .i64 (d.shape 1), .int .i64 (d.shape 2), .int .i64 (d.shape 3), .int .i64 (d.shape 4), .int .i64 (d.shape 5), .int .i64 (d.shape 6), .int .i64 (d.shape 7), .int .i64 (d.shape 8), .slice ao1 d.groups.1 cap1, .slice ao2 d.on.1 cap2, .slice ao3 d.tapes.1 cap3, .int .i64 d.writes, .int .i64 d.stop, .bool d.down]) := h
  have HSZ : Hid (szWorldD d ≤ 1048576) := hsz
  clear h h' hsz g1 g2 g3 k0 k4 k5
  have T0 := one_new w #[.int .i64 (d.shape 0), .int .i64 (d.shape 1), .int .i64 (d.shape 2), .int .i64 (d.shape 3), .int .i64 (d.shape 4), .int .i64 (d.shape 5), .int .i64 (d.shape 6), .int .i64 (d.shape 7), .int .i64 (d.shape 8), .slice ao1 d.groups.1 cap1, .slice ao2 d.on.1 cap2, .slice ao3 d.tapes.1 cap3, .int .i64 d.writes, .int .i64 d.stop, .bool d.down] 37
  go_enter Tryz.func19, Tryz.ntmps19
  go_wp2_with (refine wp_loadBox 37 (.tmp 3) rfl rfl (w.heap.size) rfl (cs := [.int .i64 (d.shape 0), .int .i64 (d.shape 1), .int .i64 (d.shape 2), .int .i64 (d.shape 3), .int .i64 (d.shape 4), .int .i64 (d.shape 5), .int .i64 (d.shape 6), .int .i64 (d.shape 7), .int .i64 (d.shape 8), .slice ao1 d.groups.1 cap1, .slice ao2 d.on.1 cap2, .slice ao3 d.tapes.1 cap3, .int .i64 d.writes, .int .i64 d.stop, .bool d.down]) (T0.b1) Tryz.underlying37 size_W rfl ?_)
  refine (specWorld_any d _ hi _ (layWorld.rd_below HRD.out T0.bel hhi) (Nat.le_trans hhi T0.bel.size) (wld_ok_names HSZ.out)).mono ?_
  rintro e w1 ⟨x, rfl, hx, b1⟩
  have HT1 : Hid (One w w1 #[.int .i64 (d.shape 0), .int .i64 (d.shape 1), .int .i64 (d.shape 2), .int .i64 (d.shape 3), .int .i64 (d.shape 4), .int .i64 (d.shape 5), .int .i64 (d.shape 6), .int .i64 (d.shape 7), .int .i64 (d.shape 8), .slice ao1 d.groups.1 cap1, .slice ao2 d.on.1 cap2, .slice ao3 d.tapes.1 cap3, .int .i64 d.writes, .int .i64 d.stop, .bool d.down] 37) := T0.call b1
  have HX : Hid (WldAns d x) := hx
  clear b1 T0 hx
  by_cases hx0 : x = 0
  case neg =>
    have hne : (x != 0) = true := by simp [hx0]
    go_wp2
    go_ret
    exact ⟨x, rfl, .inl ⟨hx0, HX.out⟩, HT1.out.bel⟩
  subst hx0
  have HOK : Hid (OkWorld d) := WldAns.ok HX.out
  obtain ⟨t, ht⟩ : ∃ t : Bool, (t = true ↔ InP g 0 (d.shape 0 + d.shape 1 - 1)) := ⟨@decide _ (Classical.propDecidable _), @decide_eq_true_iff _ (Classical.propDecidable _)⟩
  have HTT : Hid (t = true ↔ InP g 0 (d.shape 0 + d.shape 1 - 1)) := ht
  have x_0 : w1.cell? ⟨w.heap.size, 0, none⟩ = some (.int .i64 (d.shape 0)) := HT1.out.b1.cell 0
  have x_1 : w1.cell? ⟨w.heap.size, 1, none⟩ = some (.int .i64 (d.shape 1)) := HT1.out.b1.cell 1
  have x_2 : w1.cell? ⟨w.heap.size, 2, none⟩ = some (.int .i64 (d.shape 2)) := HT1.out.b1.cell 2
  have x_3 : w1.cell? ⟨w.heap.size, 3, none⟩ = some (.int .i64 (d.shape 3)) := HT1.out.b1.cell 3
  have x_4 : w1.cell? ⟨w.heap.size, 4, none⟩ = some (.int .i64 (d.shape 4)) := HT1.out.b1.cell 4
  have x_5 : w1.cell? ⟨w.heap.size, 5, none⟩ = some (.int .i64 (d.shape 5)) := HT1.out.b1.cell 5
  have x_6 : w1.cell? ⟨w.heap.size, 6, none⟩ = some (.int .i64 (d.shape 6)) := HT1.out.b1.cell 6
  have x_7 : w1.cell? ⟨w.heap.size, 7, none⟩ = some (.int .i64 (d.shape 7)) := HT1.out.b1.cell 7
  have x_8 : w1.cell? ⟨w.heap.size, 8, none⟩ = some (.int .i64 (d.shape 8)) := HT1.out.b1.cell 8
  have CB := l5Place_any d.shape HOK.out.shape g 0 0 w1
  unfold shapeV at CB
  clear ht
  go_wp2_with fail
  refine CB.mono ?_
  rintro e w2 ⟨u, rfl, hu, b2⟩
  have HB2 : Hid (Below w.heap.size w w2) := (HT1.out.call b2).bel
  have eu : t = u := by
    have hiff : u = true ↔ InP g 0 (d.shape 0 + d.shape 1 - 1) := by
      rw [hu]
      obtain ⟨s1, q, _⟩ := HOK.out.shape
      unfold Shp3 at s1
      unfold Shp at q
      unfold PlaceP InP
      constructor
      · exact fun h => h.1
      · intro h; exact ⟨h, by omega, by omega⟩
    cases t <;> cases u <;> first | rfl | (exfalso; have a := HTT.out; simp only [Bool.false_eq_true, false_iff, true_iff] at a hiff; first | exact a hiff | exact hiff a)
  subst eu
  clear hu
  clear CB b2 HT1 x_0 x_1 x_2 x_3 x_4 x_5 x_6 x_7 x_8
  cases t with
  | true =>
    go_wp2
    go_ret
    exact ⟨0, rfl, .inr ⟨HX.out, .inr ⟨HTT.out.1 (by simp), rfl⟩⟩, HB2.out⟩
  | false =>
    go_wp2
    go_ret
    exact ⟨3, rfl, .inr ⟨HX.out, .inl ⟨fun h => absurd (HTT.out.2 h) (by simp), rfl⟩⟩, HB2.out⟩
set_option maxHeartbeats 16000000 in
set_option maxRecDepth 20000 in
theorem wipedOf_any (d : WorldD) (cs : List Value) (hi G : Nat) (w : World) (h : layWorld.rd w hi d cs) (hhi : hi ≤ w.heap.size) (hG : G < d.groups.1) (hfew : (d.groups.2 G).1 ≤ 100) :
    Calls Tryz.prog 26 #[.agg cs.toArray, .int .i64 (G : Int)] w (fun e w' => ∃ v', e = .returned v' ∧ OwnI w' w.heap.size w'.heap.size v' (pickI (wipB d G) (d.groups.2 G).1).length (wipF d G) ∧ Below w.heap.size w w') := by
  obtain ⟨ao1, cap1, ao2, cap2, ao3, cap3, rfl, g1, g2, g3, k0, k4, k5⟩ := World_rd h
  obtain ⟨_, _, e1, hm1, hc1⟩ := g1
  cases e1
  obtain ⟨b1, off1, he1, hb1, hel1⟩ := hc1 (by omega)
  subst he1
  obtain ⟨cg, hrg, hcg⟩ := hel1 G hG
  obtain ⟨ao9, cap9, rfl⟩ := sl_form hrg
  have c0 : w.cell? ⟨b1, off1 + G, none⟩ = some (.slice ao9 (d.groups.2 G).1 cap9) := by
    have := hcg 0 (by decide)
    have e : off1 + (G * (layDrive.slice 76).sz + 0) = off1 + G := by show off1 + (G * 1 + 0) = off1 + G; omega
    rw [e] at this
    exact this
  obtain ⟨_, _, e9, hm9, hc9⟩ := hrg
  cases e9
  have hc9' : (d.groups.2 G).1 ≠ 0 → ∃ b off, ao9 = some ⟨b, off, none⟩ ∧ b < hi ∧ ∀ i, i < (d.groups.2 G).1 → ∃ ce, layDrive.rd w hi ((d.groups.2 G).2 i) ce ∧ ∀ j, j < layDrive.sz → w.cell? ⟨b, off + (i * layDrive.sz + j), none⟩ = ce[j]? := hc9
  obtain ⟨nG, hnG⟩ : ∃ n, n = (d.groups.2 G).1 := ⟨_, rfl⟩
  have HNG : Hid (nG = (d.groups.2 G).1) := hnG
  rw [← hnG] at c0 hc9' hfew
  have HC9 : Hid (nG ≠ 0 → ∃ b off, ao9 = some ⟨b, off, none⟩ ∧ b < hi ∧ ∀ i, i < nG → ∃ ce, layDrive.rd w hi ((d.groups.2 G).2 i) ce ∧ ∀ j, j < layDrive.sz → w.cell? ⟨b, off + (i * layDrive.sz + j), none⟩ = ce[j]?) := hc9'
  have i1 : (0 : Int) ≤ (G : Int) := by omega
  have i2 : (G : Int) < (d.groups.1 : Int) := by omega
  clear g2 g3 k0 k4 k5 hcg hel1 hc1 hm1 hm9 hc9 hc9' hnG
  have T0 := one_new w #[.int .i64 (d.shape 0), .int .i64 (d.shape 1), .int .i64 (d.shape 2), .int .i64 (d.shape 3), .int .i64 (d.shape 4), .int .i64 (d.shape 5), .int .i64 (d.shape 6), .int .i64 (d.shape 7), .int .i64 (d.shape 8), .slice (some ⟨b1, off1, none⟩) d.groups.1 cap1, .slice ao2 d.on.1 cap2, .slice ao3 d.tapes.1 cap3, .int .i64 d.writes, .int .i64 d.stop, .bool d.down] 37
  have z0 : w.heap.size < (w.alloc (.cells #[.int .i64 (d.shape 0), .int .i64 (d.shape 1), .int .i64 (d.shape 2), .int .i64 (d.shape 3), .int .i64 (d.shape 4), .int .i64 (d.shape 5), .int .i64 (d.shape 6), .int .i64 (d.shape 7), .int .i64 (d.shape 8), .slice (some ⟨b1, off1, none⟩) d.groups.1 cap1, .slice ao2 d.on.1 cap2, .slice ao3 d.tapes.1 cap3, .int .i64 d.writes, .int .i64 d.stop, .bool d.down] 37)).heap.size := T0.b1.lt
  have bL : Below (w.alloc (.cells #[.int .i64 (d.shape 0), .int .i64 (d.shape 1), .int .i64 (d.shape 2), .int .i64 (d.shape 3), .int .i64 (d.shape 4), .int .i64 (d.shape 5), .int .i64 (d.shape 6), .int .i64 (d.shape 7), .int .i64 (d.shape 8), .slice (some ⟨b1, off1, none⟩) d.groups.1 cap1, .slice ao2 d.on.1 cap2, .slice ao3 d.tapes.1 cap3, .int .i64 d.writes, .int .i64 d.stop, .bool d.down] 37)).heap.size (w.alloc (.cells #[.int .i64 (d.shape 0), .int .i64 (d.shape 1), .int .i64 (d.shape 2), .int .i64 (d.shape 3), .int .i64 (d.shape 4), .int .i64 (d.shape 5), .int .i64 (d.shape 6), .int .i64 (d.shape 7), .int .i64 (d.shape 8), .slice (some ⟨b1, off1, none⟩) d.groups.1 cap1, .slice ao2 d.on.1 cap2, .slice ao3 d.tapes.1 cap3, .int .i64 d.writes, .int .i64 d.stop, .bool d.down] 37)) ((w.alloc (.cells #[.int .i64 (d.shape 0), .int .i64 (d.shape 1), .int .i64 (d.shape 2), .int .i64 (d.shape 3), .int .i64 (d.shape 4), .int .i64 (d.shape 5), .int .i64 (d.shape 6), .int .i64 (d.shape 7), .int .i64 (d.shape 8), .slice (some ⟨b1, off1, none⟩) d.groups.1 cap1, .slice ao2 d.on.1 cap2, .slice ao3 d.tapes.1 cap3, .int .i64 d.writes, .int .i64 d.stop, .bool d.down] 37)).alloc (.cells #[] 2)) := (Below.refl _ _).alloc (Nat.le_refl _) _
  have T1 := T0.call bL
  have I0 := (ownI_lit0 (w.alloc (.cells #[.int .i64 (d.shape 0), .int .i64 (d.shape 1), .int .i64 (d.shape 2), .int .i64 (d.shape 3), .int .i64 (d.shape 4), .int .i64 (d.shape 5), .int .i64 (d.shape 6), .int .i64 (d.shape 7), .int .i64 (d.shape 8), .slice (some ⟨b1, off1, none⟩) d.groups.1 cap1, .slice ao2 d.on.1 cap2, .slice ao3 d.tapes.1 cap3, .int .i64 d.writes, .int .i64 d.stop, .bool d.down] 37)) (wipF d G)).weaken (lo' := w.heap.size + 1) (by omega) (Nat.le_refl _)
  have hsA : (w.alloc (.cells #[.int .i64 (d.shape 0), .int .i64 (d.shape 1), .int .i64 (d.shape 2), .int .i64 (d.shape 3), .int .i64 (d.shape 4), .int .i64 (d.shape 5), .int .i64 (d.shape 6), .int .i64 (d.shape 7), .int .i64 (d.shape 8), .slice (some ⟨b1, off1, none⟩) d.groups.1 cap1, .slice ao2 d.on.1 cap2, .slice ao3 d.tapes.1 cap3, .int .i64 d.writes, .int .i64 d.stop, .bool d.down] 37)).heap.size = w.heap.size + 1 := by show (w.heap.push _).size = _; exact Array.size_push ..
  have I0 : OwnI ((w.alloc (.cells #[.int .i64 (d.shape 0), .int .i64 (d.shape 1), .int .i64 (d.shape 2), .int .i64 (d.shape 3), .int .i64 (d.shape 4), .int .i64 (d.shape 5), .int .i64 (d.shape 6), .int .i64 (d.shape 7), .int .i64 (d.shape 8), .slice (some ⟨b1, off1, none⟩) d.groups.1 cap1, .slice ao2 d.on.1 cap2, .slice ao3 d.tapes.1 cap3, .int .i64 d.writes, .int .i64 d.stop, .bool d.down] 37)).alloc (.cells #[] 2)) (w.heap.size + 1) ((w.alloc (.cells #[.int .i64 (d.shape 0), .int .i64 (d.shape 1), .int .i64 (d.shape 2), .int .i64 (d.shape 3), .int .i64 (d.shape 4), .int .i64 (d.shape 5), .int .i64 (d.shape 6), .int .i64 (d.shape 7), .int .i64 (d.shape 8), .slice (some ⟨b1, off1, none⟩) d.groups.1 cap1, .slice ao2 d.on.1 cap2, .slice ao3 d.tapes.1 cap3, .int .i64 d.writes, .int .i64 d.stop, .bool d.down] 37)).alloc (.cells #[] 2)).heap.size (.slice (some ⟨w.heap.size + 1, 0, none⟩) 0 0) 0 (wipF d G) := by rw [hsA] at I0; exact I0
  have x9 : ((w.alloc (.cells #[.int .i64 (d.shape 0), .int .i64 (d.shape 1), .int .i64 (d.shape 2), .int .i64 (d.shape 3), .int .i64 (d.shape 4), .int .i64 (d.shape 5), .int .i64 (d.shape 6), .int .i64 (d.shape 7), .int .i64 (d.shape 8), .slice (some ⟨b1, off1, none⟩) d.groups.1 cap1, .slice ao2 d.on.1 cap2, .slice ao3 d.tapes.1 cap3, .int .i64 d.writes, .int .i64 d.stop, .bool d.down] 37)).alloc (.cells #[] 2)).cell? ⟨w.heap.size, 9, none⟩ = some (.slice (some ⟨b1, off1, none⟩) d.groups.1 cap1) := T1.b1.cell 9
  have c0' := (T1.bel.cell (p := ⟨b1, off1 + G, none⟩) (by show b1 < w.heap.size; omega)).trans c0
  clear T0 bL hsA
  go_enter Tryz.func26, Tryz.ntmps26
  go_wp2
  go_loopw [5, 15] (fun vo i wr => ∃ k : Nat, k ≤ nG ∧ i = .int .i64 k ∧ OwnI wr (w.heap.size + 1) wr.heap.size vo (pickI (wipB d G) k).length (wipF d G) ∧ One w wr #[.int .i64 (d.shape 0), .int .i64 (d.shape 1), .int .i64 (d.shape 2), .int .i64 (d.shape 3), .int .i64 (d.shape 4), .int .i64 (d.shape 5), .int .i64 (d.shape 6), .int .i64 (d.shape 7), .int .i64 (d.shape 8), .slice (some ⟨b1, off1, none⟩) d.groups.1 cap1, .slice ao2 d.on.1 cap2, .slice ao3 d.tapes.1 cap3, .int .i64 d.writes, .int .i64 d.stop, .bool d.down] 37) (fun _ i _ => nG - (intOf i).toNat)
  case atStart => exact ⟨0, Nat.zero_le _, rfl, I0, T1⟩
  case round =>
    clear T1 I0 x9 c0' z0
    obtain ⟨k, hk, rfl, hI, T⟩ := hrel
    obtain ⟨wx, rfl⟩ : ∃ y, y = wr := ⟨_, rfl⟩
    obtain ⟨c, hc⟩ : ∃ c, c = (pickI (wipB d G) k).length := ⟨_, rfl⟩
    have HC : Hid (c = (pickI (wipB d G) k).length) := hc
    rw [← hc] at hI
    have hck : c ≤ k := by rw [hc]; exact pick_le _ _
    obtain ⟨aoo, capo, hvo⟩ := hI.slice
    subst hvo
    have HI : Hid (OwnI wx (w.heap.size + 1) wx.heap.size (.slice aoo c capo) c (wipF d G)) := hI
    have HT : Hid (One w wx #[.int .i64 (d.shape 0), .int .i64 (d.shape 1), .int .i64 (d.shape 2), .int .i64 (d.shape 3), .int .i64 (d.shape 4), .int .i64 (d.shape 5), .int .i64 (d.shape 6), .int .i64 (d.shape 7), .int .i64 (d.shape 8), .slice (some ⟨b1, off1, none⟩) d.groups.1 cap1, .slice ao2 d.on.1 cap2, .slice ao3 d.tapes.1 cap3, .int .i64 d.writes, .int .i64 d.stop, .bool d.down] 37) := T
    have zx : w.heap.size < wx.heap.size := T.b1.lt
    clear hI hc
    by_cases hlt : k < nG
    · obtain ⟨b, off, rfl, hblt, hcell⟩ := HC9.out (by omega)
      obtain ⟨cd, hrd, hcd⟩ := hcell k hlt
      obtain ⟨ao5, cap5, rfl, g5⟩ := Drive_rd hrd
      have c2 : wx.cell? ⟨b, off + k * 2, none⟩ = some (.bool ((d.groups.2 G).2 k).wiped) := (T.bel.cell (p := ⟨b, off + k * 2, none⟩) (by show b < w.heap.size; omega)).trans (hcd 0 (by decide))
      have c3 : wx.cell? ⟨b, off + k * 2 + 1, none⟩ = some (.slice ao5 ((d.groups.2 G).2 k).blocks.1 cap5) := (T.bel.cell (p := ⟨b, off + k * 2 + 1, none⟩) (by show b < w.heap.size; omega)).trans (hcd 1 (by decide))
      obtain ⟨m5, hm5⟩ : ∃ m, m = ((d.groups.2 G).2 k).blocks.1 := ⟨_, rfl⟩
      obtain ⟨t, ht⟩ : ∃ t, t = ((d.groups.2 G).2 k).wiped := ⟨_, rfl⟩
      have HW : Hid (wipB d G k = t) := ht.symm
      rw [← hm5] at c3
      rw [← ht] at c2
      have i3 : (0 : Int) ≤ (k : Int) := by omega
      have i4 : (k : Int) < (nG : Int) := by omega
      have bA : Below wx.heap.size wx (wx.alloc (.cells #[.bool t, .slice ao5 m5 cap5] 76)) := (Below.refl _ _).alloc (Nat.le_refl _) _
      have XD : Box (wx.alloc (.cells #[.bool t, .slice ao5 m5 cap5] 76)) wx.heap.size #[.bool t, .slice ao5 m5 cap5] 76 := box_new _ _ _
      clear hcell hcd hrd g5 T hm5 ht
      go_upto_region 5 with fail
      obtain ⟨W5, hW5⟩ : ∃ x, x = wx.alloc (.cells #[.bool t, .slice ao5 m5 cap5] 76) := ⟨_, rfl⟩
      rw [← hW5] at bA XD ⊢
      have z5 : wx.heap.size ≤ W5.heap.size := bA.size
      have HI5 : Hid (OwnI W5 (w.heap.size + 1) W5.heap.size (.slice aoo c capo) c (wipF d G)) := (HI.out.below bA (Nat.le_refl _)).mono bA.size
      have HT5 : Hid (One w W5 #[.int .i64 (d.shape 0), .int .i64 (d.shape 1), .int .i64 (d.shape 2), .int .i64 (d.shape 3), .int .i64 (d.shape 4), .int .i64 (d.shape 5), .int .i64 (d.shape 6), .int .i64 (d.shape 7), .int .i64 (d.shape 8), .slice (some ⟨b1, off1, none⟩) d.groups.1 cap1, .slice ao2 d.on.1 cap2, .slice ao3 d.tapes.1 cap3, .int .i64 d.writes, .int .i64 d.stop, .bool d.down] 37) := HT.out.call bA
      have d0 : W5.cell? ⟨wx.heap.size, 0, none⟩ = some (.bool t) := XD.cell 0
      clear hW5 c2 c3 bA XD HI HT
      cases t with
      | false =>
        go_wp2
        go_roundw
        case rel => exact ⟨k + 1, by omega, by go_num, by rw [pick_skip HW.out, ← HC.out]; exact HI5.out, HT5.out⟩
        case measure => simp [intOf]; omega
      | true =>
        have HF : Hid (wipF d G c = (k : Int)) := by
          show wipF d G c = (k : Int)
          have := (pickF_at (p := wipB d G) HW.out (d.groups.2 G).1 (by rw [← HNG.out]; exact hlt)).1
          unfold wipF
          rw [HC.out, this]
        go_wp2_with (at_builtin; refine wp_appendI rfl (.tmp 22) (.tmp 24) rfl (w.heap.size + 1) W5.heap.size (.slice aoo c capo) c (wipF d G) ?_ ?_ W5.heap.size 1 ?_ ?_ (by omega) ?_ ?_; (simp [Act.eval]); exact HI5.out.alloc _; (simp [Act.eval]); (rw [HF.out]; simp); (simp; omega); intro v2 w3 o3 b3)
        have b4 : Below (w.heap.size + 1) W5 w3 := ((Below.refl (w.heap.size + 1) W5).alloc (by omega) _).trans b3
        have HT3 : Hid (One w w3 #[.int .i64 (d.shape 0), .int .i64 (d.shape 1), .int .i64 (d.shape 2), .int .i64 (d.shape 3), .int .i64 (d.shape 4), .int .i64 (d.shape 5), .int .i64 (d.shape 6), .int .i64 (d.shape 7), .int .i64 (d.shape 8), .slice (some ⟨b1, off1, none⟩) d.groups.1 cap1, .slice ao2 d.on.1 cap2, .slice ao3 d.tapes.1 cap3, .int .i64 d.writes, .int .i64 d.stop, .bool d.down] 37) := ⟨HT5.out.b1.below b4 (by omega), HT5.out.bel.trans (b4.mono (by omega))⟩
        have HI4 : Hid (OwnI w3 (w.heap.size + 1) w3.heap.size v2 (c + 1) (wipF d G)) := o3
        clear o3 b3 b4 HI5 HT5 d0
        go_wp2
        go_roundw
        case rel => exact ⟨k + 1, by omega, by go_num, by
          have e : (pickI (wipB d G) (k + 1)).length = c + 1 := by rw [pick_succ, if_pos HW.out, List.length_append, ← HC.out]; rfl
          rw [e]; exact HI4.out, HT3.out⟩
        case measure => simp [intOf]; omega
    · obtain rfl : k = nG := by omega
      clear T hlt
      go_wp2
      go_ret
      exact ⟨_, rfl, by rw [← HNG.out, ← HC.out]; exact HI.out.weaken (by omega) (Nat.le_refl _), HT.out.bel⟩
set_option maxHeartbeats 16000000 in
set_option maxRecDepth 20000 in
theorem l10Wiped_any (d : WorldD) (cs : List Value) (hi B G : Nat) (w : World) (h : layWorld.rd w hi d cs) (hhi : hi ≤ w.heap.size) (hBX : Box w B cs.toArray 37) (hG : G < d.groups.1) (hfew : (d.groups.2 G).1 ≤ 100) :
    Calls Tryz.prog 20 #[.pointer (some ⟨B, 0, none⟩), .int .i64 (G : Int)] w (fun e w' => ∃ v', e = .returned v' ∧ OwnI w' w.heap.size w'.heap.size v' (pickI (wipB d G) (d.groups.2 G).1).length (wipF d G) ∧ Below w.heap.size w w') := by
  obtain ⟨ao1, cap1, ao2, cap2, ao3, cap3, rfl, g1, g2, g3, k0, k4, k5⟩ := World_rd h
  obtain ⟨_, _, e1, hm1, hc1⟩ := g1
  cases e1
  obtain ⟨b1, off1, he1, hb1, hel1⟩ := hc1 (by omega)
  subst he1
  obtain ⟨cg, hrg, hcg⟩ := hel1 G hG
  obtain ⟨ao9, cap9, rfl⟩ := sl_form hrg
  have c0 : w.cell? ⟨b1, off1 + G, none⟩ = some (.slice ao9 (d.groups.2 G).1 cap9) := by
    have := hcg 0 (by decide)
    have e : off1 + (G * (layDrive.slice 76).sz + 0) = off1 + G := by show off1 + (G * 1 + 0) = off1 + G; omega
    rw [e] at this
    exact this
  obtain ⟨_, _, e9, hm9, hc9⟩ := hrg
  cases e9
  have hc9' : (d.groups.2 G).1 ≠ 0 → ∃ b off, ao9 = some ⟨b, off, none⟩ ∧ b < hi ∧ ∀ i, i < (d.groups.2 G).1 → ∃ ce, layDrive.rd w hi ((d.groups.2 G).2 i) ce ∧ ∀ j, j < layDrive.sz → w.cell? ⟨b, off + (i * layDrive.sz + j), none⟩ = ce[j]? := hc9
  obtain ⟨nG, hnG⟩ : ∃ n, n = (d.groups.2 G).1 := ⟨_, rfl⟩
  have HNG : Hid (nG = (d.groups.2 G).1) := hnG
  rw [← hnG] at c0 hc9' hfew
  have HC9 : Hid (nG ≠ 0 → ∃ b off, ao9 = some ⟨b, off, none⟩ ∧ b < hi ∧ ∀ i, i < nG → ∃ ce, layDrive.rd w hi ((d.groups.2 G).2 i) ce ∧ ∀ j, j < layDrive.sz → w.cell? ⟨b, off + (i * layDrive.sz + j), none⟩ = ce[j]?) := hc9'
  have i1 : (0 : Int) ≤ (G : Int) := by omega
  have i2 : (G : Int) < (d.groups.1 : Int) := by omega
  clear g2 g3 k0 k4 k5 hcg hel1 hc1 hm1 hm9 hc9 hc9' hnG
  have hBlt := hBX.lt
  have HX9 : Hid (w.cell? ⟨B, 9, none⟩ = some (.slice (some ⟨b1, off1, none⟩) d.groups.1 cap1)) := hBX.cell 9
  have HC0 : Hid (w.cell? ⟨b1, off1 + G, none⟩ = some (.slice ao9 nG cap9)) := c0
  have bL : Below w.heap.size w (w.alloc (.cells #[] 2)) := (Below.refl _ _).alloc (Nat.le_refl _) _
  have I0 := ownI_lit0 w (wipF d G)
  clear hBX c0
  go_enter Tryz.func20, Tryz.ntmps20
  go_wp2
  go_loopw [5, 6] (fun vo i wr => ∃ k : Nat, k ≤ nG ∧ i = .int .i64 k ∧ OwnI wr w.heap.size wr.heap.size vo (pickI (wipB d G) k).length (wipF d G) ∧ Below w.heap.size w wr) (fun _ i _ => nG - (intOf i).toNat)
  case atStart => exact ⟨0, Nat.zero_le _, rfl, I0, bL⟩
  case round =>
    clear I0 bL
    obtain ⟨k, hk, rfl, hI, bw⟩ := hrel
    obtain ⟨wx, rfl⟩ : ∃ y, y = wr := ⟨_, rfl⟩
    obtain ⟨c, hc⟩ : ∃ c, c = (pickI (wipB d G) k).length := ⟨_, rfl⟩
    have HC : Hid (c = (pickI (wipB d G) k).length) := hc
    rw [← hc] at hI
    have hck : c ≤ k := by rw [hc]; exact pick_le _ _
    obtain ⟨aoo, capo, hvo⟩ := hI.slice
    subst hvo
    have HI5 : Hid (OwnI wx w.heap.size wx.heap.size (.slice aoo c capo) c (wipF d G)) := hI
    have HBW : Hid (Below w.heap.size w wx) := bw
    have zx : w.heap.size ≤ wx.heap.size := bw.size
    have x9 : wx.cell? ⟨B, 9, none⟩ = some (.slice (some ⟨b1, off1, none⟩) d.groups.1 cap1) := (bw.cell (p := ⟨B, 9, none⟩) hBlt).trans HX9.out
    have c0 : wx.cell? ⟨b1, off1 + G, none⟩ = some (.slice ao9 nG cap9) := (bw.cell (p := ⟨b1, off1 + G, none⟩) (by show b1 < w.heap.size; omega)).trans HC0.out
    clear hI hc
    by_cases hlt : k < nG
    · obtain ⟨b, off, rfl, hblt, hcell⟩ := HC9.out (by omega)
      obtain ⟨cd, hrd, hcd⟩ := hcell k hlt
      obtain ⟨ao5, cap5, rfl, g5⟩ := Drive_rd hrd
      have c2 : wx.cell? ⟨b, off + k * 2, none⟩ = some (.bool ((d.groups.2 G).2 k).wiped) := (bw.cell (p := ⟨b, off + k * 2, none⟩) (by show b < w.heap.size; omega)).trans (hcd 0 (by decide))
      obtain ⟨t, ht⟩ : ∃ t, t = ((d.groups.2 G).2 k).wiped := ⟨_, rfl⟩
      have HW : Hid (wipB d G k = t) := ht.symm
      rw [← ht] at c2
      have i3 : (0 : Int) ≤ (k : Int) := by omega
      have i4 : (k : Int) < (nG : Int) := by omega
      clear hcell hcd hrd g5 ht bw
      cases t with
      | false =>
        go_wp2
        go_roundw
        case rel => exact ⟨k + 1, by omega, by go_num, by rw [pick_skip HW.out, ← HC.out]; exact HI5.out, HBW.out⟩
        case measure => simp [intOf]; omega
      | true =>
        have HF : Hid (wipF d G c = (k : Int)) := by
          show wipF d G c = (k : Int)
          have := (pickF_at (p := wipB d G) HW.out (d.groups.2 G).1 (by rw [← HNG.out]; exact hlt)).1
          unfold wipF
          rw [HC.out, this]
        go_wp2_with (at_builtin; refine wp_appendI rfl (.tmp 31) (.tmp 33) rfl w.heap.size wx.heap.size (.slice aoo c capo) c (wipF d G) ?_ ?_ wx.heap.size 1 ?_ ?_ (by omega) ?_ ?_; (simp [Act.eval]); exact HI5.out.alloc _; (simp [Act.eval]); (rw [HF.out]; simp); (simp; omega); intro v2 w3 o3 b3)
        have b4 : Below w.heap.size wx w3 := ((Below.refl w.heap.size wx).alloc (by omega) _).trans b3
        have HB3 : Hid (Below w.heap.size w w3) := HBW.out.trans b4
        have HI4 : Hid (OwnI w3 w.heap.size w3.heap.size v2 (c + 1) (wipF d G)) := o3
        clear o3 b3 b4 HI5 HBW
        go_wp2
        go_roundw
        case rel => exact ⟨k + 1, by omega, by go_num, by
          have e : (pickI (wipB d G) (k + 1)).length = c + 1 := by rw [pick_succ, if_pos HW.out, List.length_append, ← HC.out]; rfl
          rw [e]; exact HI4.out, HB3.out⟩
        case measure => simp [intOf]; omega
    · obtain rfl : k = nG := by omega
      clear bw hlt
      go_wp2
      go_ret
      exact ⟨_, rfl, by rw [← HNG.out, ← HC.out]; exact HI5.out, HBW.out⟩
set_option maxHeartbeats 16000000 in
set_option maxRecDepth 20000 in
theorem implWip_any (d : WorldD) (g : Int) (cs : List Value) (hi : Nat) (w : World) (h : layWorld.rd w hi d cs) (hhi : hi ≤ w.heap.size) (hsz : szWorldD d ≤ 1048576) :
    Calls Tryz.prog 8 #[.agg cs.toArray, .int .i64 g] w (IrPost (WipAns d g) w) := by
  have h' := h
  obtain ⟨ao1, cap1, ao2, cap2, ao3, cap3, rfl, g1, g2, g3, k0, k4, k5⟩ := World_rd h'
  have HRD : Hid (layWorld.rd w hi d [.int .i64 (d.shape 0), .int .i64 (d.shape 1), .int .i64 (d.shape 2), .int .i64 (d.shape 3), .int .i64 (d.shape 4), .int .i64 (d.shape 5), .int .i64 (d.shape 6), .int .i64 (d.shape 7), .int .i64 (d.shape 8), .slice ao1 d.groups.1 cap1, .slice ao2 d.on.1 cap2, .slice ao3 d.tapes.1 cap3, .int .i64 d.writes, .int .i64 d.stop, .bool d.down]) := h
  clear h h' g1 g2 g3 k0 k4 k5
  have T0 := two_newb w #[.int .i64 (d.shape 0), .int .i64 (d.shape 1), .int .i64 (d.shape 2), .int .i64 (d.shape 3), .int .i64 (d.shape 4), .int .i64 (d.shape 5), .int .i64 (d.shape 6), .int .i64 (d.shape 7), .int .i64 (d.shape 8), .slice ao1 d.groups.1 cap1, .slice ao2 d.on.1 cap2, .slice ao3 d.tapes.1 cap3, .int .i64 d.writes, .int .i64 d.stop, .bool d.down] #[.int .i64 0, .slice none 0 0] 37 31
  go_enter Tryz.func8, Tryz.ntmps8
  go_wp2_with (refine wp_loadBox 37 (.tmp 2) rfl rfl (w.heap.size) rfl (cs := [.int .i64 (d.shape 0), .int .i64 (d.shape 1), .int .i64 (d.shape 2), .int .i64 (d.shape 3), .int .i64 (d.shape 4), .int .i64 (d.shape 5), .int .i64 (d.shape 6), .int .i64 (d.shape 7), .int .i64 (d.shape 8), .slice ao1 d.groups.1 cap1, .slice ao2 d.on.1 cap2, .slice ao3 d.tapes.1 cap3, .int .i64 d.writes, .int .i64 d.stop, .bool d.down]) (T0.b1) Tryz.underlying37 size_W rfl ?_)
  refine (knownFault_any d g _ hi _ (layWorld.rd_below HRD.out T0.bel hhi) (Nat.le_trans hhi T0.bel.size) hsz).mono ?_
  rintro e w1 ⟨x, rfl, hx, b1⟩
  have HT1 : Hid (Two w w1 #[.int .i64 (d.shape 0), .int .i64 (d.shape 1), .int .i64 (d.shape 2), .int .i64 (d.shape 3), .int .i64 (d.shape 4), .int .i64 (d.shape 5), .int .i64 (d.shape 6), .int .i64 (d.shape 7), .int .i64 (d.shape 8), .slice ao1 d.groups.1 cap1, .slice ao2 d.on.1 cap2, .slice ao3 d.tapes.1 cap3, .int .i64 d.writes, .int .i64 d.stop, .bool d.down] #[.int .i64 0, .slice none 0 0] 37 31) := T0.call b1
  have HX : Hid (KnowAns d g x) := hx
  have z1 : w.heap.size + 1 < w1.heap.size := HT1.out.b2.lt
  clear b1 T0 hx
  by_cases hx0 : x = 0
  case neg =>
    have hne : (x != 0) = true := by simp [hx0]
    go_wp2_with (refine wp_storeBox 31 _ _ rfl rfl (w.heap.size + 1) rfl (cs := [.int .i64 x, .slice none 0 0]) (old := [.int .i64 0, .slice none 0 0]) rfl (HT1.out.b2) size_Is rfl rfl ((icode_own w1 x (know_small HX.out) 0 0 (Nat.zero_le _)).one) ?_; intro w9 X9 C9 z9)
    refine ret_box Tryz.results8 rfl X9 Tryz.underlying31 size_Is rfl rfl ?_
    have zz := C9.size
    exact ⟨⟨x, (0, fun _ => 0)⟩, [.int .i64 x, .slice none 0 0], rfl, .inl ⟨x, hx0, HX.out, rfl⟩, icode_own w9 x (know_small HX.out) _ _ (Nat.le_refl _), HT1.out.bel.trans (C9.bel (fun b hb => by simp at hb; omega) HT1.out.bel.size)⟩
  subst hx0
  have hK := KnowAns.zero HX.out
  have HOK : Hid (OkWorld d) := WldAns.ok hK.1
  obtain ⟨G, hGe⟩ : ∃ G : Nat, g = (G : Int) := ⟨g.toNat, by have := hK.2.1; omega⟩
  subst hGe
  have hG : G < d.groups.1 := by have h1 := hK.2.2; have h2 := HOK.out.form.1.1; omega
  have hfew := (grp_few HOK.out hG).2
  have HIN : Hid (∀ i, -9223372036854775808 ≤ wipF d G i ∧ wipF d G i ≤ 9223372036854775807) := wipF_in HOK.out hG
  have CC := wipedOf_any d _ hi G w1 (layWorld.rd_below HRD.out HT1.out.bel hhi) (by omega) hG hfew
  clear hK
  go_wp2_with (refine wp_loadBox 37 (.tmp 2) rfl rfl (w.heap.size) rfl (cs := [.int .i64 (d.shape 0), .int .i64 (d.shape 1), .int .i64 (d.shape 2), .int .i64 (d.shape 3), .int .i64 (d.shape 4), .int .i64 (d.shape 5), .int .i64 (d.shape 6), .int .i64 (d.shape 7), .int .i64 (d.shape 8), .slice ao1 d.groups.1 cap1, .slice ao2 d.on.1 cap2, .slice ao3 d.tapes.1 cap3, .int .i64 d.writes, .int .i64 d.stop, .bool d.down]) (HT1.out.b1) Tryz.underlying37 size_W rfl ?_)
  refine CC.mono ?_
  rintro e w2 ⟨v2, rfl, hO, b2⟩
  have HT2 : Hid (Two w w2 #[.int .i64 (d.shape 0), .int .i64 (d.shape 1), .int .i64 (d.shape 2), .int .i64 (d.shape 3), .int .i64 (d.shape 4), .int .i64 (d.shape 5), .int .i64 (d.shape 6), .int .i64 (d.shape 7), .int .i64 (d.shape 8), .slice ao1 d.groups.1 cap1, .slice ao2 d.on.1 cap2, .slice ao3 d.tapes.1 cap3, .int .i64 d.writes, .int .i64 d.stop, .bool d.down] #[.int .i64 0, .slice none 0 0] 37 31) := HT1.out.call b2
  have z2 : w1.heap.size ≤ w2.heap.size := b2.size
  obtain ⟨c, hc⟩ : ∃ c, c = (pickI (wipB d G) (d.groups.2 G).1).length := ⟨_, rfl⟩
  have HC : Hid (c = (pickI (wipB d G) (d.groups.2 G).1).length) := hc
  rw [← hc] at hO
  obtain ⟨a3, c3, hv3⟩ := hO.slice
  subst hv3
  have HO3 : Hid (OwnT layIntsResult w2 w1.heap.size w2.heap.size ⟨0, (c, wipF d G)⟩ [.int .i64 0, .slice a3 c c3]) := ires_own hO (Nat.le_refl _) HIN.out 0 (by decide)
  clear hO b2 CC hc HT1
  go_wp2_with (refine wp_storeBox 31 _ _ rfl rfl (w.heap.size + 1) rfl (cs := [.int .i64 0, .slice a3 c c3]) (old := [.int .i64 0, .slice none 0 0]) rfl (HT2.out.b2) size_Is rfl rfl (HO3.out.one) ?_; intro w9 X9 C9 z9)
  refine ret_box Tryz.results8 rfl X9 Tryz.underlying31 size_Is rfl rfl ?_
  have zz := C9.size
  have O9 := (HO3.out.chgk C9 (fun b hb => by simp at hb; omega)).weaken (lo' := w.heap.size) (hi' := w9.heap.size) (by omega) zz
  exact ⟨_, _, rfl, .inr ⟨HX.out, by rw [HC.out]; rfl⟩, O9, HT2.out.bel.trans (C9.bel (fun b hb => by simp at hb; omega) HT2.out.bel.size)⟩
set_option maxHeartbeats 16000000 in
set_option maxRecDepth 20000 in
theorem specWip_any (d : WorldD) (g : Int) (cs : List Value) (hi : Nat) (w : World) (h : layWorld.rd w hi d cs) (hhi : hi ≤ w.heap.size) (hsz : szWorldD d ≤ 1048576) :
    Calls Tryz.prog 6 #[.agg cs.toArray, .int .i64 g] w (IrPost (WipAns d g) w) := by
  have h' := h
  obtain ⟨ao1, cap1, ao2, cap2, ao3, cap3, rfl, g1, g2, g3, k0, k4, k5⟩ := World_rd h'
  have HRD : Hid (layWorld.rd w hi d [.int .i64 (d.shape 0), .int .i64 (d.shape 1), .int .i64 (d.shape 2), .int .i64 (d.shape 3), .int .i64 (d.shape 4), .int .i64 (d.shape 5), .int .i64 (d.shape 6), .int .i64 (d.shape 7), .int .i64 (d.shape 8), .slice ao1 d.groups.1 cap1, .slice ao2 d.on.1 cap2, .slice ao3 d.tapes.1 cap3, .int .i64 d.writes, .int .i64 d.stop, .bool d.down]) := h
  clear h h' g1 g2 g3 k0 k4 k5
  have T0 := two_newb w #[.int .i64 (d.shape 0), .int .i64 (d.shape 1), .int .i64 (d.shape 2), .int .i64 (d.shape 3), .int .i64 (d.shape 4), .int .i64 (d.shape 5), .int .i64 (d.shape 6), .int .i64 (d.shape 7), .int .i64 (d.shape 8), .slice ao1 d.groups.1 cap1, .slice ao2 d.on.1 cap2, .slice ao3 d.tapes.1 cap3, .int .i64 d.writes, .int .i64 d.stop, .bool d.down] #[.int .i64 0, .slice none 0 0] 37 31
  go_enter Tryz.func6, Tryz.ntmps6
  go_wp2_with (refine wp_loadBox 37 (.tmp 2) rfl rfl (w.heap.size) rfl (cs := [.int .i64 (d.shape 0), .int .i64 (d.shape 1), .int .i64 (d.shape 2), .int .i64 (d.shape 3), .int .i64 (d.shape 4), .int .i64 (d.shape 5), .int .i64 (d.shape 6), .int .i64 (d.shape 7), .int .i64 (d.shape 8), .slice ao1 d.groups.1 cap1, .slice ao2 d.on.1 cap2, .slice ao3 d.tapes.1 cap3, .int .i64 d.writes, .int .i64 d.stop, .bool d.down]) (T0.b1) Tryz.underlying37 size_W rfl ?_)
  refine (l8Asked0_any d g _ hi _ (layWorld.rd_below HRD.out T0.bel hhi) (Nat.le_trans hhi T0.bel.size) hsz).mono ?_
  rintro e w1 ⟨x, rfl, hx, b1⟩
  have HT1 : Hid (Two w w1 #[.int .i64 (d.shape 0), .int .i64 (d.shape 1), .int .i64 (d.shape 2), .int .i64 (d.shape 3), .int .i64 (d.shape 4), .int .i64 (d.shape 5), .int .i64 (d.shape 6), .int .i64 (d.shape 7), .int .i64 (d.shape 8), .slice ao1 d.groups.1 cap1, .slice ao2 d.on.1 cap2, .slice ao3 d.tapes.1 cap3, .int .i64 d.writes, .int .i64 d.stop, .bool d.down] #[.int .i64 0, .slice none 0 0] 37 31) := T0.call b1
  have HX : Hid (KnowAns d g x) := hx
  have z1 : w.heap.size + 1 < w1.heap.size := HT1.out.b2.lt
  clear b1 T0 hx
  by_cases hx0 : x = 0
  case neg =>
    have hne : (x != 0) = true := by simp [hx0]
    go_wp2_with (refine wp_storeBox 31 _ _ rfl rfl (w.heap.size + 1) rfl (cs := [.int .i64 x, .slice none 0 0]) (old := [.int .i64 0, .slice none 0 0]) rfl (HT1.out.b2) size_Is rfl rfl ((icode_own w1 x (know_small HX.out) 0 0 (Nat.zero_le _)).one) ?_; intro w9 X9 C9 z9)
    refine ret_box Tryz.results6 rfl X9 Tryz.underlying31 size_Is rfl rfl ?_
    have zz := C9.size
    exact ⟨⟨x, (0, fun _ => 0)⟩, [.int .i64 x, .slice none 0 0], rfl, .inl ⟨x, hx0, HX.out, rfl⟩, icode_own w9 x (know_small HX.out) _ _ (Nat.le_refl _), HT1.out.bel.trans (C9.bel (fun b hb => by simp at hb; omega) HT1.out.bel.size)⟩
  subst hx0
  have hK := KnowAns.zero HX.out
  have HOK : Hid (OkWorld d) := WldAns.ok hK.1
  obtain ⟨G, hGe⟩ : ∃ G : Nat, g = (G : Int) := ⟨g.toNat, by have := hK.2.1; omega⟩
  subst hGe
  have hG : G < d.groups.1 := by have h1 := hK.2.2; have h2 := HOK.out.form.1.1; omega
  have hfew := (grp_few HOK.out hG).2
  have HIN : Hid (∀ i, -9223372036854775808 ≤ wipF d G i ∧ wipF d G i ≤ 9223372036854775807) := wipF_in HOK.out hG
  have CC := l10Wiped_any d [.int .i64 (d.shape 0), .int .i64 (d.shape 1), .int .i64 (d.shape 2), .int .i64 (d.shape 3), .int .i64 (d.shape 4), .int .i64 (d.shape 5), .int .i64 (d.shape 6), .int .i64 (d.shape 7), .int .i64 (d.shape 8), .slice ao1 d.groups.1 cap1, .slice ao2 d.on.1 cap2, .slice ao3 d.tapes.1 cap3, .int .i64 d.writes, .int .i64 d.stop, .bool d.down] hi w.heap.size G w1 (layWorld.rd_below HRD.out HT1.out.bel hhi) (by omega) HT1.out.b1 hG hfew
  clear hK
  go_wp2_with fail
  refine CC.mono ?_
  rintro e w2 ⟨v2, rfl, hO, b2⟩
  have HT2 : Hid (Two w w2 #[.int .i64 (d.shape 0), .int .i64 (d.shape 1), .int .i64 (d.shape 2), .int .i64 (d.shape 3), .int .i64 (d.shape 4), .int .i64 (d.shape 5), .int .i64 (d.shape 6), .int .i64 (d.shape 7), .int .i64 (d.shape 8), .slice ao1 d.groups.1 cap1, .slice ao2 d.on.1 cap2, .slice ao3 d.tapes.1 cap3, .int .i64 d.writes, .int .i64 d.stop, .bool d.down] #[.int .i64 0, .slice none 0 0] 37 31) := HT1.out.call b2
  have z2 : w1.heap.size ≤ w2.heap.size := b2.size
  obtain ⟨c, hc⟩ : ∃ c, c = (pickI (wipB d G) (d.groups.2 G).1).length := ⟨_, rfl⟩
  have HC : Hid (c = (pickI (wipB d G) (d.groups.2 G).1).length) := hc
  rw [← hc] at hO
  obtain ⟨a3, c3, hv3⟩ := hO.slice
  subst hv3
  have HO3 : Hid (OwnT layIntsResult w2 w1.heap.size w2.heap.size ⟨0, (c, wipF d G)⟩ [.int .i64 0, .slice a3 c c3]) := ires_own hO (Nat.le_refl _) HIN.out 0 (by decide)
  clear hO b2 CC hc HT1
  go_wp2_with (refine wp_storeBox 31 _ _ rfl rfl (w.heap.size + 1) rfl (cs := [.int .i64 0, .slice a3 c c3]) (old := [.int .i64 0, .slice none 0 0]) rfl (HT2.out.b2) size_Is rfl rfl (HO3.out.one) ?_; intro w9 X9 C9 z9)
  refine ret_box Tryz.results6 rfl X9 Tryz.underlying31 size_Is rfl rfl ?_
  have zz := C9.size
  have O9 := (HO3.out.chgk C9 (fun b hb => by simp at hb; omega)).weaken (lo' := w.heap.size) (hi' := w9.heap.size) (by omega) zz
  exact ⟨_, _, rfl, .inr ⟨HX.out, by rw [HC.out]; rfl⟩, O9, HT2.out.bel.trans (C9.bel (fun b hb => by simp at hb; omega) HT2.out.bel.size)⟩
end Go.Proofs.YtkijpgfmjogagaaGreat
namespace Go.Proofs.YtkijpgfmjogagaaGreat
open Go.RowKit
section
variable {P : Program} {ops : Array Oper} {Q : Exit → Act → World → Prop} {md : Region.Mode} {S : World → Prop} {L : Nat}
def wpAnyL (P : Program) (md : Region.Mode) (ops : Array Oper) (Q : Exit → Act → World → Prop) (S : World → Prop) (L : Nat) : Nat → Array Bool → Act → World → Prop
  | 0, listed, a, w => Region.ready md ops listed = [] ∧ Q .normal a w
  | fuel + 1, listed, a, w =>
    (Region.ready md ops listed = [] → Q .normal a w) ∧
    ∀ i ∈ Region.ready md ops listed, wpOp P ops Q i (fun a' w' => (i ≠ L → S w') ∧ wpAnyL P md ops Q S L fuel (listed.setIfInBounds i true) a' w') a w
theorem wpAny_of_L : ∀ (fuel : Nat) (listed : Array Bool) (a : Act) (w : World), wpAnyL P md ops Q S L fuel listed a w → wpAny P md ops Q fuel listed a w
  | 0, _, _, _, h => h
  | fuel + 1, _, _, _, h => ⟨h.1, fun i hi => wpOp_mono (fun a' w' h' => wpAny_of_L fuel _ a' w' h'.2) (h.2 i hi)⟩
def ClosedP (md : Region.Mode) (ops : Array Oper) (listed : Array Bool) : Prop :=
  ∀ j oj, ops[j]? = some oj → listed.getD j false = true → ∀ e ∈ oj.after, Region.binds md e = true → listed.getD e.on false = true
def closedB (md : Region.Mode) (ops : Array Oper) (listed : Array Bool) : Bool :=
  (List.range ops.size).all fun j => !listed.getD j false || ((ops[j]?).map (·.after.all fun e => !Region.binds md e || listed.getD e.on false)).getD false
theorem closed_of {listed : Array Bool} (h : closedB md ops listed = true) : ClosedP md ops listed := fun j oj hj hl e he hb => by
  unfold closedB at h
  have hlt : j < ops.size := (Array.getElem?_eq_some_iff.1 hj).1
  have h1 := List.all_eq_true.1 h j (List.mem_range.2 hlt)
  rw [hl, hj] at h1
  simp only [Bool.not_true, Bool.false_or, Option.map_some, Option.getD_some, Array.all_eq_true_iff_forall_mem] at h1
  have h2 := h1 e he
  rw [hb] at h2
  simpa using h2
theorem closed_step {listed : Array Bool} {j : Nat} (h : ClosedP md ops listed) (hj : j ∈ Region.ready md ops listed) : ClosedP md ops (listed.setIfInBounds j true) := fun k ok hk hl e he hb => by
  obtain ⟨_, o, ho, hall⟩ := mem_ready.1 hj
  by_cases c : j = k
  · subst c
    rw [hk] at ho
    cases ho
    exact getD_set_true (hall e he hb)
  · rw [getD_set_ne false c] at hl
    exact getD_set_true (h k ok hk hl e he hb)
def depB (md : Region.Mode) (ops : Array Oper) : Nat → Nat → Nat → Bool
  | 0, l, i => l == i
  | n + 1, l, i => l == i || ((ops[l]?).map (·.after.any fun e => Region.binds md e && depB md ops n e.on i)).getD false
theorem dep_listed {listed : Array Bool} (hc : ClosedP md ops listed) : ∀ (n l i : Nat), depB md ops n l i = true → listed.getD l false = true → listed.getD i false = true
  | 0, l, i, h, hl => by
    unfold depB at h
    have : l = i := by simpa using h
    rw [← this]; exact hl
  | n + 1, l, i, h, hl => by
    unfold depB at h
    rcases Bool.or_eq_true _ _ ▸ h with h1 | h1
    · have : l = i := by simpa using h1
      rw [← this]; exact hl
    · cases ho : ops[l]? with
      | none => rw [ho] at h1; simp at h1
      | some o =>
        rw [ho] at h1
        simp only [Option.map_some, Option.getD_some] at h1
        obtain ⟨k, hk, hbk⟩ := Array.any_eq_true.1 h1
        obtain ⟨hb, hd⟩ := Bool.and_eq_true _ _ ▸ hbk
        exact dep_listed hc n _ i hd (hc l o ho hl _ (Array.getElem_mem hk) hb)
theorem dep_waits {listed : Array Bool} (hc : ClosedP md ops listed) {n i : Nat} (hne : L ≠ i) (hd : depB md ops n L i = true) (hi : listed.getD i false = false) : L ∉ Region.ready md ops listed := fun hL => by
  obtain ⟨_, o, ho, hall⟩ := mem_ready.1 hL
  cases n with
  | zero => unfold depB at hd; exact hne (by simpa using hd)
  | succ n =>
    unfold depB at hd
    rcases Bool.or_eq_true _ _ ▸ hd with h1 | h1
    · exact hne (by simpa using h1)
    · rw [ho] at h1
      simp only [Option.map_some, Option.getD_some] at h1
      obtain ⟨k, hk, hbk⟩ := Array.any_eq_true.1 h1
      obtain ⟨hb, hd'⟩ := Bool.and_eq_true _ _ ▸ hbk
      have := dep_listed hc n _ i hd' (hall _ (Array.getElem_mem hk) hb)
      rw [hi] at this
      cases this
theorem unlisted_false {listed : Array Bool} {i : Nat} (h : listed.getD i true = false) : listed.getD i false = false := by
  rcases Nat.lt_or_ge i listed.size with h' | h'
  · simpa [h'] using h
  · simp [Array.getElem?_eq_none h'] at h
theorem wpAnyL_first {i : Nat} {oi : Oper} {v : Value} (hi : ops[i]? = some oi) (hsel : ∀ (j : Nat) (o : Oper) cs b, ops[j]? = some o → o.op ≠ .select cs b)
    (hQ : ∀ c a w, Q (.panic c) (a.put oi.dst v) w → Q (.panic c) a w) (hLi : L ≠ i) {n : Nat} (hd : depB md ops n L i = true) :
    ∀ (fuel : Nat) (listed : Array Bool) (a : Act) (w : World), ClosedP md ops listed →
      (∀ j oj, ops[j]? = some oj → j ≠ i → listed.getD j true = false → (∀ e ∈ oj.after, Region.binds md e = true → e.on ≠ i) → oi.apart ops oj = true) →
      i ∈ Region.ready md ops listed → YieldsIf P ops S oi v a → S w →
      wpAnyL P md ops Q S L fuel (listed.setIfInBounds i true) (a.put oi.dst v) w → wpAnyL P md ops Q S L (fuel + 1) listed a w := by
  intro fuel
  induction fuel with
  | zero =>
    intro listed a w _ _ hr hy hS H
    refine ⟨fun h => (by rw [h] at hr; cases hr), fun j hj => ?_⟩
    by_cases hji : j = i
    · subst hji; exact hy.wpOp hi hS ⟨fun _ => hS, H⟩
    · have := ready_mono hj hji
      rw [H.1] at this
      cases this
  | succ fuel ih =>
    intro listed a w hcl hfree hr hy hS H
    refine ⟨fun h => (by rw [h] at hr; cases hr), fun j hj => ?_⟩
    by_cases hji : j = i
    · subst hji; exact hy.wpOp hi hS ⟨fun _ => hS, H⟩
    · have hjL : j ≠ L := fun h => by
        subst h
        exact dep_waits hcl hLi hd (unlisted_false (mem_ready.1 hr).1) hj
      have h1 := H.2 j (ready_mono hj hji)
      obtain ⟨hjun, oj, hoj, hall⟩ := mem_ready.1 hj
      have hnot : ∀ e ∈ oj.after, Region.binds md e = true → e.on ≠ i := fun e he hb heq => by
        have h1 := hall e he hb
        have h0 := unlisted_false (mem_ready.1 hr).1
        rw [heq, h0] at h1
        cases h1
      have h2 := wpOp_putIf hoj (hfree j oj hoj hji hjun hnot) (fun cs b => hsel i oi cs b hi) (fun cs b => hsel j oj cs b hoj) hQ hy h1
      have hfree' : ∀ k ok, ops[k]? = some ok → k ≠ i → (listed.setIfInBounds j true).getD k true = false →
          (∀ e ∈ ok.after, Region.binds md e = true → e.on ≠ i) → oi.apart ops ok = true := fun k ok hk hki hun hno => by
        refine hfree k ok hk hki ?_ hno
        by_cases hjk : j = k
        · subst hjk; exact hjun
        · rw [getD_set_ne true hjk] at hun; exact hun
      refine wpOp_mono (fun a' w' h3 => ⟨h3.2.1, ih (listed.setIfInBounds j true) a' w' (closed_step hcl hj) hfree' (ready_mono hr (Ne.symm hji)) h3.1 (h3.2.1 hjL) ?_⟩) h2
      rw [Array.setIfInBounds_comm _ _ hji]
      exact h3.2.2
theorem wpAnyL_take {i : Nat} {oi : Oper} {v : Value} {fuel : Nat} {listed : Array Bool} {a : Act} {w : World} (n : Nat) (hi : ops[i]? = some oi)
    (hs : (Region.noSelect ops && Region.free md ops listed i && (Region.ready md ops listed).contains i && !(L == i) && depB md ops n L i && closedB md ops listed) = true)
    (hQ : ∀ c a w, Q (.panic c) (a.put oi.dst v) w → Q (.panic c) a w) (hy : YieldsIf P ops S oi v a) (hS : S w)
    (h : wpAnyL P md ops Q S L fuel (listed.setIfInBounds i true) (a.put oi.dst v) w) : wpAnyL P md ops Q S L (fuel + 1) listed a w := by
  simp only [Bool.and_eq_true, Bool.not_eq_true', beq_eq_false_iff_ne] at hs
  obtain ⟨⟨⟨⟨⟨h1, h2⟩, h3⟩, h4⟩, h5⟩, h6⟩ := hs
  exact wpAnyL_first hi (Region.noSelect_spec h1) hQ h4 h5 fuel listed a w (closed_of h6) (Region.free_spec hi h2) (by simpa using h3) hy hS h
theorem wpAnyL_one {i : Nat} {o : Oper} {fuel : Nat} {listed : Array Bool} {a : Act} {w : World} (ho : ops[i]? = some o) (hr : Region.ready md ops listed = [i])
    (h : ∀ K' : Act → World → Prop, Shut (∀ a w, S w → (S w → wpAnyL P md ops Q S L fuel (listed.setIfInBounds i true) a w) → K' a w) → if Region.wanted o (yielded ops a.tmps) = true then Oper.wp P o a w K' Q else K' (a.put o.dst undef) w) : wpAnyL P md ops Q S L (fuel + 1) listed a w := by
  refine ⟨fun h0 => (by rw [hr] at h0; cases h0), fun j hj => ?_⟩
  rw [hr] at hj
  obtain rfl : j = i := by simpa using hj
  exact wpOp_step ho (fun K' hK => h K' (fun a w hS hW => hK a w ⟨fun _ => hS, hW hS⟩))
theorem wpAnyL_last {o : Oper} {fuel : Nat} {listed : Array Bool} {a : Act} {w : World} (ho : ops[L]? = some o) (hr : Region.ready md ops listed = [L])
    (h : ∀ K' : Act → World → Prop, Shut (∀ a w, wpAnyL P md ops Q S L fuel (listed.setIfInBounds L true) a w → K' a w) → if Region.wanted o (yielded ops a.tmps) = true then Oper.wp P o a w K' Q else K' (a.put o.dst undef) w) : wpAnyL P md ops Q S L (fuel + 1) listed a w := by
  refine ⟨fun h0 => (by rw [hr] at h0; cases h0), fun j hj => ?_⟩
  rw [hr] at hj
  obtain rfl : j = L := by simpa using hj
  exact wpOp_step ho (fun K' hK => h K' (fun a w hW => hK a w ⟨fun hn => absurd rfl hn, hW⟩))
theorem wpAnyL_done {listed : Array Bool} {a : Act} {w : World} (hr : Region.ready md ops listed = []) (h : Q .normal a w) : ∀ fuel, wpAnyL P md ops Q S L fuel listed a w
  | 0 => ⟨hr, h⟩
  | _ + 1 => ⟨fun _ => h, by rw [hr]; simp⟩
theorem wp_region_L {id : Nat} {a : Act} {w : World} (L : Nat) (S : World → Prop) (hm : P.follows .mixedOrders = true) (hS : S w.drew)
    (h : S w.drew → wpAnyL P .any ops Q S L ops.size (Array.replicate ops.size false) a w.drew) : (Code.region id ops true).wp P Q a w :=
  wp_region_any hm (wpAny_of_L _ _ _ _ (h hS))
end
end Go.Proofs.YtkijpgfmjogagaaGreat
namespace Go.Proofs.YtkijpgfmjogagaaGreat
open Go.RowKit
section
variable {ops : Array Oper} {Q : Exit → Act → World → Prop} {md : Region.Mode} {S : World → Prop} {L : Nat}
theorem load_yield {o : Oper} {a : Act} (T : TypeId) (x : Operand) (ho : o.op = .load T x) (hg : o.guard = none) (b : Nat) (hx : a.eval x = .pointer (some ⟨b, 0, none⟩)) {cs : List Value} (hB : ∀ w, S w → Box w b cs.toArray T) {fs : Array Field} (hu : Tryz.prog.underlying T = some (.struct fs)) {n : Nat} (hi : (Tryz.prog.info? T).map (·.size) = some n) (hl : cs.length = n) : YieldsIf Tryz.prog ops S o (.agg cs.toArray) a := by
  refine .inl ⟨by simp [Region.wanted, hg], fun w hS => ?_⟩
  unfold execOp
  simp only [ho, hx, Instr.loadAt, Instr.sureAddr, Sem.run_bind, Sem.run_pure, Result.andThen_ok, run_loadVar_row w b T T cs.toArray (0, 0) (.struct fs) (hB w hS) hu rfl (by rw [hi]; simp [hl])]
end
theorem below_drew (w : World) : Below w.heap.size w w.drew := ⟨rfl, rfl, rfl, Nat.le_refl _, fun _ _ => rfl⟩
end Go.Proofs.YtkijpgfmjogagaaGreat
namespace Go.Proofs.YtkijpgfmjogagaaGreat
open Go.RowKit F256
set_option maxHeartbeats 8000000 in
set_option maxRecDepth 20000 in
theorem eqIntsResult_is : EqV layIntsResult 9 := fun c1 c2 d h1 h2 w r1 r2 u1 u2 => by
  obtain ⟨ao1, cap1, rfl, g1, -⟩ := IntsResult_rd r1
  obtain ⟨bao1, bcap1, rfl, q1, -⟩ := IntsResult_rd r2
  clear r1 r2
  have G1 : Hid (layInts.rd w h1 d.list [.slice ao1 d.list.1 cap1]) := g1
  have E1 : Hid (layInts.rd w h2 d.list [.slice bao1 d.list.1 bcap1]) := q1
  clear g1 q1
  go_enter Tryz.func9, Tryz.ntmps9
  go_wp2_with fail
  have T0 := two_newb w #[.int .i64 d.code, .slice ao1 d.list.1 cap1] #[.int .i64 d.code, .slice bao1 d.list.1 bcap1] 31 31
  refine (eqInts_is _ _ d.list h1 h2 _ (layInts.rd_below G1.out T0.bel u1) (layInts.rd_below E1.out T0.bel u2) (Nat.le_trans u1 T0.bel.size) (Nat.le_trans u2 T0.bel.size)).mono ?_
  rintro e w1 ⟨rfl, b1⟩
  have T1 : Two w w1 #[.int .i64 d.code, .slice ao1 d.list.1 cap1] #[.int .i64 d.code, .slice bao1 d.list.1 bcap1] 31 31 := T0.call b1
  clear T0 b1
  have B : Hid (Below w.heap.size w w1) := T1.bel
  clear T1
  go_wp2
  go_ret
  exact ⟨rfl, B.out⟩
end Go.Proofs.YtkijpgfmjogagaaGreat
namespace Go.Proofs.YtkijpgfmjogagaaGreat
open Go.RowKit F256
set_option maxHeartbeats 4000000 in
theorem markIntsResult_is : MkV layIntsResult cvIntsResultD mkvIntsResultD 12 := fun cs d L j w h nd hj => by
  obtain ⟨ao1, cap1, K1, rfl, hLL, o1, k0⟩ := IntsResult_own h
  clear h
  have hLM := hLL.symm
  subst hLM
  unfold cvIntsResultD at hj ⊢
  have Z1 := layInts.own_lt o1
  have bz : Below w.heap.size w (w.alloc (.cells #[.int .i64 d.code, .slice ao1 d.list.1 cap1] 31)) := (Below.refl _ _).alloc (Nat.le_refl _) _
  have B0 : Hid (Box (w.alloc (.cells #[.int .i64 d.code, .slice ao1 d.list.1 cap1] 31)) w.heap.size #[.int .i64 d.code, .slice ao1 d.list.1 cap1] 31) := box_new _ _ _
  have CH0 : Hid (ChgL (K1) w (w.alloc (.cells #[.int .i64 d.code, .slice ao1 d.list.1 cap1] 31))) := ChgL.of_below bz
  have O0_1 : Hid (layInts.own (w.alloc (.cells #[.int .i64 d.code, .slice ao1 d.list.1 cap1] 31)) d.list [.slice ao1 d.list.1 cap1] K1) := layInts.own_kept o1 (fun b hb => bz.block b (Z1 b hb))
  clear bz o1
  go_enter Tryz.func12, Tryz.ntmps12
  go_wp2_with fail
  refine (markInts_is _ d.list K1 (j) _ O0_1.out nd (by omega)).mono ?_
  rintro e w1 ⟨rfl, p1, q1⟩
  have O1_1 : Hid (layInts.own w1 (mkInts (j) d.list) [.slice ao1 d.list.1 cap1] K1) := p1
  have B1 : Hid (Box w1 w.heap.size #[.int .i64 d.code, .slice ao1 d.list.1 cap1] 31) := (q1.block w.heap.size B0.out.lt (fun hb => by have := Z1 _ hb; omega)).trans B0.out
  have CH1 : Hid (ChgL (K1) w w1) := CH0.out.sub q1 (fun b hb => hb)
  clear p1 q1
  go_wp2
  go_ret
  exact ⟨ret_eq (by omega), IntsResult_mk (mkvIntsResultD j d) O1_1.out k0, CH1.out⟩
end Go.Proofs.YtkijpgfmjogagaaGreat
namespace Go.Proofs.YtkijpgfmjogagaaGreat
open Go.RowKit F256
set_option maxHeartbeats 4000000 in
theorem heldIntsResult_is : HdV layIntsResult cvIntsResultD mkvIntsResultD 13 := fun cs d hi j w h hhi hj => by
  obtain ⟨ao1, cap1, rfl, r1, -⟩ := IntsResult_rd h
  clear h
  unfold cvIntsResultD at hj ⊢
  have R1 : Hid (layInts.rd w hi (mkInts (j) d.list) [.slice ao1 d.list.1 cap1]) := r1
  clear r1
  change Calls Tryz.prog 13 #[.agg #[.int .i64 d.code, .slice ao1 d.list.1 cap1], .int .i64 j] w _
  go_enter Tryz.func13, Tryz.ntmps13
  go_wp2_with fail
  have T0 := one_new w #[.int .i64 d.code, .slice ao1 d.list.1 cap1] 31
  refine (heldInts_is _ d.list hi (j) _ (layInts.rd_below R1.out T0.bel hhi) (Nat.le_trans hhi T0.bel.size) (by omega)).mono ?_
  rintro e w1 ⟨rfl, b1⟩
  have T1 : One w w1 #[.int .i64 d.code, .slice ao1 d.list.1 cap1] 31 := T0.call b1
  have hz1 : ¬ (((j + lenD d.list : Nat) : Int) < 0) := by omega
  have HB : Hid (Below w.heap.size w w1) := T1.bel
  clear b1 T1
  go_wp2
  go_ret
  exact ⟨ret_eq (by omega), HB.out⟩
end Go.Proofs.YtkijpgfmjogagaaGreat