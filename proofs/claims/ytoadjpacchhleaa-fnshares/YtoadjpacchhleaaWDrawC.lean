/- Walks of the draw of a column. What is drawn is not told, only its bounds. -/
import Derived.Test.YtoadjpacchhleaaWDrawR
import Derived.Test.YtoadjpacchhleaaWBld
import Derived.Test.YtoadjpacchhleaaWBytess
import Derived.Deep.DeepCutAuto
namespace Go.Proofs.Ytoadjpacchhleaa
open Go.RowKit F256
set_option linter.unusedVariables false
set_option linter.unusedSimpArgs false

theorem Src.overC {wx w4 : World} {B bs t n : Nat} {v : Value} {f : Nat → Nat} (h : Src wx bs t v n f) (b : Below B wx w4) (hB : bs < B) : Src w4 bs t v n f := ⟨h.1.below b hB, h.2.1.below b (by omega), h.2.2⟩
theorem OwnE.chgC {w w2 : World} {bs lo : Nat} {v : Value} {R : Nat} {n : Nat → Nat} {M : Mat} {g cap : Nat} {e : Nat → Value} (h : OwnE w lo w.heap.size v R n M g cap e) (c : Chg bs (bs + 1) w w2) (hb : bs < lo) : OwnE w2 lo w2.heap.size v R n M g cap e :=
  (h.keep (w2 := w2) fun b h1 h2 => c.block b h2 (.inr (by omega))).weaken c.size

set_option maxHeartbeats 2000000 in
theorem l3Sides_any (bs t : Nat) (v : Value) (n : Nat) (f : Nat → Nat) (ht : t ≤ 900000) (w : World) (h : Src w bs t v n f) :
    Calls Try.prog 62 #[.pointer (some ⟨bs, 0, none⟩)] w fun e w' => ∃ a b : Int, -1 ≤ a ∧ a ≤ 5 ∧ -1 ≤ b ∧ b ≤ 3 ∧ e = .returned (.tuple #[.int .i64 a, .int .i64 b]) ∧ Src w' bs (t + 3) v n f ∧ Chg bs (bs + 1) w w' := by
  go_enter Try.func62, Try.ntmps62
  go_wp2_with fail
  refine (l1Chance_any bs t v n f 24 (by omega) (by omega) (by omega) _ h).mono ?_
  rintro e w1 ⟨b1, rfl, h1, c1⟩
  clear h
  have l1 := h1.1.lt
  cases b1 with
  | false =>
    go_wp2_with fail
    refine (l1Next_any bs (t + 1) v n f 4 (by omega) (by omega) (by omega) _ h1).mono ?_
    rintro e w2 ⟨r2, hr2, rfl, h2, c2⟩
    go_wp2_with fail
    refine (l1Next_any bs (t + 2) v n f 3 (by omega) (by omega) (by omega) _ h2).mono ?_
    rintro e w3 ⟨r3, hr3, rfl, h3, c3⟩
    have C := (c1.trans c2).trans c3
    clear h1 h2 c1 c2 c3
    go_wp2
    go_ret2
    exact ⟨_, _, by omega, by omega, by omega, by omega, rfl, h3, C⟩
  | true =>
    have hb1 : Below w1.heap.size w1 (w1.alloc (.cells #[.int .i64 0, .int .i64 5, .int .i64 4, .int .i64 (-1)] 2)) := (Below.refl _ _).alloc (Nat.le_refl _) _
    have P1 := l1Pick_list bs (t + 1) v n f [0, 5, 4, -1] w1.heap.size 4 (by omega) (by show 1 ≤ 4; omega) (by show 4 ≤ 100000; omega) _ (h1.chgTrans hb1) (box_new _ _ _) (by omega)
    go_wp2_with fail
    refine P1.mono ?_
    rintro e w2 ⟨a, ha, rfl, h2, c2⟩
    have l2 := h2.1.lt
    have hb2 : Below w2.heap.size w2 (w2.alloc (.cells #[.int .i64 0, .int .i64 3, .int .i64 2, .int .i64 (-1)] 2)) := (Below.refl _ _).alloc (Nat.le_refl _) _
    have P2 := l1Pick_list bs (t + 2) v n f [0, 3, 2, -1] w2.heap.size 4 (by omega) (by show 1 ≤ 4; omega) (by show 4 ≤ 100000; omega) _ (h2.chgTrans hb2) (box_new _ _ _) (by omega)
    clear P1
    have HA : Hid (-1 ≤ a ∧ a ≤ 5) := by
      show -1 ≤ a ∧ a ≤ 5
      simp only [List.mem_cons, List.not_mem_nil, or_false] at ha
      omega
    clear ha
    go_wp2_with fail
    refine P2.mono ?_
    rintro e w3 ⟨b, hb, rfl, h3, c3⟩
    have HB : Hid (-1 ≤ b ∧ b ≤ 3) := by
      show -1 ≤ b ∧ b ≤ 3
      simp only [List.mem_cons, List.not_mem_nil, or_false] at hb
      omega
    have C := ((c1.trans (Below.chg hb1 bs (bs + 1))).trans c2).trans ((Below.chg hb2 bs (bs + 1)).trans c3)
    clear hb hb1 hb2 h1 h2 c1 c2 c3 P2
    go_wp2
    go_ret2
    exact ⟨a, b, HA.out.1, HA.out.2, HB.out.1, HB.out.2, rfl, h3, C⟩

/-- lists that were drawn -/
def L3P (w : World) (bs t : Nat) (v : Value) (n : Nat) (f : Nat → Nat) (a : Int) (e : Ending) (w' : World) : Prop :=
  ∃ g cap N ff ee t', e = .returned (.slice (some ⟨g, 0, none⟩) a.toNat cap) ∧ OwnE w' w.heap.size w'.heap.size (.slice (some ⟨g, 0, none⟩) a.toNat cap) a.toNat (fun _ => N) ff g cap ee ∧ Byt ff ∧ N ≤ 6 ∧ t' ≤ t + 200 ∧ Src w' bs t' v n f ∧ Chg bs (bs + 1) w w'
set_option maxHeartbeats 4000000 in
theorem l3Lists_any (bs t : Nat) (v : Value) (n : Nat) (f : Nat → Nat) (ht : t ≤ 700000) (a : Int) (ha1 : -1 ≤ a) (ha2 : a ≤ 5) (w : World) (h : Src w bs t v n f) :
    Calls Try.prog 63 #[.pointer (some ⟨bs, 0, none⟩), .int .i64 a] w (L3P w bs t v n f a) := by
  have hbs := h.1.lt
  have b0 : Below w.heap.size w (w.alloc (.cells #[] 22)) := (Below.refl _ _).alloc (Nat.le_refl _) _
  have NX := l1Next_any bs t v n f 6 (by omega) (by omega) (by omega) _ (h.chgTrans b0)
  clear h
  go_enter Try.func63, Try.ntmps63
  go_wp2_with fail
  refine NX.mono ?_
  rintro e w1 ⟨r, hr, rfl, h1, c1⟩
  have C1 : Chg bs (bs + 1) w w1 := (Below.chg b0 bs (bs + 1)).trans c1
  have H1 : Hid (Src w1 bs (t + 1) v n f) := h1
  have s1 := C1.size
  have sz0 : w.heap.size + 1 ≤ w1.heap.size := by have := c1.size; simpa using this
  have hl0 := World.ownsRow_lit (base := w.heap.size) (e := 22) (size := 1) w #[] 0 (Nat.le_refl _) (Nat.zero_le _) rfl
  have hl : w1.ownsRow w.heap.size 22 1 (.slice (some ⟨w.heap.size, 0, none⟩) 0 0) 0 (valsOf 0 fun _ => nilS) := row_kept hl0 fun q hq => by
    have e1 : w.heap.size = q := by simpa [Value.ownBlock] using hq
    subst e1
    exact c1.block _ (by simp) (.inr (by omega))
  have B0 : BldR w1 w.heap.size w1.heap.size (.slice (some ⟨w.heap.size, 0, none⟩) 0 0) 0 (fun _ => r + 1) (fun _ _ => 0) (fun _ => nilS) := ⟨hl, by simp, fun b hb => (hl.lt b hb).2, fun i hi => by omega, fun i j hi => by omega, by omega, Nat.le_refl _⟩
  clear NX h1 c1 hl0 hl b0
  obtain ⟨N, hN⟩ : ∃ N, N = r + 1 := ⟨_, rfl⟩
  have er2 : ((r : Int) + 1) = (N : Int) := by omega
  have er3 : (1 : Int) + (r : Int) = (N : Int) := by omega
  rw [← hN] at B0
  have hN6 : N ≤ 6 := by omega
  have hN1 : 1 ≤ N := by omega
  clear hN
  go_wp2
  go_loopw [1, 5] (fun z u wr => ∃ k : Nat, k ≤ a.toNat ∧ z = .int .i64 (a - (k : Int)) ∧ ∃ ff e t', BldR wr w.heap.size wr.heap.size u k (fun _ => N) ff e ∧ Byt ff ∧ t' ≤ t + 1 + 20 * k ∧ Src wr bs t' v n f ∧ Chg bs (bs + 1) w wr) (fun z _ _ => (intOf z).toNat)
  case atStart => exact ⟨0, Nat.zero_le _, by simp, fun _ _ => 0, fun _ => nilS, t + 1, B0, fun _ _ => by show (0 : Nat) < 256; omega, by omega, H1.out, C1⟩
  case round =>
    clear B0
    obtain ⟨k, hk, rfl, ff, e, t', hB, kff, ht', hsrc, hchg⟩ := hrel
    by_cases hlt : k < a.toNat
    · have C := l1Some_any bs t' v n f N (by omega) (by omega) wr hsrc
      have hsz := hchg.size
      have HB : Hid (BldR wr w.heap.size wr.heap.size u5 k (fun _ => N) ff e) := hB
      have HF : Hid (Byt ff) := kff
      have hpos : (0 : Int) < a - (k : Int) := by omega
      have hpos2 : (k : Int) < a := by omega
      clear hB kff hsrc
      go_wp2_with (first | (go_at_call 43; refine C.mono ?_; rintro ee wx ⟨vx, gx, rfl, ox, kgx, sx, cx⟩; obtain ⟨aox, capx, rfl⟩ := ox.slice; have HBX : Hid (BldR wx w.heap.size wr.heap.size u5 k (fun _ => N) ff e) := HB.out.kept (fun b h1 h2 => cx.block b h2 (.inr (by omega))) cx.size) | (at_builtin; refine wp_appendM rfl (.tmp 15) (.tmp 19) rfl w.heap.size u5 k e ?_ ?_ wx.heap.size 1 (.slice aox N capx) ?_ ?_ rfl (by omega) ?_ ?_; (simp [Act.eval]); exact HBX.out.row.alloc _; (simp [Act.eval]); simp; (simp; have := cx.size; omega); intro v4 w4 hr4 hg4 hn4))
      have NX := HBX.out.next (n' := fun _ => N) (f' := fun i => if i = k then gx else ff i) (by simpa using ox) (Nat.le_refl _) (fun _ _ => rfl) (fun i hi => by simp [show ¬ i = k by omega]) hr4 hg4 hn4
      have hcx := cx.size
      have b4 : Below w.heap.size wx w4 := ((Below.refl w.heap.size wx).alloc (by omega) _).grown hg4 (by simp; omega) (fun b hb' => (HBX.out.row.lt b hb').1)
      have R1 := sx.overC b4 hbs
      have R2 := Chg.then (hchg.trans cx) b4
      have R3 : Byt (fun i => if i = k then gx else ff i) := fun i j => by
        by_cases c : i = k
        · simp [c]; exact kgx j
        · simp [c]; exact HF.out i j
      clear hr4 hg4 hn4 b4 sx cx ox kgx HBX HB HF hchg C
      go_wp2
      go_roundw
      case rel => exact ⟨k + 1, by omega, by first | go_num | (simp; omega), _, _, _, NX, R3, by omega, R1, R2⟩
      case measure => simp [intOf]; omega
    · obtain rfl : k = a.toNat := by omega
      obtain ⟨g, cap, hE⟩ := hB.done
      have hv := hE.val
      subst hv
      have HE : Hid (OwnE wr w.heap.size wr.heap.size (.slice (some ⟨g, 0, none⟩) a.toNat cap) a.toNat (fun _ => N) ff g cap e) := hE
      have hneg : decide (max a 0 < a) = false := by simp; omega
      have HF : Hid (Byt ff) := kff
      clear hE hB kff
      go_wp2
      go_ret
      exact ⟨_, _, N, ff, e, t', rfl, HE.out, HF.out, hN6, by omega, hsrc, hchg⟩
end Go.Proofs.Ytoadjpacchhleaa
