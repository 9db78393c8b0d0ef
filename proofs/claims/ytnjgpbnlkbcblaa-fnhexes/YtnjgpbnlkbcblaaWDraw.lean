/- Walks of the draws: numbers out of the bytes of a code. What is drawn is not told, only its bounds. -/
import Derived.Test.YtnjgpbnlkbcblaaOwn
import Derived.BigQuiet
import Derived.Deep.QuietTactic
namespace Go.Proofs.Ytnjgpbnlkbcblaa
open Go.RowKit F256

/-- a source of draws in block bs: t draws were made; its bytes lie below -/
def Src (w : World) (bs t : Nat) (v : Value) (n : Nat) (f : Nat → Nat) : Prop := Box w bs #[v, .int .i64 t] 48 ∧ Rd w bs v n f ∧ (∀ i, f i < 256) ∧ n ≤ 1048576

theorem nat_mod (a b : Nat) : ((a : Int) % (b : Int)) = ((a % b : Nat) : Int) := by simp
theorem nat_div (a b : Nat) : ((a : Int) / (b : Int)) = ((a / b : Nat) : Int) := by simp

set_option maxHeartbeats 2000000 in
theorem l1Next_any (bs t : Nat) (v : Value) (n : Nat) (f : Nat → Nat) (N : Nat) (hN : 1 ≤ N) (hN2 : N ≤ 100000) (ht : t ≤ 1000000) (w : World) (h : Src w bs t v n f) :
    Calls Try.prog 13 #[.pointer (some ⟨bs, 0, none⟩), .int .i64 N] w fun e w' => ∃ r : Nat, r < N ∧ e = .returned (.int .i64 r) ∧ Src w' bs (t + 1) v n f ∧ Chg bs (bs + 1) w w' := by
  obtain ⟨hbox, hrd, kf, hn⟩ := h
  obtain ⟨ao, cap, rfl, hm, hc⟩ := hrd
  have fin : ∀ k : Nat, Src ((w.setCell ⟨bs, 1, none⟩ (.int .i64 ((t : Int) + 1))).drewN k) bs (t + 1) (.slice ao n cap) n f ∧ Chg bs (bs + 1) w ((w.setCell ⟨bs, 1, none⟩ (.int .i64 ((t : Int) + 1))).drewN k) := by
    intro k
    have o1 := out_store w bs (bs + 1) bs 1 (.int .i64 ((t : Int) + 1)) (Nat.le_refl _) (by omega)
    refine ⟨⟨?_, ?_, kf, hn⟩, ⟨o1.os, o1.tape, o1.output, Nat.le_of_eq o1.size.symm, fun b _ hb => o1.block b hb⟩⟩
    · exact heap_setCell_same w bs 1 _ _ _ hbox
    · refine ⟨ao, cap, rfl, hm, fun h0 => ?_⟩
      obtain ⟨b, off, rfl, hlt, hcell⟩ := hc h0
      exact ⟨b, off, rfl, hlt, fun i hi => (World.cell?_of_block (w := w) (o1.block b (.inl hlt))).trans (hcell i hi)⟩
  obtain ⟨c0, c1, z0, z1⟩ := res_cells hbox
  by_cases h0 : n = 0
  · subst h0
    have F := fin 0
    clear fin hc kf hbox
    go_enter Try.func13, Try.ntmps13
    go_wp2
    go_ret
    exact ⟨t * 7 % N, Nat.mod_lt _ (by omega), ret_eq (by rw [Int.natCast_emod]; simp), F⟩
  · obtain ⟨b, off, rfl, hlt, hcell⟩ := hc h0
    have hp := Nat.mod_lt t (show 0 < n by omega)
    have hp2 := Nat.mod_lt (t + 1) (show 0 < n by omega)
    have hq2 := Nat.div_le_self t n
    have e1 := nat_mod t n
    have e2 := nat_mod (t + 1) n
    have e3 := nat_div t n
    have e2' : ((t : Int) + 1) % (n : Int) = (((t + 1) % n : Nat) : Int) := by rw [← e2]; simp
    have hbs : b ≠ bs := by omega
    obtain ⟨p, hpd⟩ : ∃ p, p = t % n := ⟨_, rfl⟩
    obtain ⟨p2, hpd2⟩ : ∃ p, p = (t + 1) % n := ⟨_, rfl⟩
    obtain ⟨q, hqd⟩ : ∃ p, p = t / n := ⟨_, rfl⟩
    rw [← hpd] at e1 hp
    rw [← hpd2] at e2' hp2
    rw [← hqd] at e3 hq2
    have g1 := hcell p hp
    have g2 := hcell p2 hp2
    have k1 := kf p
    have k2 := kf p2
    have hne : ((n : Int) == 0) = false := by simp; omega
    clear hpd hpd2 hqd e2 hc kf hbox hcell
    by_cases hbig : 200 < N
    · go_enter Try.func13, Try.ntmps13
      go_wp2
      go_quiet (fail)
      go_wp2
      go_quiet (fail)
      go_wp2
      go_ret
      exact ⟨((f p + q * 37) * 251 + f p2 * 13 + t) % N, Nat.mod_lt _ (by omega), ret_eq (by rw [Int.natCast_emod]; simp), fin _⟩
    · go_enter Try.func13, Try.ntmps13
      go_wp2
      go_quiet (fail)
      go_wp2
      go_ret
      exact ⟨(f p + q * 37) % N, Nat.mod_lt _ (by omega), ret_eq (by rw [Int.natCast_emod]; simp), fin _⟩

theorem Src.chgTrans {w w' : World} {bs t n : Nat} {v : Value} {f : Nat → Nat} (h : Src w bs t v n f) (hb : Below w.heap.size w w') : Src w' bs t v n f :=
  ⟨h.1.below hb h.1.lt, h.2.1.below hb (Nat.le_of_lt h.1.lt), h.2.2⟩

set_option maxHeartbeats 2000000 in
/-- a choice out of a list of numbers that lies in a block of its own -/
theorem l1Pick_any (bs t : Nat) (v : Value) (n : Nat) (f : Nat → Nat) (cs : Array Value) (g : Nat → Int) (bl cap : Nat) (ht : t ≤ 1000000) (hl : 1 ≤ cs.size) (hl2 : cs.size ≤ 100000) (hg : ∀ i, i < cs.size → cs[i]? = some (.int .i64 (g i)))
    (w : World) (h : Src w bs t v n f) (hb : Box w bl cs 2) (hne : bl ≠ bs) :
    Calls Try.prog 18 #[.pointer (some ⟨bs, 0, none⟩), .slice (some ⟨bl, 0, none⟩) cs.size cap] w fun e w' => ∃ i : Nat, i < cs.size ∧ e = .returned (.int .i64 (g i)) ∧ Src w' bs (t + 1) v n f ∧ Chg bs (bs + 1) w w' := by
  have C := l1Next_any bs t v n f cs.size hl hl2 ht w h
  obtain ⟨sz, hsz⟩ : ∃ sz, sz = cs.size := ⟨_, rfl⟩
  rw [← hsz] at C hl hl2 ⊢
  have HS : Hid (sz = cs.size) := hsz
  have HG : Hid (∀ i, i < cs.size → cs[i]? = some (.int .i64 (g i))) := hg
  clear hsz hg
  go_enter Try.func18, Try.ntmps18
  go_wp2_with (go_at_call 13; refine C.mono ?_; rintro e w1 ⟨r, hr, rfl, hsrc, hchg⟩; have hcell : w1.cell? ⟨bl, r, none⟩ = some (.int .i64 (g r)) := ((hb.chg hchg (by omega)).cell r).trans (HG.out r (by rw [← HS.out]; exact hr)))
  go_ret
  exact ⟨r, hr, rfl, hsrc, hchg⟩

set_option maxHeartbeats 2000000 in
theorem l1Byte_any (bs t : Nat) (v : Value) (n : Nat) (f : Nat → Nat) (ht : t ≤ 900000) (w : World) (h : Src w bs t v n f) :
    Calls Try.prog 22 #[.pointer (some ⟨bs, 0, none⟩)] w fun e w' => ∃ a : Nat, a < 256 ∧ e = .returned (.int .u8 a) ∧ Src w' bs (t + 3) v n f ∧ Chg bs (bs + 1) w w' := by
  go_enter Try.func22, Try.ntmps22
  go_wp2_with fail
  refine (l1Next_any bs t v n f 256 (by omega) (by omega) (by omega) _ h).mono ?_
  rintro e w1 ⟨r1, hr1, rfl, h1, c1⟩
  go_wp2_with fail
  refine (l1Next_any bs (t + 1) v n f 256 (by omega) (by omega) (by omega) _ h1).mono ?_
  rintro e w2 ⟨r2, hr2, rfl, h2, c2⟩
  go_wp2_with fail
  have hb : Below w2.heap.size w2 (w2.alloc (.cells #[.int .i64 r1, .int .i64 r2, .int .i64 0, .int .i64 1, .int .i64 2, .int .i64 255] 2)) := (Below.refl _ _).alloc (Nat.le_refl _) _
  have hl2 := h2.1.lt
  refine (l1Pick_any bs (t + 2) v n f #[.int .i64 r1, .int .i64 r2, .int .i64 0, .int .i64 1, .int .i64 2, .int .i64 255] (fun i => ([(r1 : Int), (r2 : Int), 0, 1, 2, 255] : List Int).getD i 0) w2.heap.size 6 (by omega) (by show 1 ≤ 6; omega) (by show 6 ≤ 100000; omega) ?_ _ (h2.chgTrans hb) (box_new _ _ _) (by omega)).mono ?_
  · intro i hi
    have hi6 : i < 6 := hi
    have : i = 0 ∨ i = 1 ∨ i = 2 ∨ i = 3 ∨ i = 4 ∨ i = 5 := by omega
    rcases this with rfl | rfl | rfl | rfl | rfl | rfl <;> rfl
  rintro e w3 ⟨j, hj, rfl, h3, c3⟩
  have hj6 : j < 6 := hj
  obtain ⟨a, ha, hae⟩ : ∃ a : Nat, a < 256 ∧ ([(r1 : Int), (r2 : Int), 0, 1, 2, 255] : List Int).getD j 0 = (a : Int) := by
    have : j = 0 ∨ j = 1 ∨ j = 2 ∨ j = 3 ∨ j = 4 ∨ j = 5 := by omega
    rcases this with rfl | rfl | rfl | rfl | rfl | rfl
    · exact ⟨r1, hr1, rfl⟩
    · exact ⟨r2, hr2, rfl⟩
    · exact ⟨0, by omega, rfl⟩
    · exact ⟨1, by omega, rfl⟩
    · exact ⟨2, by omega, rfl⟩
    · exact ⟨255, by omega, rfl⟩
  rw [hae]
  have C := (c1.trans c2).trans ((Below.chg hb bs (bs + 1)).trans c3)
  clear hae hj hj6 h1 h2 c1 c2 c3 hb
  go_wp2
  go_ret
  exact ⟨a, ha, rfl, h3, C⟩

theorem l1Source_any (v : Value) (n : Nat) (f : Nat → Nat) (w : World) (h : Rd w w.heap.size v n f) (kf : ∀ i, f i < 256) (hn : n ≤ 1048576) :
    Calls Try.prog 11 #[v] w fun e w' => e = .returned (.pointer (some ⟨w.heap.size, 0, none⟩)) ∧ Src w' w.heap.size 0 v n f ∧ Below w.heap.size w w' := by
  have hb : Below w.heap.size w (w.alloc (.cells #[v, .int .i64 0] 48)) := (Below.refl _ _).alloc (Nat.le_refl _) _
  have hs : Src (w.alloc (.cells #[v, .int .i64 0] 48)) w.heap.size 0 v n f := ⟨box_new _ _ _, h.below hb (Nat.le_refl _), kf, hn⟩
  obtain ⟨ao, cap, rfl, hm, hc⟩ := h
  clear hc
  go_enter Try.func11, Try.ntmps11
  go_wp2
  go_ret
  exact ⟨rfl, hs, hb⟩

theorem lwBig_no (v : Value) (n : Nat) (f : Nat → Nat) (hh : Nat) (w : World) (h : Rd w hh v n f) (hn : n ≤ 1048576) :
    Calls Try.prog 4 #[v] w fun e w' => e = .returned (.bool false) ∧ w' = w := by
  obtain ⟨ao, cap, rfl, hm, hc⟩ := h
  clear hc
  have hd : decide ((1048576 : Int) < (n : Int)) = false := by simp; omega
  go_enter Try.func4, Try.ntmps4
  go_wp2
  go_ret
  exact ⟨rfl, rfl⟩
theorem lwBig_yes (v : Value) (n : Nat) (f : Nat → Nat) (hh : Nat) (w : World) (h : Rd w hh v n f) (hn : 1048576 < n) :
    Calls Try.prog 4 #[v] w fun e w' => e = .returned (.bool true) ∧ w' = w := by
  obtain ⟨ao, cap, rfl, hm, hc⟩ := h
  clear hc
  unfold maxLen at hm
  have hd : decide ((1048576 : Int) < (n : Int)) = true := by simp; omega
  go_enter Try.func4, Try.ntmps4
  go_wp2
  go_ret
  exact ⟨rfl, rfl⟩
end Go.Proofs.Ytnjgpbnlkbcblaa
