/- Draws of texts: a text with something turned (l14Cut). -/
import Derived.Test.YtnjgpbnlkbcblaaWDraw2
import Derived.Laws.Concat
import Derived.Laws.Strings2
import Derived.Laws.IdiomStrings
import Derived.Deep.RegionWith
namespace Go.Proofs.Ytnjgpbnlkbcblaa
open Go.RowKit F256
set_option linter.unusedVariables false
set_option linter.unusedSimpArgs false

/-- a text is drawn, of at most m bytes; the source is k draws on at most -/
def CutP (bs t m : Nat) (v : Value) (n : Nat) (f : Nat → Nat) (w : World) (e : Ending) (w' : World) : Prop :=
  ∃ (s : ByteArray) (k : Nat), e = .returned (.string s) ∧ s.size ≤ m ∧ k ≤ 3 ∧ Src w' bs (t + k) v n f ∧ Chg bs (bs + 1) w w'

theorem Chg.drewR {lo hi q : Nat} {w w2 : World} (h : Chg lo hi w w2) : Chg lo hi w (w2.drewN q) := ⟨h.os, h.tape, h.output, h.size, h.block⟩
theorem Chg.undrewR {lo hi q : Nat} {w w2 : World} (h : Chg lo hi (w.drewN q) w2) : Chg lo hi w w2 := ⟨h.os, h.tape, h.output, h.size, h.block⟩
theorem Src.drewR {w : World} {bs t n q : Nat} {v : Value} {f : Nat → Nat} (h : Src w bs t v n f) : Src (w.drewN q) bs t v n f := h
/-- a text of one byte out of a list of one -/
theorem conv_one (w : World) (p : Nat) (hp : p < 256) : (convert 22 9 (.slice (some ⟨w.heap.size, 0, none⟩) 1 1)).run Try.prog (w.alloc (.cells #[.int .u8 (p : Int)] 5)) = .ok (.string ⟨#[UInt8.ofNat p]⟩) (w.alloc (.cells #[.int .u8 (p : Int)] 5)) := by
  have hX := box_new w #[.int .u8 (p : Int)] 5
  exact run_convert_bytes_back _ _ _ 5 ⟨w.heap.size, 0, none⟩ 1 [UInt8.ofNat p] Try.underlying22 Try.underlying5 Try.underlying9 (fun j hj => by
    have hj0 : j = 0 := by simp at hj; exact hj
    subst hj0
    have e : (UInt8.ofNat p).toNat = p := by simp [UInt8.toNat_ofNat']; omega
    show (w.alloc _).cell? ⟨w.heap.size, 0 + 0, none⟩ = some (.int .u8 (((UInt8.ofNat p).toNat : Nat) : Int))
    rw [e]
    exact hX.cell 0)
theorem wrap_u8 (p : Nat) (hp : p < 256) : IntKind.u8.wrap (p : Int) = (p : Int) := by rw [show IntKind.u8.wrap (p : Int) = (p : Int) % 256 from rfl]; omega
theorem str_size (a : Array UInt8) : (ByteArray.mk a).size = a.size := rfl
/-- an element of a list of texts -/
theorem pick_str {w : World} {b : Nat} {l : List ByteArray} (m : Nat) (hX : Box w b (l.map Value.string).toArray 9) (hm : ∀ x, x ∈ l → x.size ≤ m) (r : Nat) (hr : r < l.length) :
    ∃ s : ByteArray, s.size ≤ m ∧ w.cell? ⟨b, r, none⟩ = some (.string s) := by
  refine ⟨l[r], hm _ (List.getElem_mem hr), ?_⟩
  rw [hX.cell r]
  simp [hr]

set_option maxHeartbeats 8000000 in
theorem l14Cut_nil (bs t : Nat) (v : Value) (n : Nat) (f : Nat → Nat) (ht : t ≤ 900000) (w : World) (h : Src w bs t v n f) :
    Calls Try.prog 20 #[.pointer (some ⟨bs, 0, none⟩), .string ⟨#[]⟩] w (CutP bs t 1 v n f w) := by
  have hlt := h.1.lt
  have b0 : ∀ o, Below w.heap.size w (w.alloc o) := fun o => (Below.refl _ _).alloc (Nat.le_refl _) _
  have C := l1Next_any bs t v n f 4 (by omega) (by omega) (by omega) _ (h.chgTrans (b0 (.cells #[.string ⟨#[]⟩, .string ⟨#[32]⟩, .string ⟨#[120]⟩, .string ⟨#[10]⟩] 9)))
  go_enter Try.func20, Try.ntmps20
  go_wp2_with fail
  refine C.mono ?_
  rintro e w1 ⟨r, hr, rfl, s1, c1⟩
  have X := (box_new w #[.string ⟨#[]⟩, .string ⟨#[32]⟩, .string ⟨#[120]⟩, .string ⟨#[10]⟩] 9).chg c1 (by omega)
  obtain ⟨s, hs, hc⟩ := pick_str (l := [⟨#[]⟩, ⟨#[32]⟩, ⟨#[120]⟩, ⟨#[10]⟩]) 1 X (by simp [str_size]) r hr
  have C1 := (Below.chg (b0 (.cells #[.string ⟨#[]⟩, .string ⟨#[32]⟩, .string ⟨#[120]⟩, .string ⟨#[10]⟩] 9)) bs (bs + 1)).trans c1
  clear X c1 b0 C
  go_wp2
  go_ret
  exact ⟨s, 1, rfl, hs, by omega, s1, C1⟩

set_option maxHeartbeats 16000000 in
theorem l14Cut_some (bs t : Nat) (v : Value) (n : Nat) (f : Nat → Nat) (ht : t ≤ 900000) (b : ByteArray) (hb : 1 ≤ b.size) (hb2 : b.size ≤ 5000) (w : World) (h : Src w bs t v n f) :
    Calls Try.prog 20 #[.pointer (some ⟨bs, 0, none⟩), .string b] w (CutP bs t (b.size + 1) v n f w) := by
  have hlt := h.1.lt
  have hne : b.toList.isEmpty = false := by
    rw [ByteArray.toList_eq]
    cases he : b.data.toList with
    | nil =>
      have e0 : b.data.toList.length = 0 := by rw [he]; rfl
      rw [Array.length_toList] at e0
      have : b.data.size = b.size := rfl
      omega
    | cons x l => rfl
  have C := l1Next_any bs t v n f b.size hb (by omega) (by omega) _ h
  go_enter Try.func20, Try.ntmps20
  go_wp2_with fail
  refine C.mono ?_
  rintro e w1 ⟨r, hr, rfl, s1, c1⟩
  clear C
  have C2 := l1Next_any bs (t + 1) v n f 4 (by omega) (by omega) (by omega) _ s1
  go_wp2_with fail
  refine C2.mono ?_
  rintro e w2 ⟨q, hq, rfl, s2, c2⟩
  have c12 := c1.trans c2
  clear C2 c1 s1 h c2
  have hz : (r : Int) ≤ (b.size : Int) := by omega
  have hz1 : (r : Int) + 1 ≤ (b.size : Int) := by omega
  have hr0 : (0 : Int) ≤ (r : Int) := by omega
  have hr1 : (0 : Int) ≤ (r : Int) + 1 := by omega
  have hw1 : IntKind.i64.wrap ((r : Int) + 1) = (r : Int) + 1 := by rw [IntKind.wrap_i64]; omega
  have hq4 : q = 0 ∨ q = 1 ∨ q = 2 ∨ q = 3 := by omega
  rcases hq4 with rfl | rfl | rfl | rfl
  · go_wp2_with fail
    go_quiet (fail)
    go_wp2
    go_ret
    exact ⟨_, 2, rfl, by simp [ByteArray.size_append, ByteArray.size_extract]; omega, by omega, s2, c12.drewR⟩
  · have hlt2 := s2.1.lt
    have ba : ∀ wx : World, Below wx.heap.size wx (wx.alloc (.cells #[.string ⟨#[32]⟩, .string ⟨#[10]⟩, .string ⟨#[48]⟩, .string ⟨#[97]⟩, .string ⟨#[71]⟩, .string ⟨#[45]⟩] 9)) := fun wx => (Below.refl _ _).alloc (Nat.le_refl _) _
    have HX : Hid (∀ wx : World, Box (wx.alloc (.cells #[.string ⟨#[32]⟩, .string ⟨#[10]⟩, .string ⟨#[48]⟩, .string ⟨#[97]⟩, .string ⟨#[71]⟩, .string ⟨#[45]⟩] 9)) wx.heap.size #[.string ⟨#[32]⟩, .string ⟨#[10]⟩, .string ⟨#[48]⟩, .string ⟨#[97]⟩, .string ⟨#[71]⟩, .string ⟨#[45]⟩] 9) := fun wx => box_new _ _ _
    have HC2 : Hid (Chg bs (bs + 1) w (w2.alloc (.cells #[.string ⟨#[32]⟩, .string ⟨#[10]⟩, .string ⟨#[48]⟩, .string ⟨#[97]⟩, .string ⟨#[71]⟩, .string ⟨#[45]⟩] 9))) := c12.then ((ba w2).mono c12.size)
    have HBA : Hid (∀ wx : World, Below wx.heap.size wx (wx.alloc (.cells #[.string ⟨#[32]⟩, .string ⟨#[10]⟩, .string ⟨#[48]⟩, .string ⟨#[97]⟩, .string ⟨#[71]⟩, .string ⟨#[45]⟩] 9))) := ba
    have C4 : Calls Try.prog 13 #[.pointer (some ⟨bs, 0, none⟩), .int .i64 6] ((w2.alloc (.cells #[.string ⟨#[32]⟩, .string ⟨#[10]⟩, .string ⟨#[48]⟩, .string ⟨#[97]⟩, .string ⟨#[71]⟩, .string ⟨#[45]⟩] 9)).drewN 1) fun e w' => ∃ r : Nat, r < 6 ∧ e = .returned (.int .i64 r) ∧ Src w' bs (t + 3) v n f ∧ Chg bs (bs + 1) (w2.alloc (.cells #[.string ⟨#[32]⟩, .string ⟨#[10]⟩, .string ⟨#[48]⟩, .string ⟨#[97]⟩, .string ⟨#[71]⟩, .string ⟨#[45]⟩] 9)) w' := (l1Next_any bs (t + 2) v n f 6 (by omega) (by omega) (by omega) _ (Src.drewR (s2.chgTrans (ba w2)))).mono (fun e w' ⟨r, h1, h2, h3, h4⟩ => ⟨r, h1, h2, h3, h4.undrewR⟩)
    have C5 : Calls Try.prog 13 #[.pointer (some ⟨bs, 0, none⟩), .int .i64 6] (w2.drewN 1) fun e w' => ∃ r : Nat, r < 6 ∧ e = .returned (.int .i64 r) ∧ Src w' bs (t + 3) v n f ∧ Chg bs (bs + 1) w2 w' := (l1Next_any bs (t + 2) v n f 6 (by omega) (by omega) (by omega) _ (Src.drewR s2)).mono (fun e w' ⟨r, h1, h2, h3, h4⟩ => ⟨r, h1, h2, h3, h4.undrewR⟩)
    clear ba
    go_wp2_with fail
    go_region_with (go_at_call 13; first | (refine C4.mono ?_; rintro e w3 ⟨p, hp, rfl, s3, c3⟩; obtain ⟨x, hx, hc⟩ := pick_str (l := [⟨#[32]⟩, ⟨#[10]⟩, ⟨#[48]⟩, ⟨#[97]⟩, ⟨#[71]⟩, ⟨#[45]⟩]) 1 ((HX.out w2).chg c3 (by omega)) (by simp [str_size]) p hp) | (refine C5.mono ?_; rintro e w3 ⟨p, hp, rfl, s3, c3⟩; obtain ⟨x, hx, hc⟩ := pick_str (l := [⟨#[32]⟩, ⟨#[10]⟩, ⟨#[48]⟩, ⟨#[97]⟩, ⟨#[71]⟩, ⟨#[45]⟩]) 1 (HX.out w3) (by simp [str_size]) p hp))
    all_goals
      go_wp2
      go_ret
      first
        | exact ⟨_, 3, rfl, by simp [ByteArray.size_append, ByteArray.size_extract]; omega, by omega, s3, HC2.out.trans c3⟩
        | exact ⟨_, 3, rfl, by simp [ByteArray.size_append, ByteArray.size_extract]; omega, by omega, s3.chgTrans (HBA.out w3), (c12.trans c3).then ((HBA.out w3).mono (Nat.le_trans c12.size c3.size))⟩
        | (trace_state; sorry)
  · have hlt2 := s2.1.lt
    have C5 : Calls Try.prog 13 #[.pointer (some ⟨bs, 0, none⟩), .int .i64 256] (w2.drewN 1) fun e w' => ∃ r : Nat, r < 256 ∧ e = .returned (.int .i64 r) ∧ Src w' bs (t + 3) v n f ∧ Chg bs (bs + 1) w2 w' := (l1Next_any bs (t + 2) v n f 256 (by omega) (by omega) (by omega) _ (Src.drewR s2)).mono (fun e w' ⟨r, h1, h2, h3, h4⟩ => ⟨r, h1, h2, h3, h4.undrewR⟩)
    go_wp2_with fail
    go_region_with (go_at_call 13; refine C5.mono ?_; rintro e w3 ⟨p, hp, rfl, s3, c3⟩; have hwp := wrap_u8 p hp; have hcv := conv_one w3 p hp)
    all_goals
      go_wp2
      go_ret
      have ba : Below w3.heap.size w3 (w3.alloc (.cells #[.int .u8 (p : Int)] 5)) := (Below.refl _ _).alloc (Nat.le_refl _) _
      exact ⟨_, 3, rfl, by simp [ByteArray.size_append, ByteArray.size_extract, str_size]; omega, by omega, s3.chgTrans ba, (c12.trans c3).then (ba.mono (Nat.le_trans c12.size c3.size))⟩
  · go_wp2
    go_ret
    exact ⟨b.extract 0 r, 2, rfl, by simp [ByteArray.size_extract]; omega, by omega, s2, c12⟩

theorem l14Cut_any (bs t : Nat) (v : Value) (n : Nat) (f : Nat → Nat) (ht : t ≤ 900000) (b : ByteArray) (hb2 : b.size ≤ 5000) (w : World) (h : Src w bs t v n f) :
    Calls Try.prog 20 #[.pointer (some ⟨bs, 0, none⟩), .string b] w (CutP bs t (b.size + 1) v n f w) := by
  by_cases hb : b.size = 0
  · obtain rfl : b = ⟨#[]⟩ := by
      apply ByteArray.ext
      exact Array.eq_empty_of_size_eq_zero hb
    exact l14Cut_nil bs t v n f ht w h
  · exact l14Cut_some bs t v n f ht b (by omega) hb2 w h
end Go.Proofs.Ytnjgpbnlkbcblaa
