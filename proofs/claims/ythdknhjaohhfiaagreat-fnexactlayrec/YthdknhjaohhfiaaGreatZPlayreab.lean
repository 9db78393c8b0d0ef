/- Owned slices whose elements hold slices, made and filled one by one. -/
import Derived.Test.YthdknhjaohhfiaaGreatZPlayreaa
import Derived.BigQuiet
import Derived.Deep.QuietTactic
import Derived.Deep.Matrix
import Derived.Test.YthdknhjaohhfiaaGreatProg
import Derived.ChangeSame
import Derived.ChangeMaps5
import Derived.Maps.AppendAt
namespace Go.Proofs.YthdknhjaohhfiaaGreat
open Go.RowKit
set_option linter.unusedVariables false

/-- cells stored one behind the other -/
def stN (w : World) (g : Nat) : Nat → List Value → World
  | _, [] => w
  | off, c :: cs => stN (w.setCell ⟨g, off, none⟩ c) g (off + 1) cs
def setL {β : Type} (xs : List β) : Nat → List β → List β
  | _, [] => xs
  | off, c :: cs => setL (xs.set off c) (off + 1) cs
theorem stN_heap (g b : Nat) (hb : b ≠ g) : ∀ (cs : List Value) (w : World) (off : Nat), (stN w g off cs).heap[b]? = w.heap[b]?
  | [], w, off => rfl
  | c :: cs, w, off => (stN_heap g b hb cs _ _).trans (heap_setCell_other w ⟨g, off, none⟩ b c hb)
theorem stN_size (g : Nat) : ∀ (cs : List Value) (w : World) (off : Nat), (stN w g off cs).heap.size = w.heap.size
  | [], w, off => rfl
  | c :: cs, w, off => (stN_size g cs _ _).trans (by simp)
theorem stN_rest (g : Nat) : ∀ (cs : List Value) (w : World) (off : Nat), (stN w g off cs).os = w.os ∧ (stN w g off cs).tape = w.tape ∧ (stN w g off cs).output = w.output
  | [], w, off => ⟨rfl, rfl, rfl⟩
  | c :: cs, w, off => stN_rest g cs _ _
theorem stN_below {B g : Nat} {w : World} (h : B ≤ g) (cs : List Value) (off : Nat) : Below B w (stN w g off cs) :=
  ⟨(stN_rest g cs w off).1, (stN_rest g cs w off).2.1, (stN_rest g cs w off).2.2, Nat.le_of_eq (stN_size g cs w off).symm, fun k hk => stN_heap g k (by omega) cs w off⟩
theorem row_stN {base cap n s g : Nat} {t : TypeId} : ∀ (cs : List Value) (w : World) (off : Nat) (xs : List Value), w.ownsRow base t s (.slice (some ⟨g, 0, none⟩) n cap) n xs → (stN w g off cs).ownsRow base t s (.slice (some ⟨g, 0, none⟩) n cap) n (setL xs off cs)
  | [], w, off, xs, h => h
  | c :: cs, w, off, xs, h => row_stN cs _ _ _ (h.stored off c).1
theorem setL_get {β : Type} : ∀ (cs : List β) (xs : List β) (off i : Nat), off + cs.length ≤ xs.length → (setL xs off cs)[i]? = if off ≤ i ∧ i < off + cs.length then cs[i - off]? else xs[i]?
  | [], xs, off, i, h => by simp [setL]; omega
  | c :: cs, xs, off, i, h => by
    simp only [List.length_cons] at h
    rw [setL, setL_get cs (xs.set off c) (off + 1) i (by simp; omega), List.length_cons]
    by_cases c1 : off + 1 ≤ i ∧ i < off + 1 + cs.length
    · rw [if_pos c1, if_pos (by omega), show i - off = (i - (off + 1)) + 1 by omega, List.getElem?_cons_succ]
    · rw [if_neg c1]
      by_cases c2 : i = off
      · subst c2
        rw [if_pos (by omega), List.getElem?_set_self (by omega), Nat.sub_self]
        rfl
      · rw [if_neg (by omega), List.getElem?_set_ne (fun h => c2 h.symm)]
theorem catN_setL {n s : Nat} {ce : Nat → List Value} (h : ∀ i, i < n → (ce i).length = s) {k : Nat} (hk : k < n) {cs : List Value} (hcs : cs.length = s) : setL (catN n ce) (k * s) cs = catN n (upd ce k cs) := by
  have hl := catN_len h
  have hu : ∀ i, i < n → (upd ce k cs i).length = s := fun i hi => by
    by_cases c : i = k
    · subst c; rw [upd_at]; exact hcs
    · rw [upd_ne ce cs c]; exact h i hi
  have hl2 := catN_len hu
  have hks : k * s + s ≤ n * s := by
    have := Nat.mul_le_mul_right s (show k + 1 ≤ n from hk)
    rw [Nat.succ_mul] at this
    exact this
  apply List.ext_getElem?
  intro i
  rw [setL_get cs _ _ i (by omega)]
  by_cases hi : i < n * s
  · have hs : 0 < s := by
      rcases Nat.eq_zero_or_pos s with h0 | h0
      · rw [h0] at hi; omega
      · exact h0
    have e : i / s * s + i % s = i := by rw [Nat.mul_comm]; exact Nat.div_add_mod i s
    have hq : i / s < n := (Nat.div_lt_iff_lt_mul hs).2 hi
    have hr := Nat.mod_lt i hs
    have g1 := catN_get h hq hr
    have g2 := catN_get hu hq hr
    rw [e] at g1 g2
    rw [g1, g2]
    by_cases c : i / s = k
    · have h1 : k * s ≤ i := by rw [← c]; omega
      have h2 : i < k * s + s := by rw [← c]; omega
      rw [if_pos ⟨h1, by omega⟩, c, upd_at]
      congr 1
      rw [← c]
      omega
    · rw [upd_ne ce cs c, if_neg]
      rintro ⟨h1, h2⟩
      apply c
      have h3 : k ≤ i / s := (Nat.le_div_iff_mul_le hs).2 h1
      have h4 : i / s < k + 1 := (Nat.div_lt_iff_lt_mul hs).2 (by rw [Nat.succ_mul]; omega)
      omega
  · rw [if_neg (by omega), List.getElem?_eq_none (by omega), List.getElem?_eq_none (by omega)]

/-- a slice of n elements of which the first k are laid -/
structure SlP {α : Type} (E : Lay α) (t : TypeId) (w : World) (lo g cap n k : Nat) (x : Nat → α) (ce : Nat → List Value) (Ls : Nat → List Nat) : Prop where
  row : w.ownsRow lo t E.sz (.slice (some ⟨g, 0, none⟩) n cap) n (catN n ce)
  lens : ∀ i, i < n → (ce i).length = E.sz
  each : ∀ i, i < k → E.own w (x i) (ce i) (Ls i)
  nd : (g :: catN k Ls).Nodup
  low : ∀ b, b ∈ catN k Ls → lo ≤ b
section
variable {α : Type} {E : Lay α} {t : TypeId} {w w' : World} {lo g cap n k : Nat} {x : Nat → α} {ce : Nat → List Value} {Ls : Nat → List Nat}
theorem SlP.cell (h : SlP E t w lo g cap n k x ce Ls) {i j : Nat} (hi : i < n) (hj : j < E.sz) : w.cell? ⟨g, i * E.sz + j, none⟩ = (ce i)[j]? := by
  rw [h.row.cellAt _ (mul_lt hi hj), catN_get h.lens hi hj]
theorem SlP.frozen (h : SlP E t w lo g cap n k x ce Ls) (j : Nat) : w.frozen? ⟨g, j, none⟩ = false := h.row.frozenAt j
theorem SlP.lt (h : SlP E t w lo g cap n k x ce Ls) : g < w.heap.size := (h.row.lt g rfl).2
theorem SlP.mem_lt (h : SlP E t w lo g cap n k x ce Ls) : ∀ b, b ∈ catN k Ls → b < w.heap.size := fun b hb => by
  obtain ⟨i, hi, hbi⟩ := mem_catN.1 hb
  exact E.own_lt (h.each i hi) b hbi
/-- behind a call that only makes memory -/
theorem SlP.below (h : SlP E t w lo g cap n k x ce Ls) (hb : Below w.heap.size w w') : SlP E t w' lo g cap n k x ce Ls := by
  refine ⟨⟨h.row.1, ?_⟩, h.lens, fun i hi => E.own_kept (h.each i hi) (fun b hb' => hb.block b (E.own_lt (h.each i hi) b hb')), h.nd, h.low⟩
  rcases h.row.2 with ⟨hn, _⟩ | ⟨g', cap', cur, he, hbg, hgg, rest⟩
  · cases hn
  · cases he
    exact .inr ⟨g, cap, cur, rfl, hbg, (hb.block g h.lt).trans hgg, rest⟩
/-- the element k is laid: w1 the world ahead of the call that made it, w the one behind it -/
theorem SlP.lay {w1 : World} (h1 : SlP E t w1 lo g cap n k x ce Ls) (hb : Below w1.heap.size w1 w) (hk : k < n) {a : α} {cs : List Value} {K : List Nat} (ha : E.own w a cs K) (hnd : K.Nodup) (hK : ∀ b, b ∈ K → w1.heap.size ≤ b) (hlo : lo ≤ w1.heap.size) :
    SlP E t (stN w g (k * E.sz) cs) lo g cap n (k + 1) (upd x k a) (upd ce k cs) (upd Ls k K) := by
  have h := h1.below hb
  have hcs := E.own_len ha
  have eL : catN (k + 1) (upd Ls k K) = catN k Ls ++ K := by
    rw [catN_succ, upd_at, catN_congr (g := Ls) (fun i hi => upd_ne Ls K (by omega))]
  have hg1 := h1.lt
  have hgne : ∀ b, b ∈ catN (k + 1) (upd Ls k K) → b ≠ g := fun b hb' hh => by
    subst hh
    rw [eL] at hb'
    rcases List.mem_append.1 hb' with h3 | h3
    · exact (List.nodup_cons.1 h.nd).1 h3
    · have := hK b h3; omega
  have own' : ∀ i, i < k + 1 → E.own w (upd x k a i) (upd ce k cs i) (upd Ls k K i) := fun i hi => by
    by_cases c : i = k
    · subst c; rw [upd_at, upd_at, upd_at]; exact ha
    · rw [upd_ne x a c, upd_ne ce cs c, upd_ne Ls K c]; exact h.each i (by omega)
  refine ⟨?_, fun i hi => ?_, fun i hi => ?_, ?_, ?_⟩
  · have := row_stN cs w (k * E.sz) _ h.row
    rw [catN_setL h.lens hk hcs] at this
    exact this
  · by_cases c : i = k
    · subst c; rw [upd_at]; exact hcs
    · rw [upd_ne ce cs c]; exact h.lens i hi
  · exact E.own_kept (own' i hi) (fun b hb' => stN_heap g b (hgne b (mem_catN.2 ⟨i, hi, hb'⟩)) cs w _)
  · rw [eL]
    refine List.nodup_cons.2 ⟨fun hb' => hgne g (by rw [eL]; exact hb') rfl, List.nodup_append.2 ⟨(List.nodup_cons.1 h.nd).2, hnd, fun b hb1 c hc1 hh => ?_⟩⟩
    subst hh
    have k1 := h1.mem_lt b hb1
    have k2 := hK b hc1
    omega
  · rw [eL]
    intro b hb'
    rcases List.mem_append.1 hb' with h3 | h3
    · exact h.low b h3
    · have := hK b h3; omega
theorem SlP.done (h : SlP E t w lo g cap n n x ce Ls) (hg : lo ≤ g) : OwnT (E.slice t) w lo w.heap.size (n, x) [.slice (some ⟨g, 0, none⟩) n cap] := by
  refine ⟨g :: catN n Ls, ⟨_, ce, Ls, rfl, by simp [Value.ownBlock], ⟨h.row.1, ?_⟩, h.each⟩, h.nd, fun b hb => ?_⟩
  · rcases h.row.2 with ⟨hn, _⟩ | ⟨g', cap', cur, he, hbg, rest⟩
    · cases hn
    · exact .inr ⟨g', cap', cur, he, Nat.zero_le _, rest⟩
  · rcases List.mem_cons.1 hb with rfl | hb
    · exact ⟨hg, h.lt⟩
    · exact ⟨h.low b hb, h.mem_lt b hb⟩
end
end Go.Proofs.YthdknhjaohhfiaaGreat

namespace Go.Proofs.YthdknhjaohhfiaaGreat
open Go.RowKit

/-- n numbers, a cell each -/
def layNums (n : Nat) : Lay (Nat → Int) where
  sz := n
  rd := fun _ _ s cs => cs = (List.range n).map (fun i => Value.int .i64 (s i)) ∧ ∀ i, -9223372036854775808 ≤ s i ∧ s i ≤ 9223372036854775807
  own := fun _ s cs L => cs = (List.range n).map (fun i => Value.int .i64 (s i)) ∧ (∀ i, -9223372036854775808 ≤ s i ∧ s i ≤ 9223372036854775807) ∧ L = []
  rd_len := fun h => by rw [h.1]; simp
  rd_below := fun h _ _ => h
  rd_mono := fun h _ => h
  own_len := fun h => by rw [h.1]; simp
  own_kept := fun h _ => h
  own_lt := fun h b hb => by rw [h.2.2] at hb; cases hb
  own_rd := fun h _ => ⟨h.1, h.2.1⟩
  own_one := fun h u hu => by
    rw [h.1] at hu
    obtain ⟨i, _, rfl⟩ := List.mem_map.1 hu
    rfl

structure BlockD where
  stamp : Int
  bytes : Nat × (Nat → Nat)
structure DriveD where
  wiped : Bool
  blocks : Nat × (Nat → BlockD)
structure RecD where
  kind : Int
  seq : Int
  name : ByteArray
  length : Int
  group : Int
  row : Int
  rows : Nat × (Nat → Int)
  data : Nat × (Nat → Nat)
  delta : Nat × (Nat → Nat)
structure TapeD where
  wiped : Bool
  recs : Nat × (Nat → RecD)
structure WorldD where
  shape : Nat → Int
  groups : Nat × (Nat → Nat × (Nat → DriveD))
  on : Nat × (Nat → Int)
  tapes : Nat × (Nat → TapeD)
  writes : Int
  stop : Int
  down : Bool
def layBlock : Lay BlockD := (layI.two layBytes).as fun d => (d.stamp, d.bytes)
def layDrive : Lay DriveD := (layB.two (layBlock.slice 108)).as fun d => (d.wiped, d.blocks)
def layRec : Lay RecD := (layI.two (layI.two (layS.two (layI.two (layI.two (layI.two (layInts.two (layBytes.two layBytes)))))))).as fun d => (d.kind, d.seq, d.name, d.length, d.group, d.row, d.rows, d.data, d.delta)
def layTape : Lay TapeD := (layB.two (layRec.slice 43)).as fun d => (d.wiped, d.recs)
def layWorld : Lay WorldD := ((layNums 9).two (((layDrive.slice 106).slice 103).two (layInts.two ((layTape.slice 112).two (layI.two (layI.two layB)))))).as fun d => (d.shape, d.groups, d.on, d.tapes, d.writes, d.stop, d.down)
end Go.Proofs.YthdknhjaohhfiaaGreat

namespace Go.Proofs.YthdknhjaohhfiaaGreat
open Go.RowKit F256

set_option maxHeartbeats 400000 in
theorem toByteS_any (v : Value) (n : Nat) (f : Nat → Nat) (hi : Nat) (w : World) (h : Rd w hi v n f) (hhi : hi ≤ w.heap.size) (hn : n ≤ 140737488351232) :
    Calls Tryz.prog 36 #[v] w fun e w' => ∃ v', e = .returned v' ∧ Own w' w.heap.size w'.heap.size v' n f ∧ Below w.heap.size w w' := by
  obtain ⟨ao, cap, rfl, hm, hc⟩ := h
  go_enter Tryz.func36, Tryz.ntmps36
  go_wp2_with (at_make; refine wp_makeB _ rfl _ _ rfl _ _ n rfl rfl rfl rfl hn ?_; intro w1 hown1 hb1 hz1)
  go_loopw [4] (fun i wr => ∃ k : Nat, k ≤ n ∧ i = .int .i64 k ∧ Own wr w.heap.size w1.heap.size (.slice (some ⟨w.heap.size, 0, none⟩) n n) n (fun i => if i < k then f i else 0) ∧ Below w.heap.size w wr ∧ wr.heap.size = w1.heap.size) (fun i _ => n - (intOf i).toNat)
  case atStart => exact ⟨0, Nat.zero_le _, rfl, hown1, hb1, rfl⟩
  case round =>
    obtain ⟨k, hk, rfl, hown, hb, hz⟩ := hrel
    by_cases hlt : k < n
    · obtain ⟨b, off, rfl, hblt, hcell⟩ := hc (by omega)
      have hck : wr.cell? ⟨b, off + k, none⟩ = some (.int .u8 (f k)) := (hb.cell (p := ⟨b, off + k, none⟩) (by show b < w.heap.size; omega)).trans (hcell k hlt)
      have hco : wr.cell? ⟨w.heap.size, k, none⟩ = some (.int .u8 (0 : Nat)) := by
        have := hown.1.cellAt k (by omega)
        rw [this, cellsOf_get _ _ _ hlt, if_neg (Nat.lt_irrefl k)]
      have hfo : wr.frozen? ⟨w.heap.size, k, none⟩ = false := hown.1.frozenAt k
      have R : Own (wr.setCell ⟨w.heap.size, k, none⟩ (.int .u8 (f k))) w.heap.size w1.heap.size (.slice (some ⟨w.heap.size, 0, none⟩) n n) n (fun i => if i < k + 1 then f i else 0) :=
        hown.store k (f k) hlt (fun i _ => by by_cases e : i = k <;> simp [e] <;> by_cases e' : i < k <;> simp [e'] <;> omega)
      have R2 : Below w.heap.size w (wr.setCell ⟨w.heap.size, k, none⟩ (.int .u8 (f k))) := hb.setCell (Nat.le_refl _) _
      clear hown hb hc hcell
      go_wp2
      go_roundw
      case rel => exact ⟨k + 1, by omega, by go_num, R, R2, by simpa using hz⟩
      case measure => simp [intOf]; omega
    · have hkn : k = n := by omega
      subst hkn
      go_wp2
      go_ret
      exact ⟨_, rfl, (hown.congr (fun i hi => by simp [hi])).mono (by omega), hb⟩

set_option maxHeartbeats 400000 in
theorem eqByteS_same (v1 v2 : Value) (n : Nat) (f : Nat → Nat) (h1 h2 : Nat) (w : World) (r1 : Rd w h1 v1 n f) (r2 : Rd w h2 v2 n f) :
    Calls Tryz.prog 46 #[v1, v2] w fun e w' => e = .returned (.bool true) ∧ Below w.heap.size w w' := by
  obtain ⟨ao, cap, rfl, hm, hc⟩ := r1
  obtain ⟨ao2, cap2, rfl, _, hc2⟩ := r2
  unfold maxLen at hm
  go_enter Tryz.func46, Tryz.ntmps46
  go_wp2
  go_loopw [5] (fun i wr => ∃ k : Nat, k ≤ n ∧ i = .int .i64 k ∧ ∃ m, wr = w.drewN m) (fun i _ => n - (intOf i).toNat)
  case atStart => exact ⟨0, Nat.zero_le _, rfl, 0, rfl⟩
  case round =>
    obtain ⟨k, hk, rfl, m, rfl⟩ := hrel
    by_cases hlt : k < n
    · obtain ⟨b, off, rfl, hblt, hcell⟩ := hc (by omega)
      obtain ⟨b2, off2, rfl, hblt2, hcell2⟩ := hc2 (by omega)
      have hck : w.cell? ⟨b, off + k, none⟩ = some (.int .u8 (f k)) := hcell k hlt
      have hck2 : w.cell? ⟨b2, off2 + k, none⟩ = some (.int .u8 (f k)) := hcell2 k hlt
      clear hc hc2 hcell hcell2
      go_wp2
      go_quiet (fail)
      go_wp2
      go_roundw
      case rel => exact ⟨k + 1, by omega, by go_num, _, rfl⟩
      case measure => simp [intOf]; omega
    · have hkn : k = n := by omega
      subst hkn
      go_wp2
      go_ret
      exact ⟨rfl, below_drewN (Below.refl _ _) _⟩

/-- the marks from k on -/
def marks (k : Nat) : Nat → Nat := fun i => (k + i) % 256
theorem marks_val (j k : Nat) : ((marks j k : Nat) : Int) = ((j : Int) + (k : Int)) % 256 := by unfold marks; omega

set_option maxHeartbeats 400000 in
theorem markByteS_any (v : Value) (n : Nat) (f : Nat → Nat) (lo hi : Nat) (j : Nat) (hj : j ≤ 1000000000) (hn : n ≤ 1000000000) (w : World) (h : Own w lo hi v n f) :
    Calls Tryz.prog 50 #[v, .int .i64 j] w fun e w' => e = .returned (.int .i64 ((j + n : Nat) : Int)) ∧ Own w' lo hi v n (marks j) ∧ Out lo hi w w' := by
  by_cases h0 : n = 0
  · subst h0
    have hown := h.congr (g := marks j) (fun i hi => by omega)
    obtain ⟨ao, cap, rfl⟩ := h.slice
    clear h
    go_enter Tryz.func50, Tryz.ntmps50
    go_wp2
    go_loopw [1, 5] (fun x i wr => x = .int .i64 j ∧ i = .int .i64 0 ∧ wr = w) (fun _ _ _ => 0)
    case atStart => exact ⟨rfl, rfl, rfl⟩
    case round =>
      obtain ⟨rfl, rfl, rfl⟩ := hrel
      go_wp2
      go_ret
      exact ⟨ret_eq (by omega), hown, Out.refl _ _ _⟩
  · obtain ⟨g, cap, rfl, hlo, hhi, hgs, hcap⟩ := h.form h0
    go_enter Tryz.func50, Tryz.ntmps50
    go_wp2
    go_loopw [1, 5] (fun x i wr => ∃ k : Nat, k ≤ n ∧ i = .int .i64 k ∧ x = .int .i64 ((j + k : Nat) : Int) ∧ Own wr lo hi (.slice (some ⟨g, 0, none⟩) n cap) n (fun i => if i < k then marks j i else f i) ∧ Out lo hi w wr) (fun _ i _ => n - (intOf i).toNat)
    case atStart => exact ⟨0, Nat.zero_le _, rfl, rfl, h, Out.refl _ _ _⟩
    case round =>
      obtain ⟨k, hk, rfl, rfl, hown, hout⟩ := hrel
      by_cases hlt : k < n
      · have hco : ∃ u, wr.cell? ⟨g, k, none⟩ = some u := by
          have := hown.1.cellAt k (by omega)
          exact ⟨_, by rw [this, cellsOf_get _ _ _ hlt]⟩
        obtain ⟨u, hco⟩ := hco
        have hfo : wr.frozen? ⟨g, k, none⟩ = false := hown.1.frozenAt k
        have R : Own (wr.setCell ⟨g, k, none⟩ (.int .u8 (marks j k))) lo hi (.slice (some ⟨g, 0, none⟩) n cap) n (fun i => if i < k + 1 then marks j i else f i) :=
          hown.store k (marks j k) hlt (fun i _ => by by_cases e : i = k <;> simp [e] <;> by_cases e' : i < k <;> simp [e'] <;> omega)
        have R2 : Out lo hi w (wr.setCell ⟨g, k, none⟩ (.int .u8 (marks j k))) := hout.trans (out_store wr lo hi g k _ hlo hhi)
        clear hown hout h
        go_wp2
        go_roundw
        case rel => exact ⟨k + 1, by omega, by go_num, val_eq (by omega), by rw [← marks_val]; exact R, by rw [← marks_val]; exact R2⟩
        case measure => simp [intOf]; omega
      · have hkn : k = n := by omega
        subst hkn
        go_wp2
        go_ret
        exact ⟨rfl, hown.congr (fun i hi => by simp [hi]), hout⟩

set_option maxHeartbeats 400000 in
theorem heldByteS_any (v : Value) (n : Nat) (hi : Nat) (j : Nat) (hj : j ≤ 1000000000) (hn : n ≤ 1000000000) (w : World) (h : Rd w hi v n (marks j)) :
    Calls Tryz.prog 192 #[v, .int .i64 j] w fun e w' => e = .returned (.int .i64 ((j + n : Nat) : Int)) ∧ w' = w := by
  obtain ⟨ao, cap, rfl, hm, hc⟩ := h
  go_enter Tryz.func192, Tryz.ntmps192
  go_wp2
  go_loop [1, 5] (fun x i => ∃ k : Nat, k ≤ n ∧ i = .int .i64 k ∧ x = .int .i64 ((j + k : Nat) : Int)) (fun _ i => n - (intOf i).toNat)
  case atStart => exact ⟨0, Nat.zero_le _, rfl, rfl⟩
  case round =>
    obtain ⟨k, hk, rfl, rfl⟩ := hrel
    by_cases hlt : k < n
    · obtain ⟨b, off, rfl, hblt, hcell⟩ := hc (by omega)
      have hck : w.cell? ⟨b, off + k, none⟩ = some (.int .u8 (((j : Int) + (k : Int)) % 256)) := by rw [← marks_val]; exact hcell k hlt
      clear hc hcell
      go_wp2
      go_round
      case rel => exact ⟨k + 1, by omega, by go_num, val_eq (by omega)⟩
      case measure => simp [intOf]; omega
    · have hkn : k = n := by omega
      subst hkn
      go_wp2
      go_ret
      exact ⟨rfl, rfl⟩

end Go.Proofs.YthdknhjaohhfiaaGreat

namespace Go.Proofs.YthdknhjaohhfiaaGreat
open Go.RowKit F256

def valsOf (n : Nat) (e : Nat → Value) : List Value := (List.range n).map e
theorem valsOf_length (n : Nat) (e : Nat → Value) : (valsOf n e).length = n := by simp [valsOf]
theorem valsOf_get (n : Nat) (e : Nat → Value) (i : Nat) (h : i < n) : (valsOf n e)[i]? = some (e i) := by simp [valsOf, h]
theorem valsOf_eq {n : Nat} {e g : Nat → Value} (h : ∀ i, i < n → e i = g i) : valsOf n e = valsOf n g := by
  apply List.map_congr_left
  intro i hi
  rw [h i (List.mem_range.mp hi)]
theorem valsOf_set (n : Nat) (e g : Nat → Value) (k : Nat) (x : Value) (hk : k < n) (h : ∀ i, i < n → g i = if i = k then x else e i) : (valsOf n e).set k x = valsOf n g := by
  apply List.ext_getElem?
  intro i
  by_cases hi : i < n
  · rw [valsOf_get n g i hi, h i hi, List.getElem?_set]
    by_cases c : k = i
    · subst c; simp [valsOf_length, hk]
    · rw [if_neg c, if_neg (fun h => c h.symm), valsOf_get n e i hi]
  · rw [List.getElem?_eq_none (by rw [List.length_set, valsOf_length]; omega), List.getElem?_eq_none (by rw [valsOf_length]; omega)]
theorem valsOf_snoc (n : Nat) (e : Nat → Value) : valsOf n e ++ [e n] = valsOf (n + 1) e := by
  simp [valsOf, List.range_succ]
abbrev nilS : Value := .slice none 0 0
/-- what reads as R rows, n i bytes in the row i -/
def RdM (w : World) (hi : Nat) (v : Value) (R : Nat) (n : Nat → Nat) (f : Nat → Nat → Nat) : Prop :=
  ∃ (ao : Option Addr) (cap : Nat) (e : Nat → Value), v = .slice ao R cap ∧ R ≤ maxLen ∧ (R ≠ 0 → ∃ b off, ao = some ⟨b, off, none⟩ ∧ b < hi ∧ ∀ i, i < R → w.cell? ⟨b, off + i, none⟩ = some (e i)) ∧
    ∀ i, i < R → Rd w hi (e i) (n i) (f i)
/-- no two of these lie in one block, none in the block g -/
def Apart (g R : Nat) (e : Nat → Value) : Prop := (∀ i, i < R → (e i).ownBlock ≠ some g) ∧ ∀ i j, i < R → j < R → i ≠ j → ∀ k, (e i).ownBlock = some k → (e j).ownBlock ≠ some k
/-- the slice v, in block g, owns R rows: e i the i-th row's slice -/
structure OwnE (w : World) (lo hi : Nat) (v : Value) (R : Nat) (n : Nat → Nat) (f : Nat → Nat → Nat) (g cap : Nat) (e : Nat → Value) : Prop where
  val : v = .slice (some ⟨g, 0, none⟩) R cap
  low : lo ≤ g
  high : g < hi
  row : w.ownsRow lo 29 1 v R (valsOf R e)
  each : ∀ i, i < R → Own w lo hi (e i) (n i) (f i)
  apart : Apart g R e
def OwnM (w : World) (lo hi : Nat) (v : Value) (R : Nat) (n : Nat → Nat) (f : Nat → Nat → Nat) : Prop := ∃ g cap e, OwnE w lo hi v R n f g cap e

theorem RdM.below {w w' : World} {hi B : Nat} {v : Value} {R : Nat} {n : Nat → Nat} {f : Nat → Nat → Nat} (h : RdM w hi v R n f) (hb : Below B w w') (hB : hi ≤ B) : RdM w' hi v R n f := by
  obtain ⟨ao, cap, e, rfl, hm, hc, he⟩ := h
  refine ⟨ao, cap, e, rfl, hm, fun h0 => ?_, fun i hi => (he i hi).below hb hB⟩
  obtain ⟨b, off, rfl, hlt, hcell⟩ := hc h0
  exact ⟨b, off, rfl, hlt, fun i hi => (hb.cell (p := ⟨b, off + i, none⟩) (by show b < B; omega)).trans (hcell i hi)⟩
theorem RdM.chg {w w' : World} {hi lo' hi' : Nat} {v : Value} {R : Nat} {n : Nat → Nat} {f : Nat → Nat → Nat} (h : RdM w hi v R n f) (hb : Chg lo' hi' w w') (hB : hi ≤ lo') (hB2 : hi ≤ w.heap.size) : RdM w' hi v R n f := h.below (hb.below hB hB2) (Nat.le_refl _)
theorem row_kept {w w' : World} {lo : Nat} {t : TypeId} {v : Value} {R : Nat} {xs : List Value} (h : w.ownsRow lo t 1 v R xs) (hk : ∀ g, v.ownBlock = some g → w'.heap[g]? = w.heap[g]?) : w'.ownsRow lo t 1 v R xs := by
  refine ⟨h.1, ?_⟩
  rcases h.2 with hn | ⟨g, cap, cur, rfl, hbg, hgg, rest⟩
  · exact .inl hn
  · exact .inr ⟨g, cap, cur, rfl, hbg, (hk g rfl).trans hgg, rest⟩
theorem Own.kept {w w' : World} {lo hi : Nat} {v : Value} {n : Nat} {f : Nat → Nat} (h : Own w lo hi v n f) (hk : ∀ g, v.ownBlock = some g → w'.heap[g]? = w.heap[g]?) : Own w' lo hi v n f := ⟨row_kept h.1 hk, h.2⟩
theorem OwnE.below {w w' : World} {lo hi B : Nat} {v : Value} {R : Nat} {n : Nat → Nat} {f : Nat → Nat → Nat} {g cap : Nat} {e : Nat → Value} (h : OwnE w lo hi v R n f g cap e) (hb : Below B w w') (hB : hi ≤ B) : OwnE w' lo hi v R n f g cap e := by
  refine ⟨h.val, h.low, h.high, row_kept h.row fun k hk => hb.block k ?_, fun i hi => (h.each i hi).below hb hB, h.apart⟩
  rw [h.val] at hk
  simp [Value.ownBlock] at hk
  have := h.high
  omega
theorem OwnM.below {w w' : World} {lo hi B : Nat} {v : Value} {R : Nat} {n : Nat → Nat} {f : Nat → Nat → Nat} (h : OwnM w lo hi v R n f) (hb : Below B w w') (hB : hi ≤ B) : OwnM w' lo hi v R n f := by
  obtain ⟨g, cap, e, h⟩ := h
  exact ⟨g, cap, e, h.below hb hB⟩
theorem OwnM.chg {w w' : World} {lo hi lo' hi' : Nat} {v : Value} {R : Nat} {n : Nat → Nat} {f : Nat → Nat → Nat} (h : OwnM w lo hi v R n f) (hb : Chg lo' hi' w w') (hB : hi ≤ lo' ∨ hi' ≤ lo) : OwnM w' lo hi v R n f := by
  obtain ⟨g, cap, e, h⟩ := h
  refine ⟨g, cap, e, h.val, h.low, h.high, row_kept h.row fun k hk => ?_, fun i hi => (h.each i hi).chg hb hB, h.apart⟩
  have hlt := (h.row.lt k hk).2
  rw [h.val] at hk
  simp [Value.ownBlock] at hk
  have h1 := h.high
  have h2 := h.low
  exact hb.block k hlt (by omega)
theorem OwnE.cell {w : World} {lo hi : Nat} {v : Value} {R : Nat} {n : Nat → Nat} {f : Nat → Nat → Nat} {g cap : Nat} {e : Nat → Value} (h : OwnE w lo hi v R n f g cap e) (i : Nat) (hi : i < R) : w.cell? ⟨g, i, none⟩ = some (e i) := by
  have hr := h.row
  rw [h.val] at hr
  rw [hr.cellAt i (by omega), valsOf_get R e i hi]
theorem OwnE.rd {w : World} {lo hi : Nat} {v : Value} {R : Nat} {n : Nat → Nat} {f : Nat → Nat → Nat} {g cap : Nat} {e : Nat → Value} (h : OwnE w lo hi v R n f g cap e) : RdM w hi v R n f := by
  have hle : R ≤ maxLen := by
    rcases h.row.2 with ⟨h1, h2⟩ | ⟨g', cap', cur, h1, _, _, hnc, hcm, _⟩
    · rw [h2]; exact Nat.zero_le _
    · omega
  exact ⟨_, cap, e, h.val, hle, fun _ => ⟨g, 0, rfl, h.high, fun i hi => by rw [Nat.zero_add]; exact h.cell i hi⟩, fun i hi => (h.each i hi).rd⟩
theorem OwnM.rd {w : World} {lo hi : Nat} {v : Value} {R : Nat} {n : Nat → Nat} {f : Nat → Nat → Nat} (h : OwnM w lo hi v R n f) : RdM w hi v R n f := by
  obtain ⟨g, cap, e, h⟩ := h
  exact h.rd
theorem OwnM.alloc {w : World} {lo hi : Nat} {v : Value} {R : Nat} {n : Nat → Nat} {f : Nat → Nat → Nat} (h : OwnM w lo hi v R n f) (o : Obj) : OwnM (w.alloc o) lo hi v R n f := by
  obtain ⟨g, cap, e, h⟩ := h
  exact ⟨g, cap, e, h.val, h.low, h.high, h.row.alloc o, fun i hi => (h.each i hi).alloc o, h.apart⟩
theorem OwnM.weaken {w : World} {lo hi lo' hi' : Nat} {v : Value} {R : Nat} {n : Nat → Nat} {f : Nat → Nat → Nat} (h : OwnM w lo hi v R n f) (h1 : lo' ≤ lo) (h2 : hi ≤ hi') : OwnM w lo' hi' v R n f := by
  obtain ⟨g, cap, e, h⟩ := h
  have hr : w.ownsRow lo' 29 1 v R (valsOf R e) := by
    refine ⟨h.row.1, ?_⟩
    rcases h.row.2 with hn | ⟨g, cap, cur, hv, hbg, rest⟩
    · exact .inl hn
    · exact .inr ⟨g, cap, cur, hv, by omega, rest⟩
  exact ⟨g, cap, e, h.val, Nat.le_trans h1 h.low, Nat.lt_of_lt_of_le h.high h2, hr, fun i hi => (h.each i hi).weaken h1 h2, h.apart⟩
/-- the block that a slice owns, as a range -/
def tlo (v : Value) (lo : Nat) : Nat := match v.ownBlock with | some k => k | none => lo
def thi (v : Value) (lo : Nat) : Nat := match v.ownBlock with | some k => k + 1 | none => lo
theorem not_in_tight {v : Value} {lo k : Nat} (h : ∀ g, v.ownBlock = some g → k ≠ g) : k < tlo v lo ∨ thi v lo ≤ k := by
  cases hv : v.ownBlock with
  | none => simp [tlo, thi, hv]; omega
  | some g =>
    have := h g hv
    simp [tlo, thi, hv]
    omega
def sumN (n : Nat → Nat) : Nat → Nat
  | 0 => 0
  | k + 1 => sumN n k + n k
theorem sumN_mono (n : Nat → Nat) : ∀ {a b : Nat}, a ≤ b → sumN n a ≤ sumN n b
  | a, 0, h => by have : a = 0 := by omega
                  subst this; exact Nat.le_refl _
  | a, b + 1, h => by
    by_cases e : a = b + 1
    · subst e; exact Nat.le_refl _
    · have := sumN_mono n (show a ≤ b by omega)
      simp only [sumN]
      omega
end Go.Proofs.YthdknhjaohhfiaaGreat

namespace Go.Proofs.YthdknhjaohhfiaaGreat
open Go.ChangeShapes Go.WideShapes Go.ChangeAt Go.RowKit Go.Deep F256

end Go.Proofs.YthdknhjaohhfiaaGreat

namespace Go.Proofs.YthdknhjaohhfiaaGreat

/-- a Shape as a value -/
def shapeV (s : Nat → Int) : Value := .agg #[.int .i64 (s 0), .int .i64 (s 1), .int .i64 (s 2), .int .i64 (s 3), .int .i64 (s 4), .int .i64 (s 5), .int .i64 (s 6), .int .i64 (s 7), .int .i64 (s 8)]
end Go.Proofs.YthdknhjaohhfiaaGreat

namespace Go.Proofs.YthdknhjaohhfiaaGreat
open Go.ChangeShapes Go.WideShapes Go.ChangeAt Go.RowKit

end Go.Proofs.YthdknhjaohhfiaaGreat

namespace Go.Proofs.YthdknhjaohhfiaaGreat
open Go.ChangeShapes Go.WideShapes Go.ChangeAt Go.RowKit Go.Deep
set_option linter.unusedVariables false
theorem opensRec : Opens layRec 31 :=
  opens_as (A := layI.two (layI.two (layS.two (layI.two (layI.two (layI.two (layInts.two (layBytes.two layBytes)))))))) (fun p => ⟨p.1, p.2.1, p.2.2.1, p.2.2.2.1, p.2.2.2.2.1, p.2.2.2.2.2.1, p.2.2.2.2.2.2.1, p.2.2.2.2.2.2.2.1, p.2.2.2.2.2.2.2.2⟩) (fun _ => rfl)
    (opens_struct Tryz.underlying31 (show _ = 9 by kernel_rfl)
      (opens_more ⟨_, rfl, rfl, rfl⟩ (opensI Tryz.underlying2 (by kernel_rfl))
      (opens_more ⟨_, rfl, rfl, rfl⟩ (opensI Tryz.underlying2 (by kernel_rfl))
      (opens_more ⟨_, rfl, rfl, rfl⟩ (opensS Tryz.underlying9 (by kernel_rfl))
      (opens_more ⟨_, rfl, rfl, rfl⟩ (opensI Tryz.underlying2 (by kernel_rfl))
      (opens_more ⟨_, rfl, rfl, rfl⟩ (opensI Tryz.underlying2 (by kernel_rfl))
      (opens_more ⟨_, rfl, rfl, rfl⟩ (opensI Tryz.underlying2 (by kernel_rfl))
      (opens_more ⟨_, rfl, rfl, rfl⟩ (opensInts Tryz.underlying25 Tryz.underlying2 (by kernel_rfl) (by kernel_rfl))
      (opens_more ⟨_, rfl, rfl, rfl⟩ (opensBytes Tryz.underlying29 Tryz.underlying5 (by kernel_rfl) (by kernel_rfl))
      (opens_last ⟨_, rfl, rfl, rfl⟩ (opensBytes Tryz.underlying29 Tryz.underlying5 (by kernel_rfl) (by kernel_rfl)) rfl))))))))))
set_option maxRecDepth 20000 in
/-- a struct that came in -/
theorem struct_of_trod {α : Type} {A : Lay α} {fs : Array Field} {H : Type} {enc : TypeId × Value → H} {W : World} {r : Reach} {b0 : Nat} {v : Value} {d : DataW H} {ps : List MemPlace} {t : TypeId}
    (hO : Opens A t) (hu : Tryz.prog.underlying t = some (.struct fs)) (hval : Value.okWide Tryz.prog W r b0 t v) (h : DataW.Trod enc Tryz.prog W 0 (fun _ => true) true t v d ps) :
    ∃ cs a, v = .agg cs.toArray ∧ A.rd W W.heap.size a cs := by
  obtain ⟨cs, rfl, hsz⟩ := okWide_struct hu hval
  obtain ⟨fuel, hfu⟩ := h
  have hfu' : DataW.trod enc Tryz.prog W 0 (fun _ => true) true fuel t cs.toList = some (d, ps) := hfu
  obtain ⟨a, ha⟩ := hO.opens hfu'
  exact ⟨cs.toList, a, by simp, ha⟩
end Go.Proofs.YthdknhjaohhfiaaGreat

namespace Go.Proofs.YthdknhjaohhfiaaGreat
open Go.ChangeShapes Go.WideShapes Go.ChangeAt Go.RowKit Go.Deep
set_option linter.unusedVariables false
theorem opens_map {α β : Type} {A : Lay α} {B : Lay β} {t : TypeId} (h : Opens A t) (hs : A.sz = B.sz) (hi : ∃ b : β, True) (f : ∀ W hi a cs, A.rd W hi a cs → ∃ b, B.rd W hi b cs) : Opens B t :=
  ⟨h.size.trans hs, hi, fun h1 => by
    obtain ⟨a, ha⟩ := h.opens h1
    exact f _ _ _ _ ha⟩
/-- nine numbers as a shape -/
def nine (a0 a1 a2 a3 a4 a5 a6 a7 a8 : Int) : Nat → Int
  | 0 => a0 | 1 => a1 | 2 => a2 | 3 => a3 | 4 => a4 | 5 => a5 | 6 => a6 | 7 => a7 | 8 => a8 | _ => 0
theorem opensShape9 : Opens (layNums 9) 23 := by
  refine opens_map (A := layI.two (layI.two (layI.two (layI.two (layI.two (layI.two (layI.two (layI.two layI)))))))) ?_ rfl ⟨fun _ => 0, trivial⟩ ?_
  · exact opens_struct Tryz.underlying23 (show _ = 9 by kernel_rfl)
      (opens_more ⟨_, rfl, rfl, rfl⟩ (opensI Tryz.underlying2 (by kernel_rfl))
      (opens_more ⟨_, rfl, rfl, rfl⟩ (opensI Tryz.underlying2 (by kernel_rfl))
      (opens_more ⟨_, rfl, rfl, rfl⟩ (opensI Tryz.underlying2 (by kernel_rfl))
      (opens_more ⟨_, rfl, rfl, rfl⟩ (opensI Tryz.underlying2 (by kernel_rfl))
      (opens_more ⟨_, rfl, rfl, rfl⟩ (opensI Tryz.underlying2 (by kernel_rfl))
      (opens_more ⟨_, rfl, rfl, rfl⟩ (opensI Tryz.underlying2 (by kernel_rfl))
      (opens_more ⟨_, rfl, rfl, rfl⟩ (opensI Tryz.underlying2 (by kernel_rfl))
      (opens_more ⟨_, rfl, rfl, rfl⟩ (opensI Tryz.underlying2 (by kernel_rfl))
      (opens_last ⟨_, rfl, rfl, rfl⟩ (opensI Tryz.underlying2 (by kernel_rfl)) rfl)))))))))
  · intro W hi a cs h
    obtain ⟨a0, a1, a2, a3, a4, a5, a6, a7, a8⟩ := a
    obtain ⟨_, _, rfl, ⟨rfl, k0⟩, _, _, rfl, ⟨rfl, k1⟩, _, _, rfl, ⟨rfl, k2⟩, _, _, rfl, ⟨rfl, k3⟩, _, _, rfl, ⟨rfl, k4⟩, _, _, rfl, ⟨rfl, k5⟩, _, _, rfl, ⟨rfl, k6⟩, _, _, rfl, ⟨rfl, k7⟩, ⟨rfl, k8⟩⟩ := h
    refine ⟨nine a0 a1 a2 a3 a4 a5 a6 a7 a8, rfl, fun i => ?_⟩
    match i with
    | 0 => exact k0
    | 1 => exact k1
    | 2 => exact k2
    | 3 => exact k3
    | 4 => exact k4
    | 5 => exact k5
    | 6 => exact k6
    | 7 => exact k7
    | 8 => exact k8
    | n + 9 => exact ⟨show (-9223372036854775808 : Int) ≤ 0 by decide, show (0 : Int) ≤ 9223372036854775807 by decide⟩
theorem opensBlock : Opens layBlock 207 :=
  opens_as (A := layI.two layBytes) (fun p => ⟨p.1, p.2⟩) (fun _ => rfl)
    (opens_struct Tryz.underlying207 (show _ = 2 by kernel_rfl)
      (opens_more ⟨_, rfl, rfl, rfl⟩ (opensI Tryz.underlying2 (by kernel_rfl))
      (opens_last ⟨_, rfl, rfl, rfl⟩ (opensBytes Tryz.underlying29 Tryz.underlying5 (by kernel_rfl) (by kernel_rfl)) rfl)))
theorem opensDrive : Opens layDrive 156 :=
  opens_as (A := layB.two (layBlock.slice 108)) (fun p => ⟨p.1, p.2⟩) (fun _ => rfl)
    (opens_struct Tryz.underlying156 (show _ = 2 by kernel_rfl)
      (opens_more ⟨_, rfl, rfl, rfl⟩ (opensB Tryz.underlying4 (by kernel_rfl))
      (opens_last ⟨_, rfl, rfl, rfl⟩ (opens_slice (by decide) Tryz.underlying154 (by kernel_rfl) opensBlock) rfl)))
theorem opensTape : Opens layTape 95 :=
  opens_as (A := layB.two (layRec.slice 43)) (fun p => ⟨p.1, p.2⟩) (fun _ => rfl)
    (opens_struct Tryz.underlying95 (show _ = 2 by kernel_rfl)
      (opens_more ⟨_, rfl, rfl, rfl⟩ (opensB Tryz.underlying4 (by kernel_rfl))
      (opens_last ⟨_, rfl, rfl, rfl⟩ (opens_slice (by decide) Tryz.underlying93 (by kernel_rfl) opensRec) rfl)))
theorem opensWorld : Opens layWorld 28 :=
  opens_as (A := (layNums 9).two (((layDrive.slice 106).slice 103).two (layInts.two ((layTape.slice 112).two (layI.two (layI.two layB)))))) (fun p => ⟨p.1, p.2.1, p.2.2.1, p.2.2.2.1, p.2.2.2.2.1, p.2.2.2.2.2.1, p.2.2.2.2.2.2⟩) (fun _ => rfl)
    (opens_struct Tryz.underlying28 (show _ = 15 by kernel_rfl)
      (opens_more ⟨_, rfl, rfl, rfl⟩ opensShape9
      (opens_more ⟨_, rfl, rfl, rfl⟩ (opens_slice (by decide) Tryz.underlying24 (by kernel_rfl) (opens_slice (by decide) Tryz.underlying91 (by kernel_rfl) opensDrive))
      (opens_more ⟨_, rfl, rfl, rfl⟩ (opensInts Tryz.underlying25 Tryz.underlying2 (by kernel_rfl) (by kernel_rfl))
      (opens_more ⟨_, rfl, rfl, rfl⟩ (opens_slice (by decide) Tryz.underlying26 (by kernel_rfl) opensTape)
      (opens_more ⟨_, rfl, rfl, rfl⟩ (opensI Tryz.underlying2 (by kernel_rfl))
      (opens_more ⟨_, rfl, rfl, rfl⟩ (opensI Tryz.underlying2 (by kernel_rfl))
      (opens_last ⟨_, rfl, rfl, rfl⟩ (opensB Tryz.underlying4 (by kernel_rfl)) rfl))))))))
end Go.Proofs.YthdknhjaohhfiaaGreat

namespace Go.Proofs.YthdknhjaohhfiaaGreat
open Go.RowKit
set_option linter.unusedVariables false

theorem catN_made (zs : List Value) (hz : 0 < zs.length) (n : Nat) : (madeCells zs.toArray (n * zs.length)).toList = catN n (fun _ => zs) := by
  have hl : ∀ i, i < n → ((fun _ => zs : Nat → List Value) i).length = zs.length := fun _ _ => rfl
  apply List.ext_getElem?
  intro i
  by_cases hi : i < n * zs.length
  · have e : i / zs.length * zs.length + i % zs.length = i := by rw [Nat.mul_comm]; exact Nat.div_add_mod i zs.length
    have hq : i / zs.length < n := (Nat.div_lt_iff_lt_mul hz).2 hi
    have hr := Nat.mod_lt i hz
    have g1 := catN_get hl hq hr
    rw [e] at g1
    rw [g1]
    simp only [madeCells, Array.toList_map, Array.toList_range, List.getElem?_map, List.getElem?_range hi, Option.map_some]
    simp [hr]
  · rw [List.getElem?_eq_none (by simp [size_madeCells]; omega), List.getElem?_eq_none (by rw [catN_len hl]; omega)]

/-- make([]E, n): no element is laid yet -/
theorem wp_makeT {α : Type} (E : Lay α) (zs : List Value) (T e : TypeId) (by_ : Nat) (hs : 0 < E.sz) (hzs : zs.length = E.sz) (hu : Tryz.prog.underlying T = some (.slice e)) (hi : (Tryz.prog.info? e).map (fun i => (i.zero.map (·.cells), i.size, i.bytes)) = some (some zs.toArray, E.sz, by_))
    (x : Nat → α) (Ls : Nat → List Nat) (w : World) {ops : Array Oper} {rest : List Oper} {o : Oper} {a : Act} {Q : Exit → Act → World → Prop}
    (hg : o.guard = none) (l c : Operand) (hop : o.op = Op.makeSlice T l c) (L C : Int) (n : Nat) (hl : a.eval l = .int .i64 L) (hc : a.eval c = .int .i64 C) (hL : L = (n : Int)) (hC : C = (n : Int)) (hn : by_ * n ≤ 281474976710656) (hm : n ≤ maxLen)
    (hK : ∀ w', SlP E e w' w.heap.size w.heap.size n n 0 x (fun _ => zs) Ls → Below w.heap.size w w' → wpList Tryz.prog ops Q rest (a.put o.dst (.slice (some ⟨w.heap.size, 0, none⟩) n n)) w') :
    wpList Tryz.prog ops Q (o :: rest) a w := by
  obtain ⟨i0, hi0⟩ : ∃ i0, Tryz.prog.info? e = some i0 := by
    cases h : Tryz.prog.info? e with
    | none => rw [h] at hi; cases hi
    | some i0 => exact ⟨i0, rfl⟩
  rw [hi0] at hi
  simp only [Option.map_some, Option.some.injEq, Prod.mk.injEq] at hi
  obtain ⟨h1, h2, h3⟩ := hi
  obtain ⟨z, hz, hzc⟩ : ∃ z, i0.zero = some z ∧ z.cells = zs.toArray := by
    cases h : i0.zero with
    | none => rw [h] at h1; cases h1
    | some z => rw [h] at h1; exact ⟨z, rfl, by simpa using h1⟩
  refine wpList_make_full w hg l c T hop w.heap.size e i0 z E.sz hu hi0 hz h2 .i64 .i64 L C n hl hc hL hC (by rw [h3]; exact hn) hm (Nat.le_refl _) ?_
  intro w' hown hgrow
  rw [hzc, ← hzs, catN_made zs (by omega)] at hown
  rw [hzs] at hown
  exact hK w' ⟨hown, fun _ _ => hzs, fun i hi => by omega, by simp [catN_zero], fun b hb => by rw [catN_zero] at hb; cases hb⟩ (below_of_grown hgrow)
end Go.Proofs.YthdknhjaohhfiaaGreat

namespace Go.Proofs.YthdknhjaohhfiaaGreat
open Go.RowKit
set_option linter.unusedVariables false

/-- a slice that is gathered: its elements laid open, its blocks no two alike, from lo on -/
structure SlG {α : Type} (E : Lay α) (t : TypeId) (w : World) (lo : Nat) (v : Value) (n : Nat) (x : Nat → α) (ce : Nat → List Value) (Ls : Nat → List Nat) : Prop where
  row : w.ownsRow lo t E.sz v n (catN n ce)
  each : ∀ i, i < n → E.own w (x i) (ce i) (Ls i)
  nd : (v.ownBlock.toList ++ catN n Ls).Nodup
  low : ∀ b, b ∈ catN n Ls → lo ≤ b
section
variable {α : Type} {E : Lay α} {t : TypeId} {w w' : World} {lo n : Nat} {v : Value} {x : Nat → α} {ce : Nat → List Value} {Ls : Nat → List Nat}
theorem SlG.nil (x : Nat → α) (w : World) (lo : Nat) : SlG E t w lo (.slice none 0 0) 0 x (fun _ => []) (fun _ => []) := ⟨World.ownsRow_nil w lo t E.sz, fun i hi => by omega, by simp [Value.ownBlock, catN_zero], fun b hb => by rw [catN_zero] at hb; cases hb⟩
theorem SlG.mem_lt (h : SlG E t w lo v n x ce Ls) : ∀ b, b ∈ v.ownBlock.toList ++ catN n Ls → b < w.heap.size := fun b hb => by
  rcases List.mem_append.1 hb with h1 | h1
  · exact (h.row.lt b (by simpa using h1)).2
  · obtain ⟨i, hi, hbi⟩ := mem_catN.1 h1
    exact E.own_lt (h.each i hi) b hbi
theorem SlG.kept (h : SlG E t w lo v n x ce Ls) (hk : ∀ b, b ∈ v.ownBlock.toList ++ catN n Ls → w'.heap[b]? = w.heap[b]?) : SlG E t w' lo v n x ce Ls := by
  refine ⟨⟨h.row.1, ?_⟩, fun i hi => E.own_kept (h.each i hi) (fun b hb => hk b (List.mem_append_right _ (mem_catN.2 ⟨i, hi, hb⟩))), h.nd, h.low⟩
  rcases h.row.2 with hn | ⟨g, cap, cur, rfl, hbg, hgg, rest⟩
  · exact .inl hn
  · exact .inr ⟨g, cap, cur, rfl, hbg, (hk g (by simp [Value.ownBlock])).trans hgg, rest⟩
theorem SlG.below (h : SlG E t w lo v n x ce Ls) (hb : Below w.heap.size w w') : SlG E t w' lo v n x ce Ls := h.kept (fun b hb' => hb.block b (h.mem_lt b hb'))
theorem SlG.own (h : SlG E t w lo v n x ce Ls) : OwnT (E.slice t) w lo w.heap.size (n, x) [v] := by
  refine ⟨v.ownBlock.toList ++ catN n Ls, ⟨v, ce, Ls, rfl, rfl, ⟨h.row.1, ?_⟩, h.each⟩, h.nd, fun b hb => ⟨?_, h.mem_lt b hb⟩⟩
  · rcases h.row.2 with hn | ⟨g, cap, cur, rfl, hbg, rest⟩
    · exact .inl hn
    · exact .inr ⟨g, cap, cur, rfl, Nat.zero_le _, rest⟩
  · rcases List.mem_append.1 hb with h1 | h1
    · exact (h.row.lt b (by simpa using h1)).1
    · exact h.low b h1
/-- behind an append of the element a, whose blocks K are no others' -/
theorem SlG.grown (h : SlG E t w lo v n x ce Ls) {a : α} {cs : List Value} {K : List Nat} (ha : E.own w a cs K) (hnd : K.Nodup) (hK : ∀ b, b ∈ K → lo ≤ b ∧ b ∉ v.ownBlock.toList ++ catN n Ls) {v' : Value}
    (hr : w'.ownsRow lo t E.sz v' (n + 1) (catN n ce ++ cs)) (hg : w.grownBy w' v.ownBlock) (h5 : v'.ownBlock = v.ownBlock ∨ v'.ownBlock = some w.heap.size) :
    SlG E t w' lo v' (n + 1) (upd x n a) (upd ce n cs) (upd Ls n K) := by
  have eL : catN (n + 1) (upd Ls n K) = catN n Ls ++ K := by
    rw [catN_succ, upd_at, catN_congr (g := Ls) (fun i hi => upd_ne Ls K (by omega))]
  have eC : catN (n + 1) (upd ce n cs) = catN n ce ++ cs := by
    rw [catN_succ, upd_at, catN_congr (g := ce) (fun i hi => upd_ne ce cs (by omega))]
  have nd1 := List.nodup_append.1 h.nd
  have hall : ∀ b, b ∈ catN n Ls ++ K → b < w.heap.size ∧ some b ≠ v.ownBlock := fun b hb => by
    rcases List.mem_append.1 hb with h1 | h1
    · exact ⟨h.mem_lt b (List.mem_append_right _ h1), fun hh => nd1.2.2 b (by rw [← hh]; simp) b h1 rfl⟩
    · exact ⟨E.own_lt ha b h1, fun hh => (hK b h1).2 (List.mem_append_left _ (by rw [← hh]; simp))⟩
  refine ⟨by rw [eC]; exact hr, fun i hi => ?_, ?_, ?_⟩
  · by_cases c : i = n
    · subst c
      rw [upd_at, upd_at, upd_at]
      exact E.own_kept ha (fun b hb => by
        have := hall b (List.mem_append_right _ hb)
        exact hg.block b this.1 this.2)
    · rw [upd_ne x a c, upd_ne ce cs c, upd_ne Ls K c]
      exact E.own_kept (h.each i (by omega)) (fun b hb => by
        have := hall b (List.mem_append_left _ (mem_catN.2 ⟨i, by omega, hb⟩))
        exact hg.block b this.1 this.2)
  · rw [eL]
    refine List.nodup_append.2 ⟨?_, List.nodup_append.2 ⟨nd1.2.1, hnd, fun b hb c hc hh => ?_⟩, fun b hb c hc hh => ?_⟩
    · cases hv : v'.ownBlock with
      | none => simp
      | some g => simp
    · subst hh
      exact (hK b hc).2 (List.mem_append_right _ hb)
    · subst hh
      have h3 := hall b hc
      have h4 : v'.ownBlock = some b := by simpa using hb
      rcases h5 with h5 | h5
      · exact h3.2 (by rw [← h5, h4])
      · rw [h5] at h4
        simp at h4
        omega
  · rw [eL]
    intro b hb
    rcases List.mem_append.1 hb with h1 | h1
    · exact h.low b h1
    · exact (hK b h1).1
end
theorem add_o (b j : Nat) : (⟨b, 0, none⟩ : Addr).add j = ⟨b, j, none⟩ := by unfold Addr.add; split <;> simp_all
end Go.Proofs.YthdknhjaohhfiaaGreat

namespace Go.Proofs.YthdknhjaohhfiaaGreat
open Go.RowKit F256
set_option linter.unusedVariables false
set_option linter.unusedSimpArgs false

/-- the marks from k on -/
def marksI (k : Nat) : Nat → Int := fun i => (k : Int) + (i : Int)
theorem marksI_val (j k : Nat) : marksI j k = (j : Int) + (k : Int) := rfl

set_option maxHeartbeats 400000 in
theorem toInt64S_any (v : Value) (n : Nat) (f : Nat → Int) (hi : Nat) (w : World) (h : RdI w hi v n f) (hhi : hi ≤ w.heap.size) (hn : n ≤ 1000000000) :
    Calls Tryz.prog 34 #[v] w fun e w' => ∃ v', e = .returned v' ∧ OwnI w' w.heap.size w'.heap.size v' n f ∧ Below w.heap.size w w' := by
  obtain ⟨ao, cap, rfl, hm, hc⟩ := h
  go_enter Tryz.func34, Tryz.ntmps34
  go_wp2_with (at_make; refine wp_makeI _ rfl _ _ rfl _ _ n rfl rfl rfl rfl hn ?_; intro w1 hown1 hb1 hz1)
  go_loopw [4] (fun i wr => ∃ k : Nat, k ≤ n ∧ i = .int .i64 k ∧ OwnI wr w.heap.size w1.heap.size (.slice (some ⟨w.heap.size, 0, none⟩) n n) n (fun i => if i < k then f i else 0) ∧ Below w.heap.size w wr ∧ wr.heap.size = w1.heap.size) (fun i _ => n - (intOf i).toNat)
  case atStart => exact ⟨0, Nat.zero_le _, rfl, hown1, hb1, rfl⟩
  case round =>
    obtain ⟨k, hk, rfl, hown, hb, hz⟩ := hrel
    by_cases hlt : k < n
    · obtain ⟨b, off, rfl, hblt, hcell⟩ := hc (by omega)
      have hck : wr.cell? ⟨b, off + k, none⟩ = some (.int .i64 (f k)) := (hb.cell (p := ⟨b, off + k, none⟩) (by show b < w.heap.size; omega)).trans (hcell k hlt)
      have hco : wr.cell? ⟨w.heap.size, k, none⟩ = some (.int .i64 0) := by
        have := hown.1.cellAt k (by omega)
        rw [this, intsOf_get _ _ _ hlt, if_neg (Nat.lt_irrefl k)]
      have hfo : wr.frozen? ⟨w.heap.size, k, none⟩ = false := hown.1.frozenAt k
      have R : OwnI (wr.setCell ⟨w.heap.size, k, none⟩ (.int .i64 (f k))) w.heap.size w1.heap.size (.slice (some ⟨w.heap.size, 0, none⟩) n n) n (fun i => if i < k + 1 then f i else 0) :=
        hown.store k (f k) hlt (fun i _ => by by_cases e : i = k <;> simp [e] <;> by_cases e' : i < k <;> simp [e'] <;> omega)
      have R2 : Below w.heap.size w (wr.setCell ⟨w.heap.size, k, none⟩ (.int .i64 (f k))) := hb.setCell (Nat.le_refl _) _
      clear hown hb hc hcell
      go_wp2
      go_roundw
      case rel => exact ⟨k + 1, by omega, by go_num, R, R2, by simpa using hz⟩
      case measure => simp [intOf]; omega
    · have hkn : k = n := by omega
      subst hkn
      go_wp2
      go_ret
      exact ⟨_, rfl, (hown.congr (fun i hi => by simp [hi])).mono (by omega), hb⟩

set_option maxHeartbeats 400000 in
theorem eqInt64S_same (v1 v2 : Value) (n : Nat) (f : Nat → Int) (h1 h2 : Nat) (w : World) (r1 : RdI w h1 v1 n f) (r2 : RdI w h2 v2 n f) :
    Calls Tryz.prog 44 #[v1, v2] w fun e w' => e = .returned (.bool true) ∧ Below w.heap.size w w' := by
  obtain ⟨ao, cap, rfl, hm, hc⟩ := r1
  obtain ⟨ao2, cap2, rfl, _, hc2⟩ := r2
  unfold maxLen at hm
  go_enter Tryz.func44, Tryz.ntmps44
  go_wp2
  go_loopw [5] (fun i wr => ∃ k : Nat, k ≤ n ∧ i = .int .i64 k ∧ ∃ m, wr = w.drewN m) (fun i _ => n - (intOf i).toNat)
  case atStart => exact ⟨0, Nat.zero_le _, rfl, 0, rfl⟩
  case round =>
    obtain ⟨k, hk, rfl, m, rfl⟩ := hrel
    by_cases hlt : k < n
    · obtain ⟨b, off, rfl, hblt, hcell⟩ := hc (by omega)
      obtain ⟨b2, off2, rfl, hblt2, hcell2⟩ := hc2 (by omega)
      have hck : w.cell? ⟨b, off + k, none⟩ = some (.int .i64 (f k)) := hcell k hlt
      have hck2 : w.cell? ⟨b2, off2 + k, none⟩ = some (.int .i64 (f k)) := hcell2 k hlt
      clear hc hc2 hcell hcell2
      go_wp2
      go_quiet (fail)
      go_wp2
      go_roundw
      case rel => exact ⟨k + 1, by omega, by go_num, _, rfl⟩
      case measure => simp [intOf]; omega
    · have hkn : k = n := by omega
      subst hkn
      go_wp2
      go_ret
      exact ⟨rfl, below_drewN (Below.refl _ _) _⟩

set_option maxHeartbeats 400000 in
theorem markInt64S_any (v : Value) (n : Nat) (f : Nat → Int) (lo hi : Nat) (j : Nat) (hj : j ≤ 1000000000) (hn : n ≤ 1000000000) (w : World) (h : OwnI w lo hi v n f) :
    Calls Tryz.prog 48 #[v, .int .i64 j] w fun e w' => e = .returned (.int .i64 ((j + n : Nat) : Int)) ∧ OwnI w' lo hi v n (marksI j) ∧ Out lo hi w w' := by
  by_cases h0 : n = 0
  · subst h0
    have hown := h.congr (g := marksI j) (fun i hi => by omega)
    obtain ⟨ao, cap, rfl⟩ := h.slice
    clear h
    go_enter Tryz.func48, Tryz.ntmps48
    go_wp2
    go_loopw [1, 5] (fun x i wr => x = .int .i64 j ∧ i = .int .i64 0 ∧ wr = w) (fun _ _ _ => 0)
    case atStart => exact ⟨rfl, rfl, rfl⟩
    case round =>
      obtain ⟨rfl, rfl, rfl⟩ := hrel
      go_wp2
      go_ret
      exact ⟨ret_eq (by omega), hown, Out.refl _ _ _⟩
  · obtain ⟨g, cap, rfl, hlo, hhi, hgs, hcap⟩ := h.form h0
    go_enter Tryz.func48, Tryz.ntmps48
    go_wp2
    go_loopw [1, 5] (fun x i wr => ∃ k : Nat, k ≤ n ∧ i = .int .i64 k ∧ x = .int .i64 ((j + k : Nat) : Int) ∧ OwnI wr lo hi (.slice (some ⟨g, 0, none⟩) n cap) n (fun i => if i < k then marksI j i else f i) ∧ Out lo hi w wr) (fun _ i _ => n - (intOf i).toNat)
    case atStart => exact ⟨0, Nat.zero_le _, rfl, rfl, h, Out.refl _ _ _⟩
    case round =>
      obtain ⟨k, hk, rfl, rfl, hown, hout⟩ := hrel
      by_cases hlt : k < n
      · have hco : ∃ u, wr.cell? ⟨g, k, none⟩ = some u := by
          have := hown.1.cellAt k (by omega)
          exact ⟨_, by rw [this, intsOf_get _ _ _ hlt]⟩
        obtain ⟨u, hco⟩ := hco
        have hfo : wr.frozen? ⟨g, k, none⟩ = false := hown.1.frozenAt k
        have R : OwnI (wr.setCell ⟨g, k, none⟩ (.int .i64 (marksI j k))) lo hi (.slice (some ⟨g, 0, none⟩) n cap) n (fun i => if i < k + 1 then marksI j i else f i) :=
          hown.store k (marksI j k) hlt (fun i _ => by by_cases e : i = k <;> simp [e] <;> by_cases e' : i < k <;> simp [e'] <;> omega)
        have R2 : Out lo hi w (wr.setCell ⟨g, k, none⟩ (.int .i64 (marksI j k))) := hout.trans (out_store wr lo hi g k _ hlo hhi)
        clear hown hout h
        go_wp2
        go_roundw
        case rel => exact ⟨k + 1, by omega, by go_num, val_eq (by omega), by rw [← marksI_val]; exact R, by rw [← marksI_val]; exact R2⟩
        case measure => simp [intOf]; omega
      · have hkn : k = n := by omega
        subst hkn
        go_wp2
        go_ret
        exact ⟨rfl, hown.congr (fun i hi => by simp [hi]), hout⟩

end Go.Proofs.YthdknhjaohhfiaaGreat

namespace Go.Proofs.YthdknhjaohhfiaaGreat
open Go.RowKit F256
set_option linter.unusedVariables false

/-- a copy of a value of one cell -/
def ToS {α : Type} (A : Lay α) (sz : α → Nat) (fn : Nat) : Prop := ∀ (v : Value) (d : α) (hi : Nat) (w : World), A.rd w hi d [v] → hi ≤ w.heap.size → sz d ≤ 1048576 →
  Calls Tryz.prog fn #[v] w fun e w' => ∃ v', e = .returned v' ∧ OwnT A w' w.heap.size w'.heap.size d [v'] ∧ Below w.heap.size w w'
/-- a copy of a struct -/
def ToV {α : Type} (A : Lay α) (sz : α → Nat) (fn : Nat) : Prop := ∀ (cs : List Value) (d : α) (hi : Nat) (w : World), A.rd w hi d cs → hi ≤ w.heap.size → sz d ≤ 1048576 →
  Calls Tryz.prog fn #[.agg cs.toArray] w fun e w' => ∃ cs', e = .returned (.agg cs'.toArray) ∧ OwnT A w' w.heap.size w'.heap.size d cs' ∧ Below w.heap.size w w'
/-- what is alike is told to be -/
def EqS {α : Type} (A : Lay α) (fn : Nat) : Prop := ∀ (v1 v2 : Value) (d : α) (h1 h2 : Nat) (w : World), A.rd w h1 d [v1] → A.rd w h2 d [v2] → h1 ≤ w.heap.size → h2 ≤ w.heap.size →
  Calls Tryz.prog fn #[v1, v2] w fun e w' => e = .returned (.bool true) ∧ Below w.heap.size w w'
def EqV {α : Type} (A : Lay α) (fn : Nat) : Prop := ∀ (c1 c2 : List Value) (d : α) (h1 h2 : Nat) (w : World), A.rd w h1 d c1 → A.rd w h2 d c2 → h1 ≤ w.heap.size → h2 ≤ w.heap.size →
  Calls Tryz.prog fn #[.agg c1.toArray, .agg c2.toArray] w fun e w' => e = .returned (.bool true) ∧ Below w.heap.size w w'
/-- marks from j on -/
def MkS {α : Type} (A : Lay α) (c : α → Nat) (mk : Nat → α → α) (fn : Nat) : Prop := ∀ (v : Value) (d : α) (L : List Nat) (j : Nat) (w : World), A.own w d [v] L → L.Nodup → j + c d ≤ 100000000 →
  Calls Tryz.prog fn #[v, .int .i64 j] w fun e w' => e = .returned (.int .i64 ((j + c d : Nat) : Int)) ∧ A.own w' (mk j d) [v] L ∧ ChgL L w w'
def MkV {α : Type} (A : Lay α) (c : α → Nat) (mk : Nat → α → α) (fn : Nat) : Prop := ∀ (cs : List Value) (d : α) (L : List Nat) (j : Nat) (w : World), A.own w d cs L → L.Nodup → j + c d ≤ 100000000 →
  Calls Tryz.prog fn #[.agg cs.toArray, .int .i64 j] w fun e w' => e = .returned (.int .i64 ((j + c d : Nat) : Int)) ∧ A.own w' (mk j d) cs L ∧ ChgL L w w'
/-- marks that are held -/
def HdS {α : Type} (A : Lay α) (c : α → Nat) (mk : Nat → α → α) (fn : Nat) : Prop := ∀ (v : Value) (d : α) (hi : Nat) (j : Nat) (w : World), A.rd w hi (mk j d) [v] → hi ≤ w.heap.size → j + c d ≤ 100000000 →
  Calls Tryz.prog fn #[v, .int .i64 j] w fun e w' => e = .returned (.int .i64 ((j + c d : Nat) : Int)) ∧ Below w.heap.size w w'
def HdV {α : Type} (A : Lay α) (c : α → Nat) (mk : Nat → α → α) (fn : Nat) : Prop := ∀ (cs : List Value) (d : α) (hi : Nat) (j : Nat) (w : World), A.rd w hi (mk j d) cs → hi ≤ w.heap.size → j + c d ≤ 100000000 →
  Calls Tryz.prog fn #[.agg cs.toArray, .int .i64 j] w fun e w' => e = .returned (.int .i64 ((j + c d : Nat) : Int)) ∧ Below w.heap.size w w'
/-- what the measure leaves -/
def SzP (n L : Nat) (x : Int) : Prop := x = -1 ∨ (n ≤ L ∧ x = (L : Int) - (n : Int))
def SzS {α : Type} (A : Lay α) (sz : α → Nat) (fn : Nat) : Prop := ∀ (v : Value) (d : α) (hi L : Nat) (w : World), A.rd w hi d [v] → hi ≤ w.heap.size → L ≤ 1048576 →
  Calls Tryz.prog fn #[v, .int .i64 L] w fun e w' => ∃ x, e = .returned (.int .i64 x) ∧ SzP (sz d) L x ∧ Below w.heap.size w w'
def SzV {α : Type} (A : Lay α) (sz : α → Nat) (fn : Nat) : Prop := ∀ (cs : List Value) (d : α) (hi L : Nat) (w : World), A.rd w hi d cs → hi ≤ w.heap.size → L ≤ 1048576 →
  Calls Tryz.prog fn #[.agg cs.toArray, .int .i64 L] w fun e w' => ∃ x, e = .returned (.int .i64 x) ∧ SzP (sz d) L x ∧ Below w.heap.size w w'

/-- of slices -/
def szSl {α : Type} (s : α → Nat) (p : Nat × (Nat → α)) : Nat := p.1 + sumN (fun i => s (p.2 i)) p.1
def cSl {α : Type} (c : α → Nat) (p : Nat × (Nat → α)) : Nat := sumN (fun i => c (p.2 i)) p.1
def mkSl {α : Type} (c : α → Nat) (mk : Nat → α → α) (j : Nat) (p : Nat × (Nat → α)) : Nat × (Nat → α) := (p.1, fun i => mk (j + sumN (fun i => c (p.2 i)) i) (p.2 i))
def lenD {α : Type} (p : Nat × (Nat → α)) : Nat := p.1
def mkBytes (j : Nat) (p : Nat × (Nat → Nat)) : Nat × (Nat → Nat) := (p.1, marks j)
def mkInts (j : Nat) (p : Nat × (Nat → Int)) : Nat × (Nat → Int) := (p.1, fun i => if i < p.1 then marksI j i else 0)

theorem sumN_succ (f : Nat → Nat) (k : Nat) : sumN f (k + 1) = sumN f k + f k := rfl
theorem sumN_le (f : Nat → Nat) {i n : Nat} (h : i < n) : f i ≤ sumN f n := by
  have := sumN_mono f (show i + 1 ≤ n from h)
  rw [sumN_succ] at this
  omega
theorem szSl_n {α : Type} {s : α → Nat} {p : Nat × (Nat → α)} {B : Nat} (h : szSl s p ≤ B) : p.1 ≤ B := by unfold szSl at h; omega
theorem szSl_at {α : Type} {s : α → Nat} {p : Nat × (Nat → α)} {B : Nat} (h : szSl s p ≤ B) {i : Nat} (hi : i < p.1) : s (p.2 i) ≤ B := by
  unfold szSl at h
  have := sumN_le (fun i => s (p.2 i)) hi
  omega

/-- bytes and numbers -/
theorem toBytes_is : ToS layBytes lenD 36 := fun v d hi w h hhi hn => by
  obtain ⟨v', e1, h1, h2⟩ := h
  cases e1
  refine (toByteS_any v d.1 d.2 hi w h1 hhi (by unfold lenD at hn; omega)).mono ?_
  rintro e w' ⟨v', rfl, o, b⟩
  refine ⟨v', rfl, ⟨v'.ownBlock.toList, ⟨v', rfl, rfl, o.weaken (Nat.zero_le _) (Nat.le_refl _), h2⟩, by cases v'.ownBlock <;> simp, fun b hb => o.1.lt b (by simpa using hb)⟩, b⟩
theorem eqBytes_is : EqS layBytes 46 := fun v1 v2 d h1 h2 w r1 r2 _ _ => by
  obtain ⟨_, e1, k1, _⟩ := r1
  obtain ⟨_, e2, k2, _⟩ := r2
  cases e1
  cases e2
  exact eqByteS_same v1 v2 d.1 d.2 h1 h2 w k1 k2
theorem toInts_is : ToS layInts lenD 34 := fun v d hi w h hhi hn => by
  obtain ⟨v', e1, h1, h2⟩ := h
  cases e1
  refine (toInt64S_any v d.1 d.2 hi w h1.1 hhi (by unfold lenD at hn; omega)).mono ?_
  rintro e w' ⟨v', rfl, o, b⟩
  refine ⟨v', rfl, ⟨v'.ownBlock.toList, ⟨v', rfl, rfl, o.weaken (Nat.zero_le _) (Nat.le_refl _), h2⟩, by cases v'.ownBlock <;> simp, fun b hb => o.1.lt b (by simpa using hb)⟩, b⟩
theorem eqInts_is : EqS layInts 44 := fun v1 v2 d h1 h2 w r1 r2 _ _ => by
  obtain ⟨_, e1, k1, _⟩ := r1
  obtain ⟨_, e2, k2, _⟩ := r2
  cases e1
  cases e2
  exact eqInt64S_same v1 v2 d.1 d.2 h1 h2 w k1.1 k2.1
/-- the one block of a slice -/
def oneBlk (v : Value) : Nat := v.ownBlock.getD 0
theorem ownBlk {w : World} {lo hi : Nat} {v : Value} {n : Nat} {f : Nat → Nat} (h : Own w lo hi v n f) : Own w (oneBlk v) (oneBlk v + 1) v n f := by
  refine ⟨⟨h.1.1, ?_⟩, fun k hk => by simp [oneBlk, hk]⟩
  rcases h.1.2 with hn | ⟨g, cap, cur, rfl, hbg, rest⟩
  · exact .inl hn
  · exact .inr ⟨g, cap, cur, rfl, by simp [oneBlk, Value.ownBlock], rest⟩
theorem ownBlkI {w : World} {lo hi : Nat} {v : Value} {n : Nat} {f : Nat → Int} (h : OwnI w lo hi v n f) : OwnI w (oneBlk v) (oneBlk v + 1) v n f := by
  refine ⟨⟨h.1.1, ?_⟩, fun k hk => by simp [oneBlk, hk]⟩
  rcases h.1.2 with hn | ⟨g, cap, cur, rfl, hbg, rest⟩
  · exact .inl hn
  · exact .inr ⟨g, cap, cur, rfl, by simp [oneBlk, Value.ownBlock], rest⟩
theorem ChgL.of_none {K : List Nat} {w w' : World} (h : Out 0 0 w w') : ChgL K w w' := ⟨h.os, h.tape, h.output, Nat.le_of_eq h.size.symm, fun b _ _ => h.block b (.inr (Nat.zero_le _))⟩
theorem marks_lt (j i : Nat) : marks j i < 256 := Nat.mod_lt _ (by decide)
theorem own_tight0 {w : World} {v : Value} {n : Nat} {f : Nat → Nat} {hi : Nat} (h : Own w 0 hi v n f) (hb : v.ownBlock = none) : Own w 0 0 v n f := ⟨h.1, fun k hk => by rw [hb] at hk; cases hk⟩
theorem markBytes_is : MkS layBytes lenD mkBytes 50 := fun v d L j w h nd hj => by
  obtain ⟨v', e1, rfl, o, k⟩ := h
  cases e1
  unfold lenD at hj
  cases hb : v.ownBlock with
  | none =>
    refine (markByteS_any v d.1 d.2 0 0 j (by omega) (by omega) w (own_tight0 o hb)).mono ?_
    rintro e w' ⟨rfl, o', out⟩
    exact ⟨rfl, ⟨v, rfl, by rw [hb], o'.weaken (Nat.le_refl _) (Nat.zero_le _), fun i => marks_lt j i⟩, ChgL.of_none out⟩
  | some g =>
    have e : oneBlk v = g := by simp [oneBlk, hb]
    have hg := (o.1.lt g hb).2
    have o2 := ownBlk o
    rw [e] at o2
    refine (markByteS_any v d.1 d.2 g (g + 1) j (by omega) (by omega) w o2).mono ?_
    rintro e w' ⟨rfl, o', out⟩
    exact ⟨rfl, ⟨v, rfl, by rw [hb], o'.weaken (Nat.zero_le _) (by rw [out.size]; exact hg), fun i => marks_lt j i⟩, ChgL.of_out out (by simp)⟩
theorem heldBytes_is : HdS layBytes lenD mkBytes 192 := fun v d hi j w h hhi hj => by
  obtain ⟨v', e1, o, k⟩ := h
  cases e1
  unfold lenD at hj
  refine (heldByteS_any v d.1 hi j (by omega) (by omega) w o).mono ?_
  rintro e w' ⟨rfl, rfl⟩
  exact ⟨rfl, Below.refl _ _⟩
theorem own_tight0I {w : World} {v : Value} {n : Nat} {f : Nat → Int} {hi : Nat} (h : OwnI w 0 hi v n f) (hb : v.ownBlock = none) : OwnI w 0 0 v n f := ⟨h.1, fun k hk => by rw [hb] at hk; cases hk⟩
theorem markInt64S_at (v : Value) (n : Nat) (f : Nat → Int) (lo hi : Nat) (j : Nat) (hj : j ≤ 1000000000) (hn : n ≤ 1000000000) (w : World) (h : OwnI w lo hi v n f) :
    Calls Tryz.prog 48 #[v, .int .i64 j] w fun e w' => e = .returned (.int .i64 ((j + n : Nat) : Int)) ∧ OwnI w' lo hi v n (fun i => if i < n then marksI j i else 0) ∧ Out lo hi w w' := by
  refine (markInt64S_any v n f lo hi j hj hn w h).mono ?_
  rintro e w' ⟨rfl, o', out⟩
  exact ⟨rfl, o'.congr (fun i hi => by rw [if_pos hi]), out⟩
theorem marksI_bd {j n : Nat} (h : j + n ≤ 100000000) (i : Nat) : -9223372036854775808 ≤ (if i < n then marksI j i else 0) ∧ (if i < n then marksI j i else 0) ≤ 9223372036854775807 := by
  by_cases c : i < n
  · rw [if_pos c, marksI_val]; omega
  · rw [if_neg c]; omega
theorem markInts_is : MkS layInts lenD mkInts 48 := fun v d L j w h nd hj => by
  obtain ⟨v', e1, rfl, o, k⟩ := h
  cases e1
  unfold lenD at hj
  cases hb : v.ownBlock with
  | none =>
    refine (markInt64S_at v d.1 d.2 0 0 j (by omega) (by omega) w (own_tight0I o hb)).mono ?_
    rintro e w' ⟨rfl, o', out⟩
    exact ⟨rfl, ⟨v, rfl, by rw [hb], o'.weaken (Nat.le_refl _) (Nat.zero_le _), marksI_bd hj⟩, ChgL.of_none out⟩
  | some g =>
    have e : oneBlk v = g := by simp [oneBlk, hb]
    have hg := (o.1.lt g hb).2
    have o2 := ownBlkI o
    rw [e] at o2
    refine (markInt64S_at v d.1 d.2 g (g + 1) j (by omega) (by omega) w o2).mono ?_
    rintro e w' ⟨rfl, o', out⟩
    exact ⟨rfl, ⟨v, rfl, by rw [hb], o'.weaken (Nat.zero_le _) (by rw [out.size]; exact hg), marksI_bd hj⟩, ChgL.of_out out (by simp)⟩
set_option maxHeartbeats 400000 in
theorem heldInts_is : HdS layInts lenD mkInts 100 := fun v d hi j w h hhi hj => by
  obtain ⟨v', e1, o, k⟩ := h
  cases e1
  unfold lenD at hj ⊢
  obtain ⟨n, f⟩ := d
  obtain ⟨ao, cap, rfl, hm, hc⟩ := o.1
  simp only [mkInts] at hm hc hj ⊢
  clear k hhi
  go_enter Tryz.func100, Tryz.ntmps100
  go_wp2
  go_loop [1, 5] (fun x i => ∃ k : Nat, k ≤ n ∧ i = .int .i64 k ∧ x = .int .i64 ((j + k : Nat) : Int)) (fun _ i => n - (intOf i).toNat)
  case atStart => exact ⟨0, Nat.zero_le _, rfl, rfl⟩
  case round =>
    obtain ⟨k, hk, rfl, rfl⟩ := hrel
    by_cases hlt : k < n
    · obtain ⟨b, off, rfl, hblt, hcell⟩ := hc (by omega)
      have hck : w.cell? ⟨b, off + k, none⟩ = some (.int .i64 ((j : Int) + (k : Int))) := by rw [← marksI_val, hcell k hlt, if_pos hlt]
      clear hc hcell
      go_wp2
      go_round
      case rel => exact ⟨k + 1, by omega, by go_num, val_eq (by omega)⟩
      case measure => simp [intOf]; omega
    · have hkn : k = n := by omega
      subst hkn
      go_wp2
      go_ret
      exact ⟨rfl, Below.refl _ _⟩
theorem szBytes_is : SzS layBytes lenD 26 := fun v d hi L w h hhi hL => by
  obtain ⟨v', e1, o, k⟩ := h
  cases e1
  unfold lenD
  obtain ⟨n, f⟩ := d
  obtain ⟨ao, cap, rfl, hm, hc⟩ := o
  simp only at hm hc ⊢
  unfold maxLen at hm
  clear hc k hhi
  by_cases c : n ≤ L
  · have c' : ¬ (L : Int) - (n : Int) < 0 := by omega
    go_enter Tryz.func26, Tryz.ntmps26
    go_wp2
    go_ret
    exact ⟨_, rfl, .inr ⟨c, rfl⟩, Below.refl _ _⟩
  · have c' : (L : Int) - (n : Int) < 0 := by omega
    go_enter Tryz.func26, Tryz.ntmps26
    go_wp2
    go_ret
    exact ⟨_, rfl, .inl rfl, Below.refl _ _⟩
theorem szInts_is : SzS layInts lenD 24 := fun v d hi L w h hhi hL => by
  obtain ⟨v', e1, o, k⟩ := h
  cases e1
  unfold lenD
  obtain ⟨n, f⟩ := d
  obtain ⟨ao, cap, rfl, hm, hc⟩ := o.1
  simp only at hm hc ⊢
  unfold maxLen at hm
  clear hc k hhi
  by_cases c : n ≤ L
  · have c' : ¬ (L : Int) - (n : Int) < 0 := by omega
    go_enter Tryz.func24, Tryz.ntmps24
    go_wp2
    go_ret
    exact ⟨_, rfl, .inr ⟨c, rfl⟩, Below.refl _ _⟩
  · have c' : (L : Int) - (n : Int) < 0 := by omega
    go_enter Tryz.func24, Tryz.ntmps24
    go_wp2
    go_ret
    exact ⟨_, rfl, .inl rfl, Below.refl _ _⟩
end Go.Proofs.YthdknhjaohhfiaaGreat
