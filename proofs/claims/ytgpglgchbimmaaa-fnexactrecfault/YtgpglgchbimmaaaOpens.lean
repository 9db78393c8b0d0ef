/- What came in, read as a value that holds slices. -/
import Derived.Test.YtgpglgchbimmaaaFrameB
import Derived.Test.YtgpglgchbimmaaaFrameI
import Derived.Test.YtgpglgchbimmaaaLay2
import Derived.Deep.Slices
namespace Go.Proofs.Ytgpglgchbimmaaa
open Go.ChangeShapes Go.WideShapes Go.ChangeAt Go.RowKit Go.Deep
set_option linter.unusedVariables false

/-- what came in of the type t can be read as A lays it -/
structure Opens {α : Type} (A : Lay α) (t : TypeId) : Prop where
  size : Try.prog.cellsOf t = A.sz
  inh : ∃ a : α, True
  opens : ∀ {H : Type} {enc : TypeId × Value → H} {W : World} {fuel : Nat} {cs : List Value} {x : DataW H × List MemPlace}, DataW.trod enc Try.prog W 0 (fun _ => true) true fuel t cs = some x → ∃ a, A.rd W W.heap.size a cs
theorem opensI {t : TypeId} (hu : Try.prog.underlying t = some (.int .i64)) (hc : Try.prog.cellsOf t = 1) : Opens layI t :=
  ⟨hc, ⟨0, trivial⟩, fun h => by
    obtain ⟨n, rfl, _, hw⟩ := DataW.trod_int hu h
    exact ⟨n, rfl, bounds_i64 hw⟩⟩
theorem opensB {t : TypeId} (hu : Try.prog.underlying t = some .bool) (hc : Try.prog.cellsOf t = 1) : Opens layB t :=
  ⟨hc, ⟨false, trivial⟩, fun h => by
    obtain ⟨b, rfl, _⟩ := DataW.trod_bool hu h
    exact ⟨b, rfl, trivial⟩⟩
theorem opensS {t : TypeId} (hu : Try.prog.underlying t = some .string) (hc : Try.prog.cellsOf t = 1) : Opens layS t :=
  ⟨hc, ⟨ByteArray.empty, trivial⟩, fun h => by
    obtain ⟨s, rfl, _, hm⟩ := DataW.trod_string hu h
    exact ⟨s, rfl, hm⟩⟩
theorem opens_slice {α : Type} {E : Lay α} {t e u : TypeId} (hs : 0 < E.sz) (hu : Try.prog.underlying t = some (.slice e)) (hc : Try.prog.cellsOf t = 1) (hE : Opens E e) : Opens (E.slice u) t := by
  obtain ⟨a0, _⟩ := hE.inh
  refine ⟨hc, ⟨(0, fun _ => a0), trivial⟩, fun {H enc W fuel cs x} h => ?_⟩
  rcases open_slice hu h with ⟨rfl, _⟩ | ⟨a, len, cap, m, n, D, Pl, rfl, _, hl, hm, hmm, _, hel⟩
  · exact ⟨(0, fun _ => a0), none, 0, rfl, Nat.zero_le _, fun h0 => absurd rfl h0⟩
  · have hlm : len ≤ m := by rw [hmm]; simp; exact hl
    have each : ∀ i, ∃ y : α, i < len → ∃ ce, E.rd W W.heap.size y ce ∧ W.cells? 0 (a.add (i * E.sz)) E.sz = some ce := fun i => by
      by_cases hi : i < len
      · obtain ⟨ce, h1, h2⟩ := hel i (by omega)
        obtain ⟨y, hy⟩ := hE.opens h2
        rw [hE.size] at h1
        exact ⟨y, fun _ => ⟨ce, hy, h1⟩⟩
      · exact ⟨a0, fun h => absurd h hi⟩
    refine ⟨(len, fun i => (each i).choose), some a, cap, rfl, by show len ≤ maxLen; omega, fun h0 => ?_⟩
    have h0' : 0 < len := Nat.pos_of_ne_zero h0
    obtain ⟨ce0, _, hc0⟩ := (each 0).choose_spec h0'
    obtain ⟨_, hl0, hcell0⟩ := World.cells?_some hc0
    have h00 := hcell0 0 hs
    rw [List.getElem?_eq_getElem (by omega)] at h00
    have hspot := World.cell?_spot h00
    have hblk := World.block_lt_of_cell? W _ h00
    obtain ⟨b, off, spot⟩ := a
    have hspot' : spot = none := by simpa [Addr.add] using hspot
    subst hspot'
    refine ⟨b, off, rfl, by simpa [Addr.add] using hblk, fun i hi => ?_⟩
    obtain ⟨ce, h1, h2⟩ := (each i).choose_spec hi
    obtain ⟨_, _, hcell⟩ := World.cells?_some h2
    refine ⟨ce, h1, fun j hj => ?_⟩
    have := hcell j hj
    rw [add_none, add_none, Nat.add_assoc] at this
    exact this
theorem opensBytes {t e : TypeId} (hu : Try.prog.underlying t = some (.slice e)) (he : Try.prog.underlying e = some (.int .u8)) (hc : Try.prog.cellsOf t = 1) (hc1 : Try.prog.cellsOf e = 1) : Opens layBytes t :=
  ⟨hc, ⟨(0, fun _ => 0), trivial⟩, fun {H enc W fuel cs x} h => by
    have hsl : ∃ a len cap, cs = [.slice a len cap] := by
      rcases open_slice hu h with ⟨rfl, _⟩ | ⟨a, len, cap, _, _, _, _, rfl, _⟩
      · exact ⟨_, _, _, rfl⟩
      · exact ⟨_, _, _, rfl⟩
    obtain ⟨a, len, cap, rfl⟩ := hsl
    obtain ⟨d, ps⟩ := x
    obtain ⟨zs, hz⟩ := row_of_trod (t := t) (a := a) (len := len) (cap := cap) hu he hc1 ⟨fuel, h⟩
    obtain ⟨f, kf, hr⟩ := hz.rd
    exact ⟨(len, f), _, rfl, hr, kf⟩⟩
theorem opensInts {t e : TypeId} (hu : Try.prog.underlying t = some (.slice e)) (he : Try.prog.underlying e = some (.int .i64)) (hc : Try.prog.cellsOf t = 1) (hc1 : Try.prog.cellsOf e = 1) : Opens layInts t :=
  ⟨hc, ⟨(0, fun _ => 0), trivial⟩, fun {H enc W fuel cs x} h => by
    have hsl : ∃ a len cap, cs = [.slice a len cap] ∧ len ≤ cap := by
      rcases open_slice hu h with ⟨rfl, _⟩ | ⟨a, len, cap, _, _, _, _, rfl, _, hl, _⟩
      · exact ⟨_, _, _, rfl, Nat.le_refl _⟩
      · exact ⟨_, _, _, rfl, hl⟩
    obtain ⟨a, len, cap, rfl, hl⟩ := hsl
    obtain ⟨d, ps⟩ := x
    obtain ⟨zs, hz⟩ := rowI_of_trod (t := t) (a := a) (len := len) (cap := cap) hu he hc1 ⟨fuel, h⟩
    obtain ⟨f, kf, hr⟩ := hz.rd
    exact ⟨(len, f), _, rfl, ⟨hr, _, _, rfl, hl⟩, kf⟩⟩
theorem opens_as {α β : Type} {A : Lay α} {t : TypeId} {to : β → α} (back : α → β) (hb : ∀ a, to (back a) = a) (h : Opens A t) : Opens (A.as to) t :=
  ⟨h.size, by obtain ⟨a, _⟩ := h.inh; exact ⟨back a, trivial⟩, fun h1 => by
    obtain ⟨a, ha⟩ := h.opens h1
    exact ⟨back a, by show A.rd _ _ (to (back a)) _; rw [hb]; exact ha⟩⟩

/-- the fields from the i-th on, from the cell o on, lie as A says -/
structure OpensFrom {α : Type} (A : Lay α) (fs : Array Field) (i o tot : Nat) : Prop where
  fits : o + A.sz = tot
  inh : ∃ a : α, True
  opens : ∀ {H : Type} {enc : TypeId × Value → H} {W : World} {n : Nat} {cs : List Value} {xs : List (DataW H × List MemPlace)}, cs.length = tot → xs.length = fs.size →
    (∀ (k : Nat) (f : Field), fs[k]? = some f → DataW.trod enc Try.prog W 0 (fun _ => true) true n f.type ((cs.drop f.offset).take (Try.prog.cellsOf f.type)) = xs[k]?) → ∃ a, A.rd W W.heap.size a (cs.drop o)
theorem opens_last {α : Type} {A : Lay α} {fs : Array Field} {i o tot : Nat} {t : TypeId} (hf : ∃ f, fs[i]? = some f ∧ f.type = t ∧ f.offset = o) (h : Opens A t) (ht : o + A.sz = tot) : OpensFrom A fs i o tot :=
  ⟨ht, h.inh, fun {H enc W n cs xs} hl hx hget => by
    obtain ⟨f, h1, h2, h3⟩ := hf
    have hg := hget i f h1
    have hi : i < xs.length := by rw [hx]; exact (Array.getElem?_eq_some_iff.1 h1).1
    rw [List.getElem?_eq_getElem hi, h2, h3, h.size] at hg
    obtain ⟨a, ha⟩ := h.opens hg
    rw [List.take_of_length_le (by rw [List.length_drop]; omega)] at ha
    exact ⟨a, ha⟩⟩
theorem opens_more {α β : Type} {A : Lay α} {B : Lay β} {fs : Array Field} {i o tot : Nat} {t : TypeId} (hf : ∃ f, fs[i]? = some f ∧ f.type = t ∧ f.offset = o) (h : Opens A t) (hB : OpensFrom B fs (i + 1) (o + A.sz) tot) : OpensFrom (A.two B) fs i o tot :=
  ⟨by show o + (A.sz + B.sz) = tot; have := hB.fits; omega, by obtain ⟨a, _⟩ := h.inh; obtain ⟨b, _⟩ := hB.inh; exact ⟨(a, b), trivial⟩, fun {H enc W n cs xs} hl hx hget => by
    obtain ⟨f, h1, h2, h3⟩ := hf
    have hg := hget i f h1
    have hi : i < xs.length := by rw [hx]; exact (Array.getElem?_eq_some_iff.1 h1).1
    rw [List.getElem?_eq_getElem hi, h2, h3, h.size] at hg
    obtain ⟨a, ha⟩ := h.opens hg
    obtain ⟨b, hb⟩ := hB.opens hl hx hget
    refine ⟨(a, b), _, _, ?_, ha, hb⟩
    rw [← List.drop_drop, List.take_append_drop]⟩
theorem opens_struct {α : Type} {A : Lay α} {t : TypeId} {fs : Array Field} (hu : Try.prog.underlying t = some (.struct fs)) (hc : Try.prog.cellsOf t = A.sz) (h : OpensFrom A fs 0 0 A.sz) : Opens A t :=
  ⟨hc, h.inh, fun {H enc W fuel cs x} h1 => by
    obtain ⟨xs, n, _, _, hl, hlen, hget⟩ := DataW.trod_struct hu h1
    obtain ⟨a, ha⟩ := h.opens (by rw [hl, hc]) hlen hget
    exact ⟨a, by simpa using ha⟩⟩
end Go.Proofs.Ytgpglgchbimmaaa
