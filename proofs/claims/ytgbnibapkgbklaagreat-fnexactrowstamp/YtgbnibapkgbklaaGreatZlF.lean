/- What the frames of all laws share: an integer that came in as a natural number, a slice of bytes that came in as a row of cells. -/
import Derived.Test.YtgbnibapkgbklaaGreatChecked
import Derived.WalkKit
import Derived.ProofKit
import Derived.OpenShut
import Derived.ChangeOld
import Derived.Below
import Derived.Test.YtgbnibapkgbklaaGreatZkO
import Derived.Deep.Matrix
import Derived.ChangeSame
import Derived.ChangeMaps5
import Derived.Deep.Slices
namespace Go.Proofs.YtgbnibapkgbklaaGreat
open Go.ChangeShapes Go.WideShapes Go.ChangeAt Go.RowKit

theorem frame_own : ownKnob Tryz.prog.godebug = none := by kernel_rfl
theorem frame_laid : laidOutB Tryz.prog = true := by kernel_rfl

/-- A slice of bytes that came in: nil; or a row of 'cap' cells, the numbers 'zs', of which the first 'len' are its elements. -/
def IsRow (w : World) (a : Option Addr) (len cap : Nat) (zs : List Int) : Prop :=
  (a = none ∧ len = 0 ∧ cap = 0 ∧ zs = []) ∨
  ∃ x, a = some x ∧ len ≤ cap ∧ cap ≤ maxLen ∧ zs.length = cap ∧ (∀ i, i < zs.length → w.cell? (x.add i) = some (.int .u8 (zs.getD i 0))) ∧ ∀ n ∈ zs, (Lit.int .u8 n).wf = true

theorem row_of_trod {t e : TypeId} {H : Type} {enc : TypeId × Value → H} {W : World} {a : Option Addr} {len cap : Nat} {d : DataW H} {ps : List MemPlace}
    (hu : Tryz.prog.underlying t = some (.slice e)) (he : Tryz.prog.underlying e = some (.int .u8)) (hc : Tryz.prog.cellsOf e = 1)
    (h : DataW.Trod enc Tryz.prog W 0 (fun _ => true) true t (.slice a len cap) d ps) : ∃ zs, IsRow W a len cap zs := by
  obtain ⟨fuel, hf⟩ := h
  rcases open_ints hu he hc hf with ⟨hcs, _⟩ | ⟨x, l, c, zs, hcs, _, hl, hm, hz, _, hcell, hwz⟩
  · simp [Value.cells] at hcs
    obtain ⟨rfl, rfl, rfl⟩ := hcs
    exact ⟨[], .inl ⟨rfl, rfl, rfl, rfl⟩⟩
  · simp [Value.cells] at hcs
    obtain ⟨rfl, rfl, rfl⟩ := hcs
    exact ⟨zs, .inr ⟨_, rfl, hl, hm, by simpa using hz, hcell, hwz⟩⟩
end Go.Proofs.YtgbnibapkgbklaaGreat

namespace Go.Proofs.YtgbnibapkgbklaaGreat
open Go.ChangeShapes Go.WideShapes Go.ChangeAt Go.RowKit F256

theorem add_none (b off j : Nat) : (⟨b, off, none⟩ : Addr).add j = ⟨b, off + j, none⟩ := by unfold Addr.add; split <;> simp_all

/-- what came in can be read -/
theorem IsRow.rd {w : World} {a : Option Addr} {len cap : Nat} {zs : List Int} (h : IsRow w a len cap zs) : ∃ f : Nat → Nat, (∀ i, f i < 256) ∧ Rd w w.heap.size (.slice a len cap) len f := by
  rcases h with ⟨rfl, rfl, rfl, rfl⟩ | ⟨x, rfl, hl, hm, hz, hcell, hwz⟩
  · exact ⟨fun _ => 0, fun _ => Nat.zero_lt_succ _, none, 0, rfl, Nat.zero_le _, fun h => absurd rfl h⟩
  · have hb : ∀ i, 0 ≤ zs.getD i 0 ∧ zs.getD i 0 ≤ 255 := fun i => by
      by_cases h : i < zs.length
      · have e : zs.getD i 0 = zs[i] := by simp [List.getD, h]
        rw [e]
        exact bounds_u8 (hwz _ (List.getElem_mem h))
      · have e : zs.getD i 0 = 0 := by simp [List.getD, h]
        rw [e]
        omega
    refine ⟨fun i => (zs.getD i 0).toNat, fun i => by have := hb i; show (zs.getD i 0).toNat < 256; omega, some x, cap, rfl, by omega, fun h0 => ?_⟩
    have h00 := hcell 0 (by omega)
    have hspot : (x.add 0).spot = none := World.cell?_spot h00
    obtain ⟨b, off, spot⟩ := x
    have hspot' : spot = none := by simpa [Addr.add] using hspot
    subst hspot'
    refine ⟨b, off, rfl, World.block_lt_of_cell? w _ h00, fun i hi => ?_⟩
    have hci := hcell i (by omega)
    have e : (((zs.getD i 0).toNat : Nat) : Int) = zs.getD i 0 := by have := hb i; omega
    rw [e, ← add_none]
    exact hci
end Go.Proofs.YtgbnibapkgbklaaGreat

namespace Go.Proofs.YtgbnibapkgbklaaGreat
open Go.ChangeShapes Go.WideShapes Go.ChangeAt Go.RowKit F256

/-- a slice of numbers that came in -/
def IsRowI (w : World) (a : Option Addr) (len cap : Nat) (zs : List Int) : Prop :=
  (a = none ∧ len = 0 ∧ cap = 0 ∧ zs = []) ∨
  ∃ x, a = some x ∧ len ≤ cap ∧ cap ≤ maxLen ∧ zs.length = cap ∧ (∀ i, i < zs.length → w.cell? (x.add i) = some (.int .i64 (zs.getD i 0))) ∧ ∀ n ∈ zs, (Lit.int .i64 n).wf = true
theorem rowI_of_trod {t e : TypeId} {H : Type} {enc : TypeId × Value → H} {W : World} {a : Option Addr} {len cap : Nat} {d : DataW H} {ps : List MemPlace}
    (hu : Tryz.prog.underlying t = some (.slice e)) (he : Tryz.prog.underlying e = some (.int .i64)) (hc : Tryz.prog.cellsOf e = 1)
    (h : DataW.Trod enc Tryz.prog W 0 (fun _ => true) true t (.slice a len cap) d ps) : ∃ zs, IsRowI W a len cap zs := by
  obtain ⟨fuel, hf⟩ := h
  rcases open_ints hu he hc hf with ⟨hcs, _⟩ | ⟨x, l, c, zs, hcs, _, hl, hm, hz, _, hcell, hwz⟩
  · simp [Value.cells] at hcs
    obtain ⟨rfl, rfl, rfl⟩ := hcs
    exact ⟨[], .inl ⟨rfl, rfl, rfl, rfl⟩⟩
  · simp [Value.cells] at hcs
    obtain ⟨rfl, rfl, rfl⟩ := hcs
    exact ⟨zs, .inr ⟨_, rfl, hl, hm, by simpa using hz, hcell, hwz⟩⟩
theorem IsRowI.rd {w : World} {a : Option Addr} {len cap : Nat} {zs : List Int} (h : IsRowI w a len cap zs) : ∃ f : Nat → Int, (∀ i, -9223372036854775808 ≤ f i ∧ f i ≤ 9223372036854775807) ∧ RdI w w.heap.size (.slice a len cap) len f := by
  rcases h with ⟨rfl, rfl, rfl, rfl⟩ | ⟨x, rfl, hl, hm, hz, hcell, hwz⟩
  · exact ⟨fun _ => 0, fun _ => (by show -9223372036854775808 ≤ (0 : Int) ∧ (0 : Int) ≤ 9223372036854775807; omega), none, 0, rfl, Nat.zero_le _, fun h => absurd rfl h⟩
  · have hb : ∀ i, -9223372036854775808 ≤ zs.getD i 0 ∧ zs.getD i 0 ≤ 9223372036854775807 := fun i => by
      by_cases h : i < zs.length
      · have e : zs.getD i 0 = zs[i] := by simp [List.getD, h]
        rw [e]
        exact bounds_i64 (hwz _ (List.getElem_mem h))
      · have e : zs.getD i 0 = 0 := by simp [List.getD, h]
        rw [e]
        omega
    refine ⟨fun i => zs.getD i 0, hb, some x, cap, rfl, by omega, fun h0 => ?_⟩
    have h00 := hcell 0 (by omega)
    have hspot : (x.add 0).spot = none := World.cell?_spot h00
    obtain ⟨b, off, spot⟩ := x
    have hspot' : spot = none := by simpa [Addr.add] using hspot
    subst hspot'
    refine ⟨b, off, rfl, World.block_lt_of_cell? w _ h00, fun i hi => ?_⟩
    have hci := hcell i (by omega)
    rw [← add_none]
    exact hci
end Go.Proofs.YtgbnibapkgbklaaGreat

namespace Go.Proofs.YtgbnibapkgbklaaGreat
open Go.ChangeShapes Go.WideShapes Go.ChangeAt Go.RowKit Go.Deep F256

end Go.Proofs.YtgbnibapkgbklaaGreat

namespace Go.Proofs.YtgbnibapkgbklaaGreat
open Go.ChangeShapes Go.WideShapes Go.ChangeAt Go.RowKit

end Go.Proofs.YtgbnibapkgbklaaGreat

namespace Go.Proofs.YtgbnibapkgbklaaGreat
open Go.ChangeShapes Go.WideShapes Go.ChangeAt Go.RowKit Go.Deep
set_option linter.unusedVariables false

/-- what came in of the type t can be read as A lays it -/
structure Opens {α : Type} (A : Lay α) (t : TypeId) : Prop where
  size : Tryz.prog.cellsOf t = A.sz
  inh : ∃ a : α, True
  opens : ∀ {H : Type} {enc : TypeId × Value → H} {W : World} {fuel : Nat} {cs : List Value} {x : DataW H × List MemPlace}, DataW.trod enc Tryz.prog W 0 (fun _ => true) true fuel t cs = some x → ∃ a, A.rd W W.heap.size a cs
theorem opensI {t : TypeId} (hu : Tryz.prog.underlying t = some (.int .i64)) (hc : Tryz.prog.cellsOf t = 1) : Opens layI t :=
  ⟨hc, ⟨0, trivial⟩, fun h => by
    obtain ⟨n, rfl, _, hw⟩ := DataW.trod_int hu h
    exact ⟨n, rfl, bounds_i64 hw⟩⟩
theorem opensB {t : TypeId} (hu : Tryz.prog.underlying t = some .bool) (hc : Tryz.prog.cellsOf t = 1) : Opens layB t :=
  ⟨hc, ⟨false, trivial⟩, fun h => by
    obtain ⟨b, rfl, _⟩ := DataW.trod_bool hu h
    exact ⟨b, rfl, trivial⟩⟩
theorem opensS {t : TypeId} (hu : Tryz.prog.underlying t = some .string) (hc : Tryz.prog.cellsOf t = 1) : Opens layS t :=
  ⟨hc, ⟨ByteArray.empty, trivial⟩, fun h => by
    obtain ⟨s, rfl, _, hm⟩ := DataW.trod_string hu h
    exact ⟨s, rfl, hm⟩⟩
theorem opens_slice {α : Type} {E : Lay α} {t e u : TypeId} (hs : 0 < E.sz) (hu : Tryz.prog.underlying t = some (.slice e)) (hc : Tryz.prog.cellsOf t = 1) (hE : Opens E e) : Opens (E.slice u) t := by
  obtain ⟨a0, _⟩ := hE.inh
  refine ⟨hc, ⟨(0, fun _ => a0), trivial⟩, fun {H enc W fuel cs x} h => ?_⟩
  rcases open_slice hu h with ⟨rfl, _⟩ | ⟨a, len, cap, m, n, D, Pl, rfl, _, hl, hm, hmm, _, hel⟩
  · exact ⟨(0, fun _ => a0), none, 0, rfl, Nat.zero_le _, fun h0 => absurd rfl h0⟩
  · have hlm : len ≤ m := by rw [hmm]; simp; exact hl
    have each : ∀ i, ∃ y : α, i < len → ∃ ce, E.rd W W.heap.size y ce ∧ W.cells? 0 (a.add (i * E.sz)) E.sz = some ce := fun i => by
      by_cases hi : i < len
      · obtain ⟨ce, h1, h2⟩ := hel i (by omega)
        obtain ⟨y, hy⟩ := hE.opens h2
        rw [hE.size] at h1
        exact ⟨y, fun _ => ⟨ce, hy, h1⟩⟩
      · exact ⟨a0, fun h => absurd h hi⟩
    refine ⟨(len, fun i => (each i).choose), some a, cap, rfl, by show len ≤ maxLen; omega, fun h0 => ?_⟩
    have h0' : 0 < len := Nat.pos_of_ne_zero h0
    obtain ⟨ce0, _, hc0⟩ := (each 0).choose_spec h0'
    obtain ⟨_, hl0, hcell0⟩ := World.cells?_some hc0
    have h00 := hcell0 0 hs
    rw [List.getElem?_eq_getElem (by omega)] at h00
    have hspot := World.cell?_spot h00
    have hblk := World.block_lt_of_cell? W _ h00
    obtain ⟨b, off, spot⟩ := a
    have hspot' : spot = none := by simpa [Addr.add] using hspot
    subst hspot'
    refine ⟨b, off, rfl, by simpa [Addr.add] using hblk, fun i hi => ?_⟩
    obtain ⟨ce, h1, h2⟩ := (each i).choose_spec hi
    obtain ⟨_, _, hcell⟩ := World.cells?_some h2
    refine ⟨ce, h1, fun j hj => ?_⟩
    have := hcell j hj
    rw [add_none, add_none, Nat.add_assoc] at this
    exact this
theorem opensBytes {t e : TypeId} (hu : Tryz.prog.underlying t = some (.slice e)) (he : Tryz.prog.underlying e = some (.int .u8)) (hc : Tryz.prog.cellsOf t = 1) (hc1 : Tryz.prog.cellsOf e = 1) : Opens layBytes t :=
  ⟨hc, ⟨(0, fun _ => 0), trivial⟩, fun {H enc W fuel cs x} h => by
    have hsl : ∃ a len cap, cs = [.slice a len cap] := by
      rcases open_slice hu h with ⟨rfl, _⟩ | ⟨a, len, cap, _, _, _, _, rfl, _⟩
      · exact ⟨_, _, _, rfl⟩
      · exact ⟨_, _, _, rfl⟩
    obtain ⟨a, len, cap, rfl⟩ := hsl
    obtain ⟨d, ps⟩ := x
    obtain ⟨zs, hz⟩ := row_of_trod (t := t) (a := a) (len := len) (cap := cap) hu he hc1 ⟨fuel, h⟩
    obtain ⟨f, kf, hr⟩ := hz.rd
    exact ⟨(len, f), _, rfl, hr, kf⟩⟩
theorem opensInts {t e : TypeId} (hu : Tryz.prog.underlying t = some (.slice e)) (he : Tryz.prog.underlying e = some (.int .i64)) (hc : Tryz.prog.cellsOf t = 1) (hc1 : Tryz.prog.cellsOf e = 1) : Opens layInts t :=
  ⟨hc, ⟨(0, fun _ => 0), trivial⟩, fun {H enc W fuel cs x} h => by
    have hsl : ∃ a len cap, cs = [.slice a len cap] ∧ len ≤ cap := by
      rcases open_slice hu h with ⟨rfl, _⟩ | ⟨a, len, cap, _, _, _, _, rfl, _, hl, _⟩
      · exact ⟨_, _, _, rfl, Nat.le_refl _⟩
      · exact ⟨_, _, _, rfl, hl⟩
    obtain ⟨a, len, cap, rfl, hl⟩ := hsl
    obtain ⟨d, ps⟩ := x
    obtain ⟨zs, hz⟩ := rowI_of_trod (t := t) (a := a) (len := len) (cap := cap) hu he hc1 ⟨fuel, h⟩
    obtain ⟨f, kf, hr⟩ := hz.rd
    exact ⟨(len, f), _, rfl, ⟨hr, _, _, rfl, hl⟩, kf⟩⟩
theorem opens_as {α β : Type} {A : Lay α} {t : TypeId} {to : β → α} (back : α → β) (hb : ∀ a, to (back a) = a) (h : Opens A t) : Opens (A.as to) t :=
  ⟨h.size, by obtain ⟨a, _⟩ := h.inh; exact ⟨back a, trivial⟩, fun h1 => by
    obtain ⟨a, ha⟩ := h.opens h1
    exact ⟨back a, by show A.rd _ _ (to (back a)) _; rw [hb]; exact ha⟩⟩

/-- the fields from the i-th on, from the cell o on, lie as A says -/
structure OpensFrom {α : Type} (A : Lay α) (fs : Array Field) (i o tot : Nat) : Prop where
  fits : o + A.sz = tot
  inh : ∃ a : α, True
  opens : ∀ {H : Type} {enc : TypeId × Value → H} {W : World} {n : Nat} {cs : List Value} {xs : List (DataW H × List MemPlace)}, cs.length = tot → xs.length = fs.size →
    (∀ (k : Nat) (f : Field), fs[k]? = some f → DataW.trod enc Tryz.prog W 0 (fun _ => true) true n f.type ((cs.drop f.offset).take (Tryz.prog.cellsOf f.type)) = xs[k]?) → ∃ a, A.rd W W.heap.size a (cs.drop o)
theorem opens_last {α : Type} {A : Lay α} {fs : Array Field} {i o tot : Nat} {t : TypeId} (hf : ∃ f, fs[i]? = some f ∧ f.type = t ∧ f.offset = o) (h : Opens A t) (ht : o + A.sz = tot) : OpensFrom A fs i o tot :=
  ⟨ht, h.inh, fun {H enc W n cs xs} hl hx hget => by
    obtain ⟨f, h1, h2, h3⟩ := hf
    have hg := hget i f h1
    have hi : i < xs.length := by rw [hx]; exact (Array.getElem?_eq_some_iff.1 h1).1
    rw [List.getElem?_eq_getElem hi, h2, h3, h.size] at hg
    obtain ⟨a, ha⟩ := h.opens hg
    rw [List.take_of_length_le (by rw [List.length_drop]; omega)] at ha
    exact ⟨a, ha⟩⟩
theorem opens_more {α β : Type} {A : Lay α} {B : Lay β} {fs : Array Field} {i o tot : Nat} {t : TypeId} (hf : ∃ f, fs[i]? = some f ∧ f.type = t ∧ f.offset = o) (h : Opens A t) (hB : OpensFrom B fs (i + 1) (o + A.sz) tot) : OpensFrom (A.two B) fs i o tot :=
  ⟨by show o + (A.sz + B.sz) = tot; have := hB.fits; omega, by obtain ⟨a, _⟩ := h.inh; obtain ⟨b, _⟩ := hB.inh; exact ⟨(a, b), trivial⟩, fun {H enc W n cs xs} hl hx hget => by
    obtain ⟨f, h1, h2, h3⟩ := hf
    have hg := hget i f h1
    have hi : i < xs.length := by rw [hx]; exact (Array.getElem?_eq_some_iff.1 h1).1
    rw [List.getElem?_eq_getElem hi, h2, h3, h.size] at hg
    obtain ⟨a, ha⟩ := h.opens hg
    obtain ⟨b, hb⟩ := hB.opens hl hx hget
    refine ⟨(a, b), _, _, ?_, ha, hb⟩
    rw [← List.drop_drop, List.take_append_drop]⟩
theorem opens_struct {α : Type} {A : Lay α} {t : TypeId} {fs : Array Field} (hu : Tryz.prog.underlying t = some (.struct fs)) (hc : Tryz.prog.cellsOf t = A.sz) (h : OpensFrom A fs 0 0 A.sz) : Opens A t :=
  ⟨hc, h.inh, fun {H enc W fuel cs x} h1 => by
    obtain ⟨xs, n, _, _, hl, hlen, hget⟩ := DataW.trod_struct hu h1
    obtain ⟨a, ha⟩ := h.opens (by rw [hl, hc]) hlen hget
    exact ⟨a, by simpa using ha⟩⟩
end Go.Proofs.YtgbnibapkgbklaaGreat

namespace Go.Proofs.YtgbnibapkgbklaaGreat
open Go.ChangeShapes Go.WideShapes Go.ChangeAt Go.RowKit Go.Deep
set_option linter.unusedVariables false
theorem opensRec : Opens layRec 126 :=
  opens_as (A := layI.two (layI.two (layS.two (layI.two (layI.two (layI.two (layInts.two (layBytes.two layBytes)))))))) (fun p => ⟨p.1, p.2.1, p.2.2.1, p.2.2.2.1, p.2.2.2.2.1, p.2.2.2.2.2.1, p.2.2.2.2.2.2.1, p.2.2.2.2.2.2.2.1, p.2.2.2.2.2.2.2.2⟩) (fun _ => rfl)
    (opens_struct Tryz.underlying126 (show _ = 9 by kernel_rfl)
      (opens_more ⟨_, rfl, rfl, rfl⟩ (opensI Tryz.underlying2 (by kernel_rfl))
      (opens_more ⟨_, rfl, rfl, rfl⟩ (opensI Tryz.underlying2 (by kernel_rfl))
      (opens_more ⟨_, rfl, rfl, rfl⟩ (opensS Tryz.underlying9 (by kernel_rfl))
      (opens_more ⟨_, rfl, rfl, rfl⟩ (opensI Tryz.underlying2 (by kernel_rfl))
      (opens_more ⟨_, rfl, rfl, rfl⟩ (opensI Tryz.underlying2 (by kernel_rfl))
      (opens_more ⟨_, rfl, rfl, rfl⟩ (opensI Tryz.underlying2 (by kernel_rfl))
      (opens_more ⟨_, rfl, rfl, rfl⟩ (opensInts Tryz.underlying25 Tryz.underlying2 (by kernel_rfl) (by kernel_rfl))
      (opens_more ⟨_, rfl, rfl, rfl⟩ (opensBytes Tryz.underlying81 Tryz.underlying5 (by kernel_rfl) (by kernel_rfl))
      (opens_last ⟨_, rfl, rfl, rfl⟩ (opensBytes Tryz.underlying81 Tryz.underlying5 (by kernel_rfl) (by kernel_rfl)) rfl))))))))))
set_option maxRecDepth 20000 in
/-- a struct that came in -/
theorem struct_of_trod {α : Type} {A : Lay α} {fs : Array Field} {H : Type} {enc : TypeId × Value → H} {W : World} {r : Reach} {b0 : Nat} {v : Value} {d : DataW H} {ps : List MemPlace} {t : TypeId}
    (hO : Opens A t) (hu : Tryz.prog.underlying t = some (.struct fs)) (hval : Value.okWide Tryz.prog W r b0 t v) (h : DataW.Trod enc Tryz.prog W 0 (fun _ => true) true t v d ps) :
    ∃ cs a, v = .agg cs.toArray ∧ A.rd W W.heap.size a cs := by
  obtain ⟨cs, rfl, hsz⟩ := okWide_struct hu hval
  obtain ⟨fuel, hfu⟩ := h
  have hfu' : DataW.trod enc Tryz.prog W 0 (fun _ => true) true fuel t cs.toList = some (d, ps) := hfu
  obtain ⟨a, ha⟩ := hO.opens hfu'
  exact ⟨cs.toList, a, by simp, ha⟩
end Go.Proofs.YtgbnibapkgbklaaGreat

namespace Go.Proofs.YtgbnibapkgbklaaGreat
open Go.ChangeShapes Go.WideShapes Go.ChangeAt Go.RowKit Go.Deep
set_option linter.unusedVariables false
theorem opens_map {α β : Type} {A : Lay α} {B : Lay β} {t : TypeId} (h : Opens A t) (hs : A.sz = B.sz) (hi : ∃ b : β, True) (f : ∀ W hi a cs, A.rd W hi a cs → ∃ b, B.rd W hi b cs) : Opens B t :=
  ⟨h.size.trans hs, hi, fun h1 => by
    obtain ⟨a, ha⟩ := h.opens h1
    exact f _ _ _ _ ha⟩
/-- nine numbers as a shape -/
def nine (a0 a1 a2 a3 a4 a5 a6 a7 a8 : Int) : Nat → Int
  | 0 => a0 | 1 => a1 | 2 => a2 | 3 => a3 | 4 => a4 | 5 => a5 | 6 => a6 | 7 => a7 | 8 => a8 | _ => 0
theorem opensShape9 : Opens (layNums 9) 23 := by
  refine opens_map (A := layI.two (layI.two (layI.two (layI.two (layI.two (layI.two (layI.two (layI.two layI)))))))) ?_ rfl ⟨fun _ => 0, trivial⟩ ?_
  · exact opens_struct Tryz.underlying23 (show _ = 9 by kernel_rfl)
      (opens_more ⟨_, rfl, rfl, rfl⟩ (opensI Tryz.underlying2 (by kernel_rfl))
      (opens_more ⟨_, rfl, rfl, rfl⟩ (opensI Tryz.underlying2 (by kernel_rfl))
      (opens_more ⟨_, rfl, rfl, rfl⟩ (opensI Tryz.underlying2 (by kernel_rfl))
      (opens_more ⟨_, rfl, rfl, rfl⟩ (opensI Tryz.underlying2 (by kernel_rfl))
      (opens_more ⟨_, rfl, rfl, rfl⟩ (opensI Tryz.underlying2 (by kernel_rfl))
      (opens_more ⟨_, rfl, rfl, rfl⟩ (opensI Tryz.underlying2 (by kernel_rfl))
      (opens_more ⟨_, rfl, rfl, rfl⟩ (opensI Tryz.underlying2 (by kernel_rfl))
      (opens_more ⟨_, rfl, rfl, rfl⟩ (opensI Tryz.underlying2 (by kernel_rfl))
      (opens_last ⟨_, rfl, rfl, rfl⟩ (opensI Tryz.underlying2 (by kernel_rfl)) rfl)))))))))
  · intro W hi a cs h
    obtain ⟨a0, a1, a2, a3, a4, a5, a6, a7, a8⟩ := a
    obtain ⟨_, _, rfl, ⟨rfl, k0⟩, _, _, rfl, ⟨rfl, k1⟩, _, _, rfl, ⟨rfl, k2⟩, _, _, rfl, ⟨rfl, k3⟩, _, _, rfl, ⟨rfl, k4⟩, _, _, rfl, ⟨rfl, k5⟩, _, _, rfl, ⟨rfl, k6⟩, _, _, rfl, ⟨rfl, k7⟩, ⟨rfl, k8⟩⟩ := h
    refine ⟨nine a0 a1 a2 a3 a4 a5 a6 a7 a8, rfl, fun i => ?_⟩
    match i with
    | 0 => exact k0
    | 1 => exact k1
    | 2 => exact k2
    | 3 => exact k3
    | 4 => exact k4
    | 5 => exact k5
    | 6 => exact k6
    | 7 => exact k7
    | 8 => exact k8
    | n + 9 => exact ⟨show (-9223372036854775808 : Int) ≤ 0 by decide, show (0 : Int) ≤ 9223372036854775807 by decide⟩
theorem opensBlock : Opens layBlock 135 :=
  opens_as (A := layI.two layBytes) (fun p => ⟨p.1, p.2⟩) (fun _ => rfl)
    (opens_struct Tryz.underlying135 (show _ = 2 by kernel_rfl)
      (opens_more ⟨_, rfl, rfl, rfl⟩ (opensI Tryz.underlying2 (by kernel_rfl))
      (opens_last ⟨_, rfl, rfl, rfl⟩ (opensBytes Tryz.underlying81 Tryz.underlying5 (by kernel_rfl) (by kernel_rfl)) rfl)))
theorem opensDrive : Opens layDrive 107 :=
  opens_as (A := layB.two (layBlock.slice 101)) (fun p => ⟨p.1, p.2⟩) (fun _ => rfl)
    (opens_struct Tryz.underlying107 (show _ = 2 by kernel_rfl)
      (opens_more ⟨_, rfl, rfl, rfl⟩ (opensB Tryz.underlying4 (by kernel_rfl))
      (opens_last ⟨_, rfl, rfl, rfl⟩ (opens_slice (by decide) Tryz.underlying105 (by kernel_rfl) opensBlock) rfl)))
theorem opensTape : Opens layTape 74 :=
  opens_as (A := layB.two (layRec.slice 83)) (fun p => ⟨p.1, p.2⟩) (fun _ => rfl)
    (opens_struct Tryz.underlying74 (show _ = 2 by kernel_rfl)
      (opens_more ⟨_, rfl, rfl, rfl⟩ (opensB Tryz.underlying4 (by kernel_rfl))
      (opens_last ⟨_, rfl, rfl, rfl⟩ (opens_slice (by decide) Tryz.underlying72 (by kernel_rfl) opensRec) rfl)))
theorem opensWorld : Opens layWorld 28 :=
  opens_as (A := (layNums 9).two (((layDrive.slice 88).slice 85).two (layInts.two ((layTape.slice 79).two (layI.two (layI.two layB)))))) (fun p => ⟨p.1, p.2.1, p.2.2.1, p.2.2.2.1, p.2.2.2.2.1, p.2.2.2.2.2.1, p.2.2.2.2.2.2⟩) (fun _ => rfl)
    (opens_struct Tryz.underlying28 (show _ = 15 by kernel_rfl)
      (opens_more ⟨_, rfl, rfl, rfl⟩ opensShape9
      (opens_more ⟨_, rfl, rfl, rfl⟩ (opens_slice (by decide) Tryz.underlying24 (by kernel_rfl) (opens_slice (by decide) Tryz.underlying70 (by kernel_rfl) opensDrive))
      (opens_more ⟨_, rfl, rfl, rfl⟩ (opensInts Tryz.underlying25 Tryz.underlying2 (by kernel_rfl) (by kernel_rfl))
      (opens_more ⟨_, rfl, rfl, rfl⟩ (opens_slice (by decide) Tryz.underlying26 (by kernel_rfl) opensTape)
      (opens_more ⟨_, rfl, rfl, rfl⟩ (opensI Tryz.underlying2 (by kernel_rfl))
      (opens_more ⟨_, rfl, rfl, rfl⟩ (opensI Tryz.underlying2 (by kernel_rfl))
      (opens_last ⟨_, rfl, rfl, rfl⟩ (opensB Tryz.underlying4 (by kernel_rfl)) rfl))))))))
end Go.Proofs.YtgbnibapkgbklaaGreat
