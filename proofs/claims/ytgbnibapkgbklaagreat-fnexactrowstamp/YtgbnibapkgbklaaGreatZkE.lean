/- What WorldFault tells, as the walks say it. -/
import Derived.Test.YtgbnibapkgbklaaGreatZkD
import Derived.Test.YtgbnibapkgbklaaGreatZkO
import Derived.Test.YtgbnibapkgbklaaGreatZkA
import Derived.Deep.RegionLaw
import Derived.Deep.DeepCutAuto
import Derived.Laws.Tables
import Derived.Laws.Rows
namespace Go.Proofs.YtgbnibapkgbklaaGreat
open Go.RowKit F256
set_option linter.unusedVariables false

theorem stair_ex {K : Int → Prop} (hK : ∃ x, K x) : ∀ l : List (Prop × Int), ∃ x, Stair l K x
  | [] => hK
  | (p, c) :: l => by
    by_cases h : p
    · obtain ⟨x, hx⟩ := stair_ex hK l
      exact ⟨x, .inr ⟨h, hx⟩⟩
    · exact ⟨c, .inl ⟨h, rfl⟩⟩
theorem rec_det {s : Nat → Int} {d : RecD} {X : Int} {w : World} {f : Nat} {args : Array Value} (hX : RecAns s d X) (h : Calls Tryz.prog f args w (RecPost s d w)) : Calls Tryz.prog f args w fun e w' => e = .returned (.int .i64 X) ∧ Below w.heap.size w w' :=
  h.mono fun e w' ⟨x, h1, h2, h3⟩ => ⟨by rw [h1, h2.one hX], h3⟩
/-- WorldFault has told what is to be told -/
def WldPost (d : WorldD) (w : World) (e : Ending) (w' : World) : Prop := ∃ x, e = .returned (.int .i64 x) ∧ WldAns d x ∧ Below w.heap.size w w'
theorem wldP {d : WorldD} {w : World} {e : Ending} {w' : World} {x : Int} (he : e = .returned (.int .i64 x)) (h : WldAns d x) (hb : Below w.heap.size w w') : WldPost d w e w' := ⟨x, he, h, hb⟩

/-- recsFault has told what is to be told -/
def RcsPost (s : Nat → Int) (p : Nat × (Nat → TapeD)) (w : World) (e : Ending) (w' : World) : Prop := ∃ x, e = .returned (.int .i64 x) ∧ RecsAns s p.1 p.2 x ∧ Below w.heap.size w w'
/-- an operation without a guard -/
theorem WQ.free {P : Program} {ops : Array Oper} {C : World → Prop} {Q : Act → Prop} {a : Act} {o : Oper} {rest : List Oper} (hw : o.guard = none)
    (h : ∀ K : Act → Prop, (∀ a, WQ P ops C Q rest a → K a) → o.quiet P a C K) : WQ P ops C Q (o :: rest) a := WQ.want (by simp [Region.wanted, hw]) h
end Go.Proofs.YtgbnibapkgbklaaGreat

namespace Go.Proofs.YtgbnibapkgbklaaGreat
open Go.RowKit F256
set_option linter.unusedVariables false
theorem recs_row (s : Nat → Int) (y : Nat → RecD) : ∀ k, (∀ i, i < k → RecAns s (y i) 0) ∨ ∃ i c, i < k ∧ c ≠ 0 ∧ RecAns s (y i) c ∧ ∀ j, j < i → RecAns s (y j) 0
  | 0 => .inl (fun i hi => by omega)
  | k + 1 => by
    rcases recs_row s y k with h | ⟨i, c, h1, h2, h3, h4⟩
    · obtain ⟨X, hX⟩ : ∃ X, RecAns s (y k) X := stair_ex (K := isZ) ⟨0, rfl⟩ _
      by_cases hx : X = 0
      · subst hx
        exact .inl (fun i hi => by
          by_cases c : i = k
          · subst c; exact hX
          · exact h i (by omega))
      · exact .inr ⟨k, X, by omega, hx, hX, h⟩
    · exact .inr ⟨i, c, by omega, h2, h3, h4⟩
theorem recs_ex (s : Nat → Int) (x : Nat → TapeD) : ∀ n, ∃ c, RecsAns s n x c
  | 0 => ⟨0, .inl ⟨rfl, fun t ht => by omega⟩⟩
  | n + 1 => by
    obtain ⟨c, hc⟩ := recs_ex s x n
    rcases hc with ⟨rfl, h⟩ | ⟨hc, t, i, ht, hi, hr, hb, hu⟩
    · rcases recs_row s (x n).recs.2 (x n).recs.1 with k | ⟨i, c, h1, h2, h3, h4⟩
      · exact ⟨0, .inl ⟨rfl, fun t ht => by
          by_cases c : t = n
          · subst c; exact k
          · exact h t (by omega)⟩⟩
      · exact ⟨c, .inr ⟨h2, n, i, by omega, h1, h3, h4, h⟩⟩
    · exact ⟨c, .inr ⟨hc, t, i, by omega, hi, hr, hb, hu⟩⟩
theorem world_ex (d : WorldD) : ∃ X, WldAns d X := by
  unfold WldAns
  refine stair_ex ?_ _
  obtain ⟨c, hc⟩ := recs_ex d.shape d.tapes.2 d.tapes.1
  by_cases h : c = 0
  · subst h
    obtain ⟨x, hx⟩ := stair_ex (K := isZ) ⟨0, rfl⟩ [(CleanP d, 1), (CountP d, 3)]
    exact ⟨x, .inr ⟨hc, hx⟩⟩
  · exact ⟨c, .inl ⟨h, hc⟩⟩
end Go.Proofs.YtgbnibapkgbklaaGreat

namespace Go.Proofs.YtgbnibapkgbklaaGreat
open Go.RowKit F256
set_option linter.unusedVariables false

/-- what is known of an element's type -/
structure ElInfo {α : Type} (E : Lay α) (T e : TypeId) (by_ : Nat) (zs : List Value) : Prop where
  hs : 0 < E.sz
  hzs : zs.length = E.sz
  hu : Tryz.prog.underlying T = some (.slice e)
  hi : (Tryz.prog.info? e).map (fun i => (i.zero.map (·.cells), i.size, i.bytes)) = some (some zs.toArray, E.sz, by_)
  few : by_ ≤ 1000
/-- gathered: n elements x in blocks from lo on -/
def Gat {α : Type} (E : Lay α) (t : TypeId) (w : World) (lo : Nat) (v : Value) (n : Nat) (x : Nat → α) : Prop := ∃ ce Ls, SlG E t w lo v n x ce Ls
section
variable {α : Type} {E : Lay α} {t : TypeId} {w w' : World} {lo n : Nat} {v : Value} {x : Nat → α}
theorem Gat.nil (x : Nat → α) (w : World) (lo : Nat) : Gat E t w lo (.slice none 0 0) 0 x := ⟨_, _, SlG.nil x w lo⟩
theorem Gat.form (h : Gat E t w lo v n x) : ∃ ao cap, v = .slice ao n cap := by
  obtain ⟨ce, Ls, h⟩ := h
  rcases h.row.2 with ⟨hv, hn⟩ | ⟨g, cap, cur, rfl, _⟩
  · exact ⟨none, 0, by rw [hv, hn]⟩
  · exact ⟨_, _, rfl⟩
theorem Gat.below (h : Gat E t w lo v n x) (hb : Below w.heap.size w w') : Gat E t w' lo v n x := by
  obtain ⟨ce, Ls, h⟩ := h
  exact ⟨ce, Ls, h.below hb⟩
theorem Gat.own (h : Gat E t w lo v n x) : OwnT (E.slice t) w lo w.heap.size (n, x) [v] := by
  obtain ⟨ce, Ls, h⟩ := h
  exact h.own
theorem Gat.congr {y : Nat → α} (h : Gat E t w lo v n x) (hy : ∀ i, i < n → x i = y i) : Gat E t w lo v n y := by
  obtain ⟨ce, Ls, h⟩ := h
  exact ⟨ce, Ls, h.row, fun i hi => by rw [← hy i hi]; exact h.each i hi, h.nd, h.low⟩
theorem SlG.mem_low {ce : Nat → List Value} {Ls : Nat → List Nat} (h : SlG E t w lo v n x ce Ls) : ∀ b, b ∈ v.ownBlock.toList ++ catN n Ls → lo ≤ b := fun b hb => by
  rcases List.mem_append.1 hb with h1 | h1
  · exact (h.row.lt b (by simpa using h1)).1
  · exact h.low b h1
/-- a store ahead of what is gathered -/
theorem Gat.set (h : Gat E t w lo v n x) (b j : Nat) (u : Value) (hb : b < lo) : Gat E t (w.setCell ⟨b, j, none⟩ u) lo v n x := by
  obtain ⟨ce, Ls, h⟩ := h
  exact ⟨ce, Ls, h.kept (fun k hk => heap_setCell_other w ⟨b, j, none⟩ k u (by have := h.mem_low k hk; show k ≠ b; omega))⟩
theorem Gat.weaken {lo' : Nat} (h : Gat E t w lo v n x) (hl : lo' ≤ lo) : Gat E t w lo' v n x := by
  obtain ⟨ce, Ls, h⟩ := h
  refine ⟨ce, Ls, ⟨h.row.1, ?_⟩, h.each, h.nd, fun b hb => Nat.le_trans hl (h.low b hb)⟩
  rcases h.row.2 with hn | ⟨g, cap, cur, rfl, hbg, rest⟩
  · exact .inl hn
  · exact .inr ⟨g, cap, cur, rfl, by omega, rest⟩
end
end Go.Proofs.YtgbnibapkgbklaaGreat

namespace Go.Proofs.YtgbnibapkgbklaaGreat
open Go.RowKit F256
set_option linter.unusedVariables false
set_option linter.unusedSimpArgs false

def blankB : BlockD := ⟨0, (4, fun _ => 0)⟩
def freshD (rows : Nat) : DriveD := ⟨false, (rows, fun _ => blankB)⟩
theorem Three.low {w wc w' : World} {c1 c2 c3 : Array Value} {t1 t2 t3 : TypeId} (h : Three w wc c1 c2 c3 t1 t2 t3) (hb : Below (w.heap.size + 1 + 1 + 1) wc w') : Three w w' c1 c2 c3 t1 t2 t3 :=
  ⟨h.b1.below hb (by omega), h.b2.below hb (by omega), h.b3.below hb (by omega), h.bel.trans (hb.mono (by omega))⟩
end Go.Proofs.YtgbnibapkgbklaaGreat

namespace Go.Proofs.YtgbnibapkgbklaaGreat
open Go.RowKit F256
set_option linter.unusedVariables false
section
variable {α : Type} {E : Lay α} {t : TypeId} {w w1 : World} {lo g cap n k : Nat} {x : Nat → α} {ce : Nat → List Value} {Ls : Nat → List Nat}
/-- the element k is laid now; w1: a world in which the others were there and none of its blocks -/
theorem SlP.count {x1 : Nat → α} {ce1 : Nat → List Value} (h1 : SlP E t w1 lo g cap n k x1 ce1 Ls) (h : SlP E t w lo g cap n k x ce Ls) {a : α} {K : List Nat} (ha : E.own w a (ce k) K) (hnd : K.Nodup) (hK : ∀ b, b ∈ K → w1.heap.size ≤ b) (hlo : lo ≤ w1.heap.size) :
    SlP E t w lo g cap n (k + 1) (upd x k a) ce (upd Ls k K) := by
  have eL : catN (k + 1) (upd Ls k K) = catN k Ls ++ K := by
    rw [catN_succ, upd_at, catN_congr (g := Ls) (fun i hi => upd_ne Ls K (by omega))]
  refine ⟨h.row, h.lens, fun i hi => ?_, ?_, ?_⟩
  · by_cases c : i = k
    · subst c; rw [upd_at, upd_at]; exact ha
    · rw [upd_ne x a c, upd_ne Ls K c]; exact h.each i (by omega)
  · rw [eL]
    refine List.nodup_cons.2 ⟨fun hb => ?_, List.nodup_append.2 ⟨(List.nodup_cons.1 h.nd).2, hnd, fun b hb c hc hh => ?_⟩⟩
    · rcases List.mem_append.1 hb with h3 | h3
      · exact (List.nodup_cons.1 h.nd).1 h3
      · have := hK g h3; have := h1.lt; omega
    · subst hh
      have k1 := h1.mem_lt b hb
      have k2 := hK b hc
      omega
  · rw [eL]
    intro b hb
    rcases List.mem_append.1 hb with h3 | h3
    · exact h.low b h3
    · have := hK b h3; omega
theorem SlP.congr {y : Nat → α} (h : SlP E t w lo g cap n k x ce Ls) (hy : ∀ i, i < k → x i = y i) : SlP E t w lo g cap n k y ce Ls := ⟨h.row, h.lens, fun i hi => by rw [← hy i hi]; exact h.each i hi, h.nd, h.low⟩
/-- all elements zero and without memory -/
theorem SlP.zero {zs : List Value} {a : α} (h : SlP E t w lo g cap n 0 x (fun _ => zs) Ls) (hz : E.own w a zs []) (hg : lo ≤ g) : OwnT (E.slice t) w lo w.heap.size (n, fun _ => a) [.slice (Option.some ⟨g, 0, none⟩) n cap] := by
  have e : ∀ m, catN m (fun _ => ([] : List Nat)) = [] := fun m => by
    induction m with
    | zero => rfl
    | succ m ih => rw [catN_succ, ih]; rfl
  have h2 : SlP E t w lo g cap n n (fun _ => a) (fun _ => zs) (fun _ => []) := ⟨h.row, h.lens, fun i _ => hz, by rw [e]; simp, fun b hb => by rw [e] at hb; cases hb⟩
  exact h2.done hg
end
end Go.Proofs.YtgbnibapkgbklaaGreat

namespace Go.Proofs.YtgbnibapkgbklaaGreat
open Go.RowKit F256
set_option linter.unusedVariables false
def noRec : RecD := ⟨0, 0, ByteArray.empty, 0, 0, 0, (0, fun _ => 0), (0, fun _ => 0), (0, fun _ => 0)⟩
def zeroT : TapeD := ⟨false, (0, fun _ => noRec)⟩
def zeroW : WorldD := ⟨fun _ => 0, (0, fun _ => (0, fun _ => freshD 0)), (0, fun _ => 0), (0, fun _ => zeroT), 0, 0, false⟩
def newW (s : Nat → Int) : WorldD := ⟨s, ((s 0 + s 1).toNat, fun _ => ((s 2 + s 3).toNat, fun _ => freshD (s 4).toNat)), (0, fun _ => 0), (2, fun _ => zeroT), 0, -1, false⟩
def NewAns (s : Nat → Int) (d : WorldResultD) : Prop := (¬ OkShape s ∧ d = ⟨3, zeroW⟩) ∨ (OkShape s ∧ d = ⟨0, newW s⟩)
theorem NewAns.one {s : Nat → Int} {d e : WorldResultD} (h : NewAns s d) (k : NewAns s e) : d = e := by
  rcases h with ⟨h1, h2⟩ | ⟨h1, h2⟩ <;> rcases k with ⟨k1, k2⟩ | ⟨k1, k2⟩
  · rw [h2, k2]
  · exact absurd k1 h1
  · exact absurd h1 k1
  · rw [h2, k2]
theorem own_noSl {α : Type} {E : Lay α} {t : TypeId} (w : World) (x : Nat → α) : (E.slice t).own w (0, x) [.slice none 0 0] [] := ⟨_, fun _ => [], fun _ => [], rfl, rfl, World.ownsRow_nil w 0 t E.sz, fun i hi => by omega⟩
theorem own_zeroT (w : World) : layTape.own w zeroT [.bool false, .slice none 0 0] [] := ⟨_, _, [], [], rfl, rfl, ⟨rfl, trivial, rfl⟩, own_noSl w _⟩
theorem ChgL.bel {K : List Nat} {w w' : World} {B : Nat} (hc : ChgL K w w') (hK : ∀ b, b ∈ K → B ≤ b) (hB : B ≤ w.heap.size) : Below B w w' := ⟨hc.os, hc.tape, hc.output, hc.size, fun k hk => hc.block k (by omega) (fun h => by have := hK k h; omega)⟩
theorem ChgL.after {K : List Nat} {a b c : World} (h : ChgL K a b) (k : Below a.heap.size b c) : ChgL K a c := ⟨k.os.trans h.os, k.tape.trans h.tape, k.output.trans h.output, Nat.le_trans h.size k.size, fun i hi hn => (k.block i hi).trans (h.block i hi hn)⟩
/-- a world's box and its two tapes, new -/
structure NewBx (cs : Array Value) (w1 wx : World) (P t : Nat) : Prop where
  box : Box wx P cs 37
  tp : (layTape.slice 79).own wx (2, fun _ => zeroT) [.slice (some ⟨t, 0, none⟩) 2 2] [t]
  p1 : w1.heap.size ≤ P
  t1 : w1.heap.size ≤ t
  ne : t ≠ P
  bel : Below w1.heap.size w1 wx
theorem SlP.two {w : World} {lo t cap : Nat} {x : Nat → TapeD} {Ls : Nat → List Nat} (h : SlP layTape 79 w lo t cap 2 0 x (fun _ => [.bool false, .slice none 0 0]) Ls) : (layTape.slice 79).own w (2, fun _ => zeroT) [.slice (Option.some ⟨t, 0, none⟩) 2 cap] [t] := by
  refine ⟨_, fun _ => [.bool false, .slice none 0 0], fun _ => [], rfl, rfl, ⟨h.row.1, ?_⟩, fun i _ => own_zeroT w⟩
  rcases h.row.2 with ⟨hn, _⟩ | ⟨g', cap', cur, he, hbg, rest⟩
  · cases hn
  · exact .inr ⟨g', cap', cur, he, Nat.zero_le _, rest⟩
end Go.Proofs.YtgbnibapkgbklaaGreat

namespace Go.Proofs.YtgbnibapkgbklaaGreat
open Go.RowKit F256
set_option linter.unusedVariables false
theorem Chg.bel {lo hi B : Nat} {w w' : World} (h : Chg lo hi w w') (hl : B ≤ lo) (hB : B ≤ w.heap.size) : Below B w w' := ⟨h.os, h.tape, h.output, h.size, fun k hk => h.block k (by omega) (.inl (by omega))⟩
end Go.Proofs.YtgbnibapkgbklaaGreat

namespace Go.Proofs.YtgbnibapkgbklaaGreat
open Go.RowKit F256
set_option linter.unusedVariables false
theorem OwnT.one {α : Type} {A : Lay α} {w : World} {lo hi : Nat} {a : α} {cs : List Value} (h : OwnT A w lo hi a cs) : ∀ v, v ∈ cs → v.oneCell' = true := by
  obtain ⟨L, h1, _⟩ := h
  exact fun v hv => A.own_one h1 v hv
theorem wp_allocStore {ops : Array Oper} {rest : List Oper} {o1 o2 : Oper} {a : Act} {w : World} {Q : Exit → Act → World → Prop} (T : TypeId) (k : Nat) (x : Operand) (cs : List Value) (zs : Array Value) (n : Nat)
    (hop1 : o1.op = Op.alloc T) (hop2 : o2.op = Op.store T (.tmp k) x) (hg1 : o1.guard = none) (hg2 : o2.guard = none) (hd1 : o1.dst = some k) (hd2 : o2.dst = none)
    (hp : (a.put (some k) (.pointer (some ⟨w.heap.size, 0, none⟩))).eval (.tmp k) = .pointer (some ⟨w.heap.size, 0, none⟩)) (hx : (a.put (some k) (.pointer (some ⟨w.heap.size, 0, none⟩))).eval x = .agg cs.toArray)
    (hi : (Tryz.prog.info? T).map (fun i => (i.zero.map (·.cells), i.size)) = some (some zs, n)) (hz : zs.size = n) (hl : cs.length = n) (h1 : ∀ v, v ∈ cs → v.oneCell' = true)
    (h : wpList Tryz.prog ops Q rest (a.put (some k) (.pointer (some ⟨w.heap.size, 0, none⟩))) (w.alloc (.cells cs.toArray T))) : wpList Tryz.prog ops Q (o1 :: o2 :: rest) a w := by
  obtain ⟨i0, hi0⟩ : ∃ i0, Tryz.prog.info? T = some i0 := by
    cases h : Tryz.prog.info? T with
    | none => rw [h] at hi; cases hi
    | some i0 => exact ⟨i0, rfl⟩
  rw [hi0] at hi
  simp only [Option.map_some, Option.some.injEq, Prod.mk.injEq] at hi
  obtain ⟨h2, h3⟩ := hi
  obtain ⟨z, hzz, hzc⟩ : ∃ z, i0.zero = some z ∧ z.cells = zs := by
    cases h : i0.zero with
    | none => rw [h] at h2; cases h2
    | some z => rw [h] at h2; exact ⟨z, rfl, by simpa using h2⟩
  have hr : (Instr.alloc T true (.tuple #[])).run Tryz.prog w = .ok (.pointer (some ⟨w.heap.size, 0, none⟩)) (w.alloc (.cells zs T)) := by
    simp [Instr.alloc, zeroValue, typeInfo, hi0, hzz, hzc, newVar, newRow]
  have hw : (w.alloc (.cells zs T)).setRow w.heap.size cs.toArray = w.alloc (.cells cs.toArray T) := by
    have hh : ((w.alloc (.cells zs T)).setRow w.heap.size cs.toArray).heap = w.heap.push (.cells cs.toArray T) := by
      apply Array.ext_getElem?
      intro i
      by_cases c : i = w.heap.size
      · subst c
        rw [setRow_heap (w.alloc (.cells zs T)) w.heap.size zs cs.toArray T (0, 0) (box_new w zs T), Array.getElem?_push, if_pos rfl]
      · rw [setRow_other _ _ _ _ c, Array.getElem?_push, if_neg c]
        show (w.heap.push _)[i]? = _
        rw [Array.getElem?_push, if_neg c]
    show ({ w with heap := ((w.alloc (.cells zs T)).setRow w.heap.size cs.toArray).heap } : World) = _
    rw [hh]
    rfl
  refine wpList_plain hg1 fun K hK => ?_
  unfold Oper.wp execOp
  simp only [hop1, Sem.run_bind, hr, Result.andThen_ok]
  refine hK _ _ ?_
  rw [hd1]
  refine wpList_store_row hg2 T (.tmp k) x hop2 w.heap.size cs.toArray hp hx T zs (box_new w zs T) (by rw [hi0]; simp [h3, hl]) (by simp [hz, hl]) (by simp; exact h1) ?_
  rw [hw, hd2]
  exact h
/-- a whole struct loaded -/
theorem wp_loadBox {ops : Array Oper} {rest : List Oper} {o : Oper} {a : Act} {w : World} {Q : Exit → Act → World → Prop} (T : TypeId) (x : Operand) (ho : o.op = .load T x) (hgd : o.guard = none) (b : Nat) (hx : a.eval x = .pointer (some ⟨b, 0, none⟩)) {cs : List Value} (hB : Box w b cs.toArray T) {fs : Array Field} (hu : Tryz.prog.underlying T = some (.struct fs)) {n : Nat} (hi : (Tryz.prog.info? T).map (·.size) = some n) (hl : cs.length = n)
    (h : wpList Tryz.prog ops Q rest (a.put o.dst (.agg cs.toArray)) w) : wpList Tryz.prog ops Q (o :: rest) a w :=
  wpList_load_row hgd T x ho b hx T cs.toArray (0, 0) (.struct fs) hB hu rfl (by rw [hi]; simp [hl]) h
theorem OwnT.len {α : Type} {A : Lay α} {w : World} {lo hi : Nat} {a : α} {cs : List Value} (h : OwnT A w lo hi a cs) : cs.length = A.sz := by
  obtain ⟨L, h1, _⟩ := h
  exact A.own_len h1
theorem size_W : (Tryz.prog.info? 37).map (·.size) = some 15 := by kernel_rfl
theorem size_LW : (Tryz.prog.info? 28).map (·.size) = some 15 := by kernel_rfl
theorem info_W : (Tryz.prog.info? 37).map (fun i => (i.zero.map (·.cells), i.size)) = some (some #[.int .i64 0, .int .i64 0, .int .i64 0, .int .i64 0, .int .i64 0, .int .i64 0, .int .i64 0, .int .i64 0, .int .i64 0, .slice none 0 0, .slice none 0 0, .slice none 0 0, .int .i64 0, .int .i64 0, .bool false], 15) := by kernel_rfl
end Go.Proofs.YtgbnibapkgbklaaGreat

namespace Go.Proofs.YtgbnibapkgbklaaGreat
open Go.RowKit F256
set_option linter.unusedVariables false
theorem chgL_setRow {w : World} (b : Nat) (cs : Array Value) : ChgL [b] w (w.setRow b cs) :=
  ⟨rfl, rfl, rfl, by simp, fun k _ hn => setRow_other w b k cs (fun h => hn (by simp [h]))⟩
/-- a whole struct is stored -/
theorem wp_storeBox {ops : Array Oper} {rest : List Oper} {o : Oper} {a : Act} {w : World} {Q : Exit → Act → World → Prop} (T : TypeId) (x y : Operand) (ho : o.op = .store T x y) (hgd : o.guard = none) (b : Nat) (hx : a.eval x = .pointer (some ⟨b, 0, none⟩)) {cs old : List Value} (hy : a.eval y = .agg cs.toArray) (hB : Box w b old.toArray T) {n : Nat} (hi : (Tryz.prog.info? T).map (·.size) = some n) (hl : cs.length = n) (hol : old.length = n) (h1 : ∀ v, v ∈ cs → v.oneCell' = true)
    (h : ∀ w', Box w' b cs.toArray T → ChgL [b] w w' → w'.heap.size = w.heap.size → wpList Tryz.prog ops Q rest (a.put o.dst undef) w') : wpList Tryz.prog ops Q (o :: rest) a w := by
  refine wpList_store_row hgd T x y ho b cs.toArray hx hy T old.toArray hB (by rw [hi]; simp [hl]) (by simp [hl, hol]) (by simp; exact h1) ?_
  exact h _ (setRow_heap w b _ cs.toArray T (0, 0) hB) (chgL_setRow b _) (by simp)
/-- a struct's block is told -/
theorem ret_box {fn : Func} {R : Ending → World → Prop} {a : Act} {w : World} {p : Tmp} {ty : TypeId} (h : fn.results = #[.cell p ty]) {b : Nat} {cs : List Value} (hp : a.tmps.getD p undef = .pointer (some ⟨b, 0, none⟩)) (hB : Box w b cs.toArray ty) {fs : Array Field} (hu : Tryz.prog.underlying ty = some (.struct fs)) {n : Nat} (hi : (Tryz.prog.info? ty).map (·.size) = some n) (hl : cs.length = n) (hd : a.defers = []) (hR : R (.returned (.agg cs.toArray)) w) : bodyPost Tryz.prog fn R .ret a w :=
  bodyPost_ret (results_cell_row h a.tmps w b ty cs.toArray (0, 0) (.struct fs) hp hB hu rfl (by rw [hi]; simp [hl])) hd hR
end Go.Proofs.YtgbnibapkgbklaaGreat
