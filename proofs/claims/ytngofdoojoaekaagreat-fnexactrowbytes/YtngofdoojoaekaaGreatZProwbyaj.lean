/- What WorldFault tells, as the walks say it. -/
import Derived.Test.YtngofdoojoaekaaGreatZProwbyai
import Derived.Test.YtngofdoojoaekaaGreatZProwbyab
import Derived.Test.YtngofdoojoaekaaGreatZProwbyac
import Derived.Test.YtngofdoojoaekaaGreatZProwbyah
import Derived.Deep.RegionLaw
import Derived.Deep.DeepCutAuto
import Derived.Laws.Tables
import Derived.Laws.Rows
import Derived.Test.YtngofdoojoaekaaGreatZProwbyae
import Derived.Laws.CopyOwn
import Derived.Maps.AppendAt
import Derived.Test.YtngofdoojoaekaaGreatZProwbyaa
namespace Go.Proofs.YtngofdoojoaekaaGreat
open Go.RowKit F256
set_option linter.unusedVariables false

theorem stair_ex {K : Int → Prop} (hK : ∃ x, K x) : ∀ l : List (Prop × Int), ∃ x, Stair l K x
  | [] => hK
  | (p, c) :: l => by
    by_cases h : p
    · obtain ⟨x, hx⟩ := stair_ex hK l
      exact ⟨x, .inr ⟨h, hx⟩⟩
    · exact ⟨c, .inl ⟨h, rfl⟩⟩
theorem rec_det {s : Nat → Int} {d : RecD} {X : Int} {w : World} {f : Nat} {args : Array Value} (hX : RecAns s d X) (h : Calls Tryz.prog f args w (RecPost s d w)) : Calls Tryz.prog f args w fun e w' => e = .returned (.int .i64 X) ∧ Below w.heap.size w w' :=
  h.mono fun e w' ⟨x, h1, h2, h3⟩ => ⟨by rw [h1, h2.one hX], h3⟩
/-- WorldFault has told what is to be told -/
def WldPost (d : WorldD) (w : World) (e : Ending) (w' : World) : Prop := ∃ x, e = .returned (.int .i64 x) ∧ WldAns d x ∧ Below w.heap.size w w'
theorem wldP {d : WorldD} {w : World} {e : Ending} {w' : World} {x : Int} (he : e = .returned (.int .i64 x)) (h : WldAns d x) (hb : Below w.heap.size w w') : WldPost d w e w' := ⟨x, he, h, hb⟩

/-- recsFault has told what is to be told -/
def RcsPost (s : Nat → Int) (p : Nat × (Nat → TapeD)) (w : World) (e : Ending) (w' : World) : Prop := ∃ x, e = .returned (.int .i64 x) ∧ RecsAns s p.1 p.2 x ∧ Below w.heap.size w w'
/-- an operation without a guard -/
theorem WQ.free {P : Program} {ops : Array Oper} {C : World → Prop} {Q : Act → Prop} {a : Act} {o : Oper} {rest : List Oper} (hw : o.guard = none)
    (h : ∀ K : Act → Prop, (∀ a, WQ P ops C Q rest a → K a) → o.quiet P a C K) : WQ P ops C Q (o :: rest) a := WQ.want (by simp [Region.wanted, hw]) h
end Go.Proofs.YtngofdoojoaekaaGreat

namespace Go.Proofs.YtngofdoojoaekaaGreat
open Go.RowKit F256
set_option linter.unusedVariables false
theorem recs_row (s : Nat → Int) (y : Nat → RecD) : ∀ k, (∀ i, i < k → RecAns s (y i) 0) ∨ ∃ i c, i < k ∧ c ≠ 0 ∧ RecAns s (y i) c ∧ ∀ j, j < i → RecAns s (y j) 0
  | 0 => .inl (fun i hi => by omega)
  | k + 1 => by
    rcases recs_row s y k with h | ⟨i, c, h1, h2, h3, h4⟩
    · obtain ⟨X, hX⟩ : ∃ X, RecAns s (y k) X := stair_ex (K := isZ) ⟨0, rfl⟩ _
      by_cases hx : X = 0
      · subst hx
        exact .inl (fun i hi => by
          by_cases c : i = k
          · subst c; exact hX
          · exact h i (by omega))
      · exact .inr ⟨k, X, by omega, hx, hX, h⟩
    · exact .inr ⟨i, c, by omega, h2, h3, h4⟩
theorem recs_ex (s : Nat → Int) (x : Nat → TapeD) : ∀ n, ∃ c, RecsAns s n x c
  | 0 => ⟨0, .inl ⟨rfl, fun t ht => by omega⟩⟩
  | n + 1 => by
    obtain ⟨c, hc⟩ := recs_ex s x n
    rcases hc with ⟨rfl, h⟩ | ⟨hc, t, i, ht, hi, hr, hb, hu⟩
    · rcases recs_row s (x n).recs.2 (x n).recs.1 with k | ⟨i, c, h1, h2, h3, h4⟩
      · exact ⟨0, .inl ⟨rfl, fun t ht => by
          by_cases c : t = n
          · subst c; exact k
          · exact h t (by omega)⟩⟩
      · exact ⟨c, .inr ⟨h2, n, i, by omega, h1, h3, h4, h⟩⟩
    · exact ⟨c, .inr ⟨hc, t, i, by omega, hi, hr, hb, hu⟩⟩
theorem world_ex (d : WorldD) : ∃ X, WldAns d X := by
  unfold WldAns
  refine stair_ex ?_ _
  obtain ⟨c, hc⟩ := recs_ex d.shape d.tapes.2 d.tapes.1
  by_cases h : c = 0
  · subst h
    obtain ⟨x, hx⟩ := stair_ex (K := isZ) ⟨0, rfl⟩ [(CleanP d, 1), (CountP d, 3)]
    exact ⟨x, .inr ⟨hc, hx⟩⟩
  · exact ⟨c, .inl ⟨h, hc⟩⟩
end Go.Proofs.YtngofdoojoaekaaGreat

namespace Go.Proofs.YtngofdoojoaekaaGreat
open Go.RowKit F256
set_option linter.unusedVariables false

/-- what is known of an element's type -/
structure ElInfo {α : Type} (E : Lay α) (T e : TypeId) (by_ : Nat) (zs : List Value) : Prop where
  hs : 0 < E.sz
  hzs : zs.length = E.sz
  hu : Tryz.prog.underlying T = some (.slice e)
  hi : (Tryz.prog.info? e).map (fun i => (i.zero.map (·.cells), i.size, i.bytes)) = some (some zs.toArray, E.sz, by_)
  few : by_ ≤ 1000
/-- gathered: n elements x in blocks from lo on -/
def Gat {α : Type} (E : Lay α) (t : TypeId) (w : World) (lo : Nat) (v : Value) (n : Nat) (x : Nat → α) : Prop := ∃ ce Ls, SlG E t w lo v n x ce Ls
section
variable {α : Type} {E : Lay α} {t : TypeId} {w w' : World} {lo n : Nat} {v : Value} {x : Nat → α}
theorem Gat.nil (x : Nat → α) (w : World) (lo : Nat) : Gat E t w lo (.slice none 0 0) 0 x := ⟨_, _, SlG.nil x w lo⟩
theorem Gat.form (h : Gat E t w lo v n x) : ∃ ao cap, v = .slice ao n cap := by
  obtain ⟨ce, Ls, h⟩ := h
  rcases h.row.2 with ⟨hv, hn⟩ | ⟨g, cap, cur, rfl, _⟩
  · exact ⟨none, 0, by rw [hv, hn]⟩
  · exact ⟨_, _, rfl⟩
theorem Gat.below (h : Gat E t w lo v n x) (hb : Below w.heap.size w w') : Gat E t w' lo v n x := by
  obtain ⟨ce, Ls, h⟩ := h
  exact ⟨ce, Ls, h.below hb⟩
theorem Gat.own (h : Gat E t w lo v n x) : OwnT (E.slice t) w lo w.heap.size (n, x) [v] := by
  obtain ⟨ce, Ls, h⟩ := h
  exact h.own
theorem Gat.congr {y : Nat → α} (h : Gat E t w lo v n x) (hy : ∀ i, i < n → x i = y i) : Gat E t w lo v n y := by
  obtain ⟨ce, Ls, h⟩ := h
  exact ⟨ce, Ls, h.row, fun i hi => by rw [← hy i hi]; exact h.each i hi, h.nd, h.low⟩
theorem SlG.mem_low {ce : Nat → List Value} {Ls : Nat → List Nat} (h : SlG E t w lo v n x ce Ls) : ∀ b, b ∈ v.ownBlock.toList ++ catN n Ls → lo ≤ b := fun b hb => by
  rcases List.mem_append.1 hb with h1 | h1
  · exact (h.row.lt b (by simpa using h1)).1
  · exact h.low b h1
/-- a store ahead of what is gathered -/
theorem Gat.set (h : Gat E t w lo v n x) (b j : Nat) (u : Value) (hb : b < lo) : Gat E t (w.setCell ⟨b, j, none⟩ u) lo v n x := by
  obtain ⟨ce, Ls, h⟩ := h
  exact ⟨ce, Ls, h.kept (fun k hk => heap_setCell_other w ⟨b, j, none⟩ k u (by have := h.mem_low k hk; show k ≠ b; omega))⟩
theorem Gat.weaken {lo' : Nat} (h : Gat E t w lo v n x) (hl : lo' ≤ lo) : Gat E t w lo' v n x := by
  obtain ⟨ce, Ls, h⟩ := h
  refine ⟨ce, Ls, ⟨h.row.1, ?_⟩, h.each, h.nd, fun b hb => Nat.le_trans hl (h.low b hb)⟩
  rcases h.row.2 with hn | ⟨g, cap, cur, rfl, hbg, rest⟩
  · exact .inl hn
  · exact .inr ⟨g, cap, cur, rfl, by omega, rest⟩
end
end Go.Proofs.YtngofdoojoaekaaGreat

namespace Go.Proofs.YtngofdoojoaekaaGreat
open Go.RowKit F256
set_option linter.unusedVariables false
set_option linter.unusedSimpArgs false

def blankB : BlockD := ⟨0, (4, fun _ => 0)⟩
def freshD (rows : Nat) : DriveD := ⟨false, (rows, fun _ => blankB)⟩
theorem Three.low {w wc w' : World} {c1 c2 c3 : Array Value} {t1 t2 t3 : TypeId} (h : Three w wc c1 c2 c3 t1 t2 t3) (hb : Below (w.heap.size + 1 + 1 + 1) wc w') : Three w w' c1 c2 c3 t1 t2 t3 :=
  ⟨h.b1.below hb (by omega), h.b2.below hb (by omega), h.b3.below hb (by omega), h.bel.trans (hb.mono (by omega))⟩
end Go.Proofs.YtngofdoojoaekaaGreat

namespace Go.Proofs.YtngofdoojoaekaaGreat
open Go.RowKit F256
set_option linter.unusedVariables false
section
variable {α : Type} {E : Lay α} {t : TypeId} {w w1 : World} {lo g cap n k : Nat} {x : Nat → α} {ce : Nat → List Value} {Ls : Nat → List Nat}
/-- the element k is laid now; w1: a world in which the others were there and none of its blocks -/
theorem SlP.count {x1 : Nat → α} {ce1 : Nat → List Value} (h1 : SlP E t w1 lo g cap n k x1 ce1 Ls) (h : SlP E t w lo g cap n k x ce Ls) {a : α} {K : List Nat} (ha : E.own w a (ce k) K) (hnd : K.Nodup) (hK : ∀ b, b ∈ K → w1.heap.size ≤ b) (hlo : lo ≤ w1.heap.size) :
    SlP E t w lo g cap n (k + 1) (upd x k a) ce (upd Ls k K) := by
  have eL : catN (k + 1) (upd Ls k K) = catN k Ls ++ K := by
    rw [catN_succ, upd_at, catN_congr (g := Ls) (fun i hi => upd_ne Ls K (by omega))]
  refine ⟨h.row, h.lens, fun i hi => ?_, ?_, ?_⟩
  · by_cases c : i = k
    · subst c; rw [upd_at, upd_at]; exact ha
    · rw [upd_ne x a c, upd_ne Ls K c]; exact h.each i (by omega)
  · rw [eL]
    refine List.nodup_cons.2 ⟨fun hb => ?_, List.nodup_append.2 ⟨(List.nodup_cons.1 h.nd).2, hnd, fun b hb c hc hh => ?_⟩⟩
    · rcases List.mem_append.1 hb with h3 | h3
      · exact (List.nodup_cons.1 h.nd).1 h3
      · have := hK g h3; have := h1.lt; omega
    · subst hh
      have k1 := h1.mem_lt b hb
      have k2 := hK b hc
      omega
  · rw [eL]
    intro b hb
    rcases List.mem_append.1 hb with h3 | h3
    · exact h.low b h3
    · have := hK b h3; omega
theorem SlP.congr {y : Nat → α} (h : SlP E t w lo g cap n k x ce Ls) (hy : ∀ i, i < k → x i = y i) : SlP E t w lo g cap n k y ce Ls := ⟨h.row, h.lens, fun i hi => by rw [← hy i hi]; exact h.each i hi, h.nd, h.low⟩
/-- all elements zero and without memory -/
theorem SlP.zero {zs : List Value} {a : α} (h : SlP E t w lo g cap n 0 x (fun _ => zs) Ls) (hz : E.own w a zs []) (hg : lo ≤ g) : OwnT (E.slice t) w lo w.heap.size (n, fun _ => a) [.slice (Option.some ⟨g, 0, none⟩) n cap] := by
  have e : ∀ m, catN m (fun _ => ([] : List Nat)) = [] := fun m => by
    induction m with
    | zero => rfl
    | succ m ih => rw [catN_succ, ih]; rfl
  have h2 : SlP E t w lo g cap n n (fun _ => a) (fun _ => zs) (fun _ => []) := ⟨h.row, h.lens, fun i _ => hz, by rw [e]; simp, fun b hb => by rw [e] at hb; cases hb⟩
  exact h2.done hg
end
/-- make([]E, n), as it runs -/
theorem run_makeT {α : Type} {E : Lay α} {T e : TypeId} {by_ : Nat} {zs : List Value} (I : ElInfo E T e by_ zs) (x : Nat → α) (Ls : Nat → List Nat) (w : World) (n : Nat) (hn : n ≤ 10000000) :
    ∃ w', (Instr.makeSlice T (.int .i64 (n : Int)) (.int .i64 (n : Int))).run Tryz.prog w = .ok (.slice (some ⟨w.heap.size, 0, none⟩) n n) w' ∧ SlP E e w' w.heap.size w.heap.size n n 0 x (fun _ => zs) Ls ∧ Below w.heap.size w w' := by
  obtain ⟨hs, hzs, hu, hi, few⟩ := I
  obtain ⟨i0, hi0⟩ : ∃ i0, Tryz.prog.info? e = some i0 := by
    cases h : Tryz.prog.info? e with
    | none => rw [h] at hi; cases hi
    | some i0 => exact ⟨i0, rfl⟩
  rw [hi0] at hi
  simp only [Option.map_some, Option.some.injEq, Prod.mk.injEq] at hi
  obtain ⟨h1, h2, h3⟩ := hi
  obtain ⟨z, hz, hzc⟩ : ∃ z, i0.zero = some z ∧ z.cells = zs.toArray := by
    cases h : i0.zero with
    | none => rw [h] at h1; cases h1
    | some z => rw [h] at h1; exact ⟨z, rfl, by simpa using h1⟩
  obtain ⟨w', hrun, hown, hgrow⟩ := run_make_full (P := Tryz.prog) w w.heap.size T e i0 z E.sz hu hi0 hz h2 .i64 .i64 n (by
    rw [h3]
    have : by_ * n ≤ 1000 * 10000000 := Nat.mul_le_mul few hn
    omega) (by unfold maxLen; omega) (Nat.le_refl _)
  rw [hzc, ← hzs, catN_made zs (by omega)] at hown
  rw [hzs] at hown
  exact ⟨w', hrun, ⟨hown, fun _ _ => hzs, fun i hi => by omega, by simp [catN_zero], fun b hb => by rw [catN_zero] at hb; cases hb⟩, below_of_grown hgrow⟩
end Go.Proofs.YtngofdoojoaekaaGreat

namespace Go.Proofs.YtngofdoojoaekaaGreat
open Go.RowKit F256
set_option linter.unusedVariables false
def noRec : RecD := ⟨0, 0, ByteArray.empty, 0, 0, 0, (0, fun _ => 0), (0, fun _ => 0), (0, fun _ => 0)⟩
def zeroT : TapeD := ⟨false, (0, fun _ => noRec)⟩
def zeroW : WorldD := ⟨fun _ => 0, (0, fun _ => (0, fun _ => freshD 0)), (0, fun _ => 0), (0, fun _ => zeroT), 0, 0, false⟩
def newW (s : Nat → Int) : WorldD := ⟨s, ((s 0 + s 1).toNat, fun _ => ((s 2 + s 3).toNat, fun _ => freshD (s 4).toNat)), (0, fun _ => 0), (2, fun _ => zeroT), 0, -1, false⟩
def NewAns (s : Nat → Int) (d : WorldResultD) : Prop := (¬ OkShape s ∧ d = ⟨3, zeroW⟩) ∨ (OkShape s ∧ d = ⟨0, newW s⟩)
theorem NewAns.one {s : Nat → Int} {d e : WorldResultD} (h : NewAns s d) (k : NewAns s e) : d = e := by
  rcases h with ⟨h1, h2⟩ | ⟨h1, h2⟩ <;> rcases k with ⟨k1, k2⟩ | ⟨k1, k2⟩
  · rw [h2, k2]
  · exact absurd k1 h1
  · exact absurd h1 k1
  · rw [h2, k2]
theorem own_noSl {α : Type} {E : Lay α} {t : TypeId} (w : World) (x : Nat → α) : (E.slice t).own w (0, x) [.slice none 0 0] [] := ⟨_, fun _ => [], fun _ => [], rfl, rfl, World.ownsRow_nil w 0 t E.sz, fun i hi => by omega⟩
theorem own_zeroT (w : World) : layTape.own w zeroT [.bool false, .slice none 0 0] [] := ⟨_, _, [], [], rfl, rfl, ⟨rfl, trivial, rfl⟩, own_noSl w _⟩
theorem ChgL.bel {K : List Nat} {w w' : World} {B : Nat} (hc : ChgL K w w') (hK : ∀ b, b ∈ K → B ≤ b) (hB : B ≤ w.heap.size) : Below B w w' := ⟨hc.os, hc.tape, hc.output, hc.size, fun k hk => hc.block k (by omega) (fun h => by have := hK k h; omega)⟩
theorem ChgL.after {K : List Nat} {a b c : World} (h : ChgL K a b) (k : Below a.heap.size b c) : ChgL K a c := ⟨k.os.trans h.os, k.tape.trans h.tape, k.output.trans h.output, Nat.le_trans h.size k.size, fun i hi hn => (k.block i hi).trans (h.block i hi hn)⟩
/-- a world's box and its two tapes, new -/
structure NewBx (cs : Array Value) (w1 wx : World) (P t : Nat) : Prop where
  box : Box wx P cs 38
  tp : (layTape.slice 95).own wx (2, fun _ => zeroT) [.slice (some ⟨t, 0, none⟩) 2 2] [t]
  p1 : w1.heap.size ≤ P
  t1 : w1.heap.size ≤ t
  ne : t ≠ P
  bel : Below w1.heap.size w1 wx
theorem SlP.two {w : World} {lo t cap : Nat} {x : Nat → TapeD} {Ls : Nat → List Nat} (h : SlP layTape 95 w lo t cap 2 0 x (fun _ => [.bool false, .slice none 0 0]) Ls) : (layTape.slice 95).own w (2, fun _ => zeroT) [.slice (Option.some ⟨t, 0, none⟩) 2 cap] [t] := by
  refine ⟨_, fun _ => [.bool false, .slice none 0 0], fun _ => [], rfl, rfl, ⟨h.row.1, ?_⟩, fun i _ => own_zeroT w⟩
  rcases h.row.2 with ⟨hn, _⟩ | ⟨g', cap', cur, he, hbg, rest⟩
  · cases hn
  · exact .inr ⟨g', cap', cur, he, Nat.zero_le _, rest⟩
end Go.Proofs.YtngofdoojoaekaaGreat

namespace Go.Proofs.YtngofdoojoaekaaGreat
open Go.RowKit F256
set_option linter.unusedVariables false
theorem mark_T {α : Type} {A : Lay α} {c : α → Nat} {mk : Nat → α → α} {fn : Nat} (hm : MkV A c mk fn) {w : World} {lo hi : Nat} {d : α} {cs : List Value} (h : OwnT A w lo hi d cs) (j : Nat) (hj : j + c d ≤ 100000000) :
    Calls Tryz.prog fn #[.agg cs.toArray, .int .i64 j] w fun e w' => e = .returned (.int .i64 ((j + c d : Nat) : Int)) ∧ OwnT A w' lo hi (mk j d) cs ∧ Chg lo hi w w' := by
  obtain ⟨L, h1, h2, h3⟩ := h
  exact (hm cs d L j w h1 h2 hj).mono fun e w' ⟨he, ho, hc⟩ => ⟨he, ⟨L, ho, h2, h3⟩, hc.chg h3⟩
theorem Chg.bel {lo hi B : Nat} {w w' : World} (h : Chg lo hi w w') (hl : B ≤ lo) (hB : B ≤ w.heap.size) : Below B w w' := ⟨h.os, h.tape, h.output, h.size, fun k hk => h.block k (by omega) (.inl (by omega))⟩
theorem sumN_mono2 {f g : Nat → Nat} : ∀ {n : Nat}, (∀ i, i < n → f i ≤ g i) → sumN f n ≤ sumN g n
  | 0, _ => Nat.le_refl _
  | n + 1, h => by
    rw [sumN_succ, sumN_succ]
    exact Nat.add_le_add (sumN_mono2 (fun i hi => h i (by omega))) (h n (by omega))
theorem sumN_plus (f : Nat → Nat) (c k : Nat) : ∀ n : Nat, sumN (fun i => c + k * f i) n = n * c + k * sumN f n
  | 0 => by simp [sumN]
  | n + 1 => by rw [sumN_succ, sumN_plus f c k n, sumN_succ, Nat.succ_mul, Nat.mul_add]; omega
/-- marks of a slice: at most k times its measure -/
theorem cSl_le {α : Type} {c s : α → Nat} {k : Nat} (h : ∀ a, c a ≤ k + k * s a) (p : Nat × (Nat → α)) : cSl c p ≤ k * szSl s p := by
  unfold cSl szSl
  have h1 : sumN (fun i => c (p.2 i)) p.1 ≤ sumN (fun i => k + k * s (p.2 i)) p.1 := sumN_mono2 (fun i _ => h (p.2 i))
  rw [sumN_plus (fun i => s (p.2 i)) k k p.1] at h1
  rw [Nat.mul_add]
  have : p.1 * k = k * p.1 := Nat.mul_comm _ _
  omega
theorem cBlock_le (d : BlockD) : cBlockD d ≤ 6 + 6 * szBlockD d := by unfold cBlockD szBlockD; omega
theorem cDrive_le (d : DriveD) : cDriveD d ≤ 6 + 6 * szDriveD d := by
  have := cSl_le (k := 6) cBlock_le d.blocks
  unfold cDriveD szDriveD
  omega
theorem cRec_le (d : RecD) : cRecD d ≤ 6 + 6 * szRecD d := by unfold cRecD szRecD; omega
theorem cTape_le (d : TapeD) : cTapeD d ≤ 6 + 6 * szTapeD d := by
  have := cSl_le (k := 6) cRec_le d.recs
  unfold cTapeD szTapeD
  omega
theorem cvWorld_le (d : WorldD) : cvWorldD d ≤ 6 * szWorldD d := by
  have h1 := cSl_le (c := cSl cDriveD) (s := szSl szDriveD) (k := 6) (fun p => Nat.le_trans (cSl_le (k := 6) cDrive_le p) (by omega)) d.groups
  have h3 := cSl_le (k := 6) cTape_le d.tapes
  unfold cvWorldD szWorldD
  omega
end Go.Proofs.YtngofdoojoaekaaGreat

namespace Go.Proofs.YtngofdoojoaekaaGreat
open Go.RowKit F256
set_option linter.unusedVariables false
theorem OwnT.one {α : Type} {A : Lay α} {w : World} {lo hi : Nat} {a : α} {cs : List Value} (h : OwnT A w lo hi a cs) : ∀ v, v ∈ cs → v.oneCell' = true := by
  obtain ⟨L, h1, _⟩ := h
  exact fun v hv => A.own_one h1 v hv
theorem wp_allocStore {ops : Array Oper} {rest : List Oper} {o1 o2 : Oper} {a : Act} {w : World} {Q : Exit → Act → World → Prop} (T : TypeId) (k : Nat) (x : Operand) (cs : List Value) (zs : Array Value) (n : Nat)
    (hop1 : o1.op = Op.alloc T) (hop2 : o2.op = Op.store T (.tmp k) x) (hg1 : o1.guard = none) (hg2 : o2.guard = none) (hd1 : o1.dst = some k) (hd2 : o2.dst = none)
    (hp : (a.put (some k) (.pointer (some ⟨w.heap.size, 0, none⟩))).eval (.tmp k) = .pointer (some ⟨w.heap.size, 0, none⟩)) (hx : (a.put (some k) (.pointer (some ⟨w.heap.size, 0, none⟩))).eval x = .agg cs.toArray)
    (hi : (Tryz.prog.info? T).map (fun i => (i.zero.map (·.cells), i.size)) = some (some zs, n)) (hz : zs.size = n) (hl : cs.length = n) (h1 : ∀ v, v ∈ cs → v.oneCell' = true)
    (h : wpList Tryz.prog ops Q rest (a.put (some k) (.pointer (some ⟨w.heap.size, 0, none⟩))) (w.alloc (.cells cs.toArray T))) : wpList Tryz.prog ops Q (o1 :: o2 :: rest) a w := by
  obtain ⟨i0, hi0⟩ : ∃ i0, Tryz.prog.info? T = some i0 := by
    cases h : Tryz.prog.info? T with
    | none => rw [h] at hi; cases hi
    | some i0 => exact ⟨i0, rfl⟩
  rw [hi0] at hi
  simp only [Option.map_some, Option.some.injEq, Prod.mk.injEq] at hi
  obtain ⟨h2, h3⟩ := hi
  obtain ⟨z, hzz, hzc⟩ : ∃ z, i0.zero = some z ∧ z.cells = zs := by
    cases h : i0.zero with
    | none => rw [h] at h2; cases h2
    | some z => rw [h] at h2; exact ⟨z, rfl, by simpa using h2⟩
  have hr : (Instr.alloc T true (.tuple #[])).run Tryz.prog w = .ok (.pointer (some ⟨w.heap.size, 0, none⟩)) (w.alloc (.cells zs T)) := by
    simp [Instr.alloc, zeroValue, typeInfo, hi0, hzz, hzc, newVar, newRow]
  have hw : (w.alloc (.cells zs T)).setRow w.heap.size cs.toArray = w.alloc (.cells cs.toArray T) := by
    have hh : ((w.alloc (.cells zs T)).setRow w.heap.size cs.toArray).heap = w.heap.push (.cells cs.toArray T) := by
      apply Array.ext_getElem?
      intro i
      by_cases c : i = w.heap.size
      · subst c
        rw [setRow_heap (w.alloc (.cells zs T)) w.heap.size zs cs.toArray T (0, 0) (box_new w zs T), Array.getElem?_push, if_pos rfl]
      · rw [setRow_other _ _ _ _ c, Array.getElem?_push, if_neg c]
        show (w.heap.push _)[i]? = _
        rw [Array.getElem?_push, if_neg c]
    show ({ w with heap := ((w.alloc (.cells zs T)).setRow w.heap.size cs.toArray).heap } : World) = _
    rw [hh]
    rfl
  refine wpList_plain hg1 fun K hK => ?_
  unfold Oper.wp execOp
  simp only [hop1, Sem.run_bind, hr, Result.andThen_ok]
  refine hK _ _ ?_
  rw [hd1]
  refine wpList_store_row hg2 T (.tmp k) x hop2 w.heap.size cs.toArray hp hx T zs (box_new w zs T) (by rw [hi0]; simp [h3, hl]) (by simp [hz, hl]) (by simp; exact h1) ?_
  rw [hw, hd2]
  exact h
/-- a whole struct loaded -/
theorem wp_loadBox {ops : Array Oper} {rest : List Oper} {o : Oper} {a : Act} {w : World} {Q : Exit → Act → World → Prop} (T : TypeId) (x : Operand) (ho : o.op = .load T x) (hgd : o.guard = none) (b : Nat) (hx : a.eval x = .pointer (some ⟨b, 0, none⟩)) {cs : List Value} (hB : Box w b cs.toArray T) {fs : Array Field} (hu : Tryz.prog.underlying T = some (.struct fs)) {n : Nat} (hi : (Tryz.prog.info? T).map (·.size) = some n) (hl : cs.length = n)
    (h : wpList Tryz.prog ops Q rest (a.put o.dst (.agg cs.toArray)) w) : wpList Tryz.prog ops Q (o :: rest) a w :=
  wpList_load_row hgd T x ho b hx T cs.toArray (0, 0) (.struct fs) hB hu rfl (by rw [hi]; simp [hl]) h
theorem OwnT.len {α : Type} {A : Lay α} {w : World} {lo hi : Nat} {a : α} {cs : List Value} (h : OwnT A w lo hi a cs) : cs.length = A.sz := by
  obtain ⟨L, h1, _⟩ := h
  exact A.own_len h1
theorem size_W : (Tryz.prog.info? 38).map (·.size) = some 15 := by kernel_rfl
theorem size_LW : (Tryz.prog.info? 28).map (·.size) = some 15 := by kernel_rfl
theorem info_W : (Tryz.prog.info? 38).map (fun i => (i.zero.map (·.cells), i.size)) = some (some #[.int .i64 0, .int .i64 0, .int .i64 0, .int .i64 0, .int .i64 0, .int .i64 0, .int .i64 0, .int .i64 0, .int .i64 0, .slice none 0 0, .slice none 0 0, .slice none 0 0, .int .i64 0, .int .i64 0, .bool false], 15) := by kernel_rfl
end Go.Proofs.YtngofdoojoaekaaGreat

namespace Go.Proofs.YtngofdoojoaekaaGreat
open Go.RowKit F256
set_option linter.unusedVariables false
set_option linter.unusedSimpArgs false
theorem OwnI.full {w : World} {lo hi g n : Nat} {f : Nat → Int} (h : OwnI w lo hi (.slice (some ⟨g, 0, none⟩) n n) n f) : w.heap[g]? = some (.cells (intsOf n f).toArray 2 (0, 0)) := by
  rcases h.1.2 with ⟨h', _⟩ | ⟨g', cap', cur, h', _, hg, _, _, hcs, htake⟩
  · simp at h'
  · simp only [Value.slice.injEq, Option.some.injEq, Addr.mk.injEq, and_true, true_and] at h'
    obtain ⟨rfl, rfl⟩ := h'
    have : cur = (intsOf n f).toArray := by
      rw [← htake, List.take_of_length_le (by simp; omega)]
    rw [← this]
    exact hg
end Go.Proofs.YtngofdoojoaekaaGreat

namespace Go.Proofs.YtngofdoojoaekaaGreat
open Go.RowKit F256
set_option linter.unusedVariables false
theorem run_append_none' {P : Program} (w : World) (base : Nat) (t ty e : TypeId) (i : TypeInfo) (size : Nat) (ht : P.underlying t = some (.slice e)) (hi : P.info? e = some i) (v : Value) (n c : Nat) (xs : List Value) (hown : w.ownsRow base e size v n xs) :
    (Builtin.append_ #[t, t] ty #[v, .slice none 0 c]).run P w = .ok v w := by
  rcases hown.2 with ⟨rfl, rfl⟩ | ⟨g, cap, cur, rfl, _, _, hnc, _⟩
  · simp [Builtin.append_, run_underlying ht, sizeOf, typeInfo, hi, Builtin.lenOf, Builtin.firstCells]
  · simp [Builtin.append_, run_underlying ht, sizeOf, typeInfo, hi, Builtin.lenOf, Builtin.firstCells, hnc, storeCells]
theorem wp_run2 {ops : Array Oper} {rest : List Oper} {o : Oper} {a : Act} {W w' : World} {Q : Exit → Act → World → Prop} {T : TypeId} {v' x1 x2 : Value} (hg : o.guard = none) (s y : Operand) (hop : o.op = Op.call { callee := Callee.builtin Builtin.append, args := #[s, y], argTypes := #[T, T] })
    (h1 : a.eval s = x1) (h2 : a.eval y = x2) (hrun : (Builtin.append_ #[T, T] o.type #[x1, x2]).run Tryz.prog W = .ok v' w') (hK : wpList Tryz.prog ops Q rest (a.put o.dst v') w') : wpList Tryz.prog ops Q (o :: rest) a W := by
  refine wpList_plain hg fun K hK' => ?_
  unfold Oper.wp
  simp [execOp, hop, resolve, invoke, builtin, h1, h2, hrun, Result.andThen]
  exact hK' _ _ hK
end Go.Proofs.YtngofdoojoaekaaGreat

namespace Go.Proofs.YtngofdoojoaekaaGreat
open Go.RowKit F256
set_option linter.unusedVariables false

/-- what is read lies in cells of its own -/
def RdOne {α : Type} (E : Lay α) : Prop := ∀ (w : World) (hi : Nat) (a : α) (cs : List Value), E.rd w hi a cs → ∀ u, u ∈ cs → u.oneCell' = true
theorem rdOne_bytes : RdOne layBytes := fun w hi p cs h u hu => by
  obtain ⟨v, rfl, ⟨ao, cap, rfl, _⟩, _⟩ := h
  simp at hu
  subst hu
  rfl
def cat2 {β : Type} (x : Nat → β) (n : Nat) (y : Nat → β) : Nat → β := fun i => if i < n then x i else y (i - n)
theorem cat2_lt {β : Type} (x : Nat → β) {n i : Nat} (y : Nat → β) (h : i < n) : cat2 x n y i = x i := if_pos h
theorem cat2_ge {β : Type} (x : Nat → β) (n : Nat) (y : Nat → β) (i : Nat) : cat2 x n y (n + i) = y i := by
  unfold cat2
  rw [if_neg (by omega)]
  congr 1
  omega
theorem catN_cat2 {β : Type} (x : Nat → List β) (n : Nat) (y : Nat → List β) : ∀ m, catN (n + m) (cat2 x n y) = catN n x ++ catN m y
  | 0 => by rw [catN_zero, List.append_nil]; exact catN_congr (fun i hi => cat2_lt x y hi)
  | m + 1 => by rw [← Nat.add_assoc, catN_succ, catN_cat2 x n y m, catN_succ, cat2_ge, List.append_assoc]
/-- a row of its own, in a block from lo on: n elements that read as x below hi, ce their cells -/
structure View {α : Type} (E : Lay α) (t : TypeId) (w : World) (lo hi : Nat) (v : Value) (n : Nat) (x : Nat → α) (ce : Nat → List Value) : Prop where
  row : w.ownsRow lo t E.sz v n (catN n ce)
  each : ∀ i, i < n → E.rd w hi (x i) (ce i)
section
variable {α : Type} {E : Lay α} {t : TypeId} {w w' : World} {lo hi n : Nat} {v : Value} {x : Nat → α} {ce : Nat → List Value}
theorem View.nil (x : Nat → α) (ce : Nat → List Value) (w : World) (lo hi : Nat) : View E t w lo hi (.slice none 0 0) 0 x ce := ⟨World.ownsRow_nil w lo t E.sz, fun i hi => by omega⟩
theorem View.lit0 (x : Nat → α) (ce : Nat → List Value) (w : World) (hi : Nat) : View E t (w.alloc (.cells #[] t)) w.heap.size hi (.slice (some ⟨w.heap.size, 0, none⟩) 0 0) 0 x ce := by
  have h := World.ownsRow_lit (base := w.heap.size) (e := t) (size := E.sz) w #[] 0 (Nat.le_refl _) (Nat.zero_le _) (by simp)
  exact ⟨by simpa [catN_zero] using h, fun i hi => by omega⟩
theorem View.form (h : View E t w lo hi v n x ce) : ∃ ao cap, v = .slice ao n cap := by
  rcases h.row.2 with ⟨hv, hn⟩ | ⟨g, cap, cur, rfl, _⟩
  · exact ⟨none, 0, by rw [hv, hn]⟩
  · exact ⟨_, _, rfl⟩
theorem View.form0 (h : View E t w lo hi v n x ce) (h0 : n ≠ 0) : ∃ g cap, v = .slice (some ⟨g, 0, none⟩) n cap := by
  rcases h.row.2 with ⟨hv, hn⟩ | ⟨g, cap, cur, rfl, _⟩
  · exact absurd hn h0
  · exact ⟨_, _, rfl⟩
theorem View.len (h : View E t w lo hi v n x ce) : n ≤ maxLen := by
  rcases h.row.2 with ⟨hv, hn⟩ | ⟨g, cap, cur, rfl, hbg, hgg, hnc, hcm, rest⟩
  · omega
  · omega
theorem View.kept (h : View E t w lo hi v n x ce) (hk : ∀ b, v.ownBlock = some b → w'.heap[b]? = w.heap[b]?) (hb : Below hi w w') : View E t w' lo hi v n x ce := by
  refine ⟨⟨h.row.1, ?_⟩, fun i hi => E.rd_below (h.each i hi) hb (Nat.le_refl _)⟩
  rcases h.row.2 with hn | ⟨g, cap, cur, rfl, hbg, hgg, rest⟩
  · exact .inl hn
  · exact .inr ⟨g, cap, cur, rfl, hbg, (hk g (by simp [Value.ownBlock])).trans hgg, rest⟩
theorem View.below (h : View E t w lo hi v n x ce) (hb : Below w.heap.size w w') (hh : hi ≤ w.heap.size) : View E t w' lo hi v n x ce :=
  h.kept (fun b hv => hb.block b (h.row.lt b hv).2) (hb.mono hh)
theorem View.congr {y : Nat → α} (h : View E t w lo hi v n x ce) (hy : ∀ i, i < n → x i = y i) : View E t w lo hi v n y ce := ⟨h.row, fun i hi => by rw [← hy i hi]; exact h.each i hi⟩
theorem View.lens (h : View E t w lo hi v n x ce) : ∀ i, i < n → (ce i).length = E.sz := fun i hi => E.rd_len (h.each i hi)
theorem View.cell {g cap : Nat} (h : View E t w lo hi (.slice (some ⟨g, 0, none⟩) n cap) n x ce) {i j : Nat} (hi : i < n) (hj : j < E.sz) : w.cell? ⟨g, i * E.sz + j, none⟩ = (ce i)[j]? := by
  rw [h.row.cellAt _ (mul_lt hi hj), catN_get h.lens hi hj]
theorem View.rd (h : View E t w lo hi v n x ce) (hh : hi ≤ w.heap.size) : (E.slice t).rd w w.heap.size (n, x) [v] := by
  have hlt := fun b hb => (h.row.lt b hb).2
  obtain ⟨ao, cap, rfl⟩ := h.form
  refine ⟨ao, cap, rfl, h.len, fun h0 => ?_⟩
  obtain ⟨g, cap', e⟩ := h.form0 h0
  cases e
  refine ⟨g, 0, rfl, hlt g (by simp [Value.ownBlock]), fun i hi => ⟨ce i, E.rd_mono (h.each i hi) hh, fun j hj => ?_⟩⟩
  rw [Nat.zero_add]
  exact h.cell hi hj
theorem View.store1 {g cap : Nat} (h : View E t w lo hi (.slice (some ⟨g, 0, none⟩) n cap) n x ce) (h1 : E.sz = 1) (hlo : hi ≤ lo) {i : Nat} (hi' : i < n) {u : Value} {a : α} (ha : E.rd w hi a [u]) :
    View E t (w.setCell ⟨g, i, none⟩ u) lo hi (.slice (some ⟨g, 0, none⟩) n cap) n (upd x i a) (upd ce i [u]) ∧ Below lo w (w.setCell ⟨g, i, none⟩ u) := by
  have hg := h.row.lt g rfl
  have hb : Below lo w (w.setCell ⟨g, i, none⟩ u) := (Below.refl _ _).setCell hg.1 _
  refine ⟨⟨?_, fun m hm => ?_⟩, hb⟩
  · have := (h.row.stored (i * E.sz + 0) u).1
    rw [catN_set h.lens hi' (by omega)] at this
    rw [show i * E.sz + 0 = i by rw [h1]; omega] at this
    have hl := h.lens i hi'
    rw [h1] at hl
    obtain ⟨c, hc⟩ := List.length_eq_one_iff.1 hl
    rw [hc] at this
    exact this
  · by_cases c : m = i
    · subst c
      rw [upd_at, upd_at]
      exact E.rd_below ha hb hlo
    · rw [upd_ne x a c, upd_ne ce _ c]
      exact E.rd_below (h.each m hm) hb hlo
/-- the elements of a part of a row -/
def Src (E : Lay α) (w : World) (hi : Nat) (ao : Option Addr) (m : Nat) (y : Nat → α) (cy : Nat → List Value) : Prop :=
  (m ≠ 0 → ∃ b off, ao = some ⟨b, off, none⟩ ∧ ∀ j, j < m → ∀ k, k < E.sz → w.cell? ⟨b, off + (j * E.sz + k), none⟩ = (cy j)[k]?) ∧ ∀ j, j < m → E.rd w hi (y j) (cy j)
theorem src_one {b : Nat} {y : α} {cs : List Value} (hc : ∀ k, k < E.sz → w.cell? ⟨b, k, none⟩ = cs[k]?) (hy : E.rd w hi y cs) : Src E w hi (some ⟨b, 0, none⟩) 1 (fun _ => y) (fun _ => cs) :=
  ⟨fun _ => ⟨b, 0, rfl, fun j hj k hk => by
    obtain rfl : j = 0 := by omega
    rw [← hc k hk]
    congr 2
    omega⟩, fun _ _ => hy⟩
theorem add_oo (b o j : Nat) : (⟨b, o, none⟩ : Addr).add j = ⟨b, o + j, none⟩ := by unfold Addr.add; split <;> simp_all
end
/-- append(v, y...) onto a row of its own -/
theorem run_appendV {α : Type} {E : Lay α} {T e : TypeId} {by_ : Nat} {zs : List Value} (I : ElInfo E T e by_ zs) (R1 : RdOne E) (ty : TypeId) {W : World} {lo hi n : Nat} {v : Value} {x : Nat → α} {ce : Nat → List Value} (h : View E e W lo hi v n x ce)
    {ao : Option Addr} {m : Nat} (c : Nat) {y : Nat → α} {cy : Nat → List Value} (hs : Src E W hi ao m y cy) (hlo : lo ≤ W.heap.size) (hhi : hi ≤ lo) (hn : n + m ≤ 10000000) (hc0 : ao = none → c = 0 ∨ m = 0) :
    ∃ v' w', (Builtin.append_ #[T, T] ty #[v, .slice ao m c]).run Tryz.prog W = .ok v' w' ∧ View E e w' lo hi v' (n + m) (cat2 x n y) (cat2 ce n cy) ∧ W.grownBy w' v.ownBlock ∧ Below lo W w' := by
  obtain ⟨hz, hzs, hu, hinf, few⟩ := I
  obtain ⟨i0, hi0⟩ : ∃ i0, Tryz.prog.info? e = some i0 := by
    cases h : Tryz.prog.info? e with
    | none => rw [h] at hinf; cases hinf
    | some i0 => exact ⟨i0, rfl⟩
  rw [hi0] at hinf
  simp only [Option.map_some, Option.some.injEq, Prod.mk.injEq] at hinf
  obtain ⟨h1, h2, h3⟩ := hinf
  obtain ⟨z, hz0, hzc⟩ : ∃ z, i0.zero = some z ∧ z.cells = zs.toArray := by
    cases h : i0.zero with
    | none => rw [h] at h1; cases h1
    | some z => rw [h] at h1; exact ⟨z, rfl, by simpa using h1⟩
  obtain ⟨hcell, hrd⟩ := hs
  have hlen : (catN m cy).length = m * E.sz := catN_len (fun j hj => E.rd_len (hrd j hj))
  have big : ∀ ad, ao = some ad → (∀ j u, (catN m cy)[j]? = some u → W.cell? (ad.add j) = some u) → ∃ v' w', (Builtin.append_ #[T, T] ty #[v, .slice ao m c]).run Tryz.prog W = .ok v' w' ∧ View E e w' lo hi v' (n + m) (cat2 x n y) (cat2 ce n cy) ∧ W.grownBy w' v.ownBlock ∧ Below lo W w' := fun ad ha hc => by
    subst ha
    obtain ⟨v', w', hr, r1, r2, r3, r4⟩ := run_append_own_at (P := Tryz.prog) W lo T ty e i0 z E.sz by_ hu hi0 hz0 h2 h3 (by rw [hzc]; simpa using hzs) hz v n (catN n ce) h.row ad m c (catN m cy) hlen hc
      (fun u hu => by
        obtain ⟨i, hi, hm⟩ := mem_catN.1 hu
        exact R1 _ _ _ _ (hrd i hi) u hm) (by unfold maxLen; omega) (by
        have : (n + m) * by_ ≤ 10000000 * 1000 := Nat.mul_le_mul hn few
        omega) hlo
    have hb : Below lo W w' := (Below.refl _ _).grown r2 hlo (fun k hk => (h.row.lt k hk).1)
    refine ⟨v', w', hr, ⟨by rw [catN_cat2]; exact r1, fun i hi => ?_⟩, r2, hb⟩
    by_cases c1 : i < n
    · rw [cat2_lt x y c1, cat2_lt ce cy c1]
      exact E.rd_below (h.each i c1) hb hhi
    · obtain ⟨k, rfl⟩ : ∃ k, i = n + k := ⟨i - n, by omega⟩
      rw [cat2_ge, cat2_ge]
      exact E.rd_below (hrd k (by omega)) hb hhi
  by_cases hm : m = 0
  · subst hm
    cases ao with
    | some ad => exact big ad rfl (fun j u hj => by rw [catN_zero] at hj; simp at hj)
    | none =>
      refine ⟨v, W, run_append_none' W lo T ty e i0 E.sz hu hi0 v n c _ h.row, ⟨by rw [catN_cat2, catN_zero, List.append_nil]; exact h.row, fun i hi => ?_⟩, ⟨rfl, rfl, rfl, Nat.le_refl _, fun _ _ _ => rfl⟩, Below.refl _ _⟩
      have hi' : i < n := by omega
      rw [cat2_lt x y hi', cat2_lt ce cy hi']
      exact h.each i hi'
  · obtain ⟨b, off, rfl, hcc⟩ := hcell hm
    refine big _ rfl (fun j u hj => ?_)
    have hj' : j < m * E.sz := by rw [← hlen]; exact (List.getElem?_eq_some_iff.1 hj).1
    have e1 : j / E.sz < m := Nat.div_lt_of_lt_mul (by rw [Nat.mul_comm]; exact hj')
    have e2 : j % E.sz < E.sz := Nat.mod_lt _ hz
    have e3 : j / E.sz * E.sz + j % E.sz = j := by rw [Nat.mul_comm]; exact Nat.div_add_mod j E.sz
    rw [add_oo, ← e3, hcc _ e1 _ e2, ← catN_get (fun j hj => E.rd_len (hrd j hj)) e1 e2, e3]
    exact hj
end Go.Proofs.YtngofdoojoaekaaGreat

namespace Go.Proofs.YtngofdoojoaekaaGreat
open Go.RowKit F256
set_option linter.unusedVariables false
set_option linter.unusedSimpArgs false
/-- how many of the first n drives are wiped -/
def wipedN (x : Nat → DriveD) : Nat → Nat
  | 0 => 0
  | n + 1 => wipedN x n + (if (x n).wiped = true then 1 else 0)
theorem wipedN_le (x : Nat → DriveD) : ∀ n, wipedN x n ≤ n
  | 0 => Nat.le_refl _
  | n + 1 => by
    have := wipedN_le x n
    unfold wipedN
    split <;> omega
def DeadP (d : WorldD) (G : Nat) : Prop := d.shape 3 < (wipedN (d.groups.2 G).2 (d.groups.2 G).1 : Int)
set_option maxHeartbeats 8000000 in
set_option maxRecDepth 20000 in
theorem isDead_any (d : WorldD) (cs : List Value) (hi : Nat) (G : Nat) (w : World) (h : layWorld.rd w hi d cs) (hhi : hi ≤ w.heap.size) (hG : G < d.groups.1) :
    Calls Tryz.prog 29 #[.agg cs.toArray, .int .i64 (G : Int)] w (BoolP (DeadP d G) w) := by
  obtain ⟨ao1, cap1, ao2, cap2, ao3, cap3, rfl, g1, g2, g3, k0, k4, k5⟩ := World_rd h
  obtain ⟨_, _, e1, hm1, hc1⟩ := g1
  cases e1
  obtain ⟨b1, off1, he1, hb1, hel1⟩ := hc1 (by omega)
  subst he1
  obtain ⟨cg, hrg, hcg⟩ := hel1 G hG
  obtain ⟨ao9, cap9, rfl⟩ := sl_form hrg
  have c0 : w.cell? ⟨b1, off1 + G, none⟩ = some (.slice ao9 (d.groups.2 G).1 cap9) := by
    have := hcg 0 (by decide)
    have e : off1 + (G * (layDrive.slice 88).sz + 0) = off1 + G := by show off1 + (G * 1 + 0) = off1 + G; omega
    rw [e] at this
    exact this
  obtain ⟨_, _, e9, hm9, hc9⟩ := hrg
  cases e9
  unfold maxLen at hm9
  have i1 : (0 : Int) ≤ (G : Int) := by omega
  have i2 : (G : Int) < (d.groups.1 : Int) := by omega
  clear g2 g3 k0 k4 k5 hcg hel1 hc1 hm1
  have T0 := one_new w #[.int .i64 (d.shape 0), .int .i64 (d.shape 1), .int .i64 (d.shape 2), .int .i64 (d.shape 3), .int .i64 (d.shape 4), .int .i64 (d.shape 5), .int .i64 (d.shape 6), .int .i64 (d.shape 7), .int .i64 (d.shape 8), .slice (some ⟨b1, off1, none⟩) d.groups.1 cap1, .slice ao2 d.on.1 cap2, .slice ao3 d.tapes.1 cap3, .int .i64 d.writes, .int .i64 d.stop, .bool d.down] 38
  have x9 := T0.b1.cell 9
  have c0' := (T0.bel.cell (p := ⟨b1, off1 + G, none⟩) (by show b1 < w.heap.size; omega)).trans c0
  go_enter Tryz.func29, Tryz.ntmps29
  go_wp2
  go_loopw [5, 14] (fun v i wr => ∃ k : Nat, k ≤ (d.groups.2 G).1 ∧ i = .int .i64 k ∧ v = .int .i64 (wipedN (d.groups.2 G).2 k : Int) ∧ One w wr #[.int .i64 (d.shape 0), .int .i64 (d.shape 1), .int .i64 (d.shape 2), .int .i64 (d.shape 3), .int .i64 (d.shape 4), .int .i64 (d.shape 5), .int .i64 (d.shape 6), .int .i64 (d.shape 7), .int .i64 (d.shape 8), .slice (some ⟨b1, off1, none⟩) d.groups.1 cap1, .slice ao2 d.on.1 cap2, .slice ao3 d.tapes.1 cap3, .int .i64 d.writes, .int .i64 d.stop, .bool d.down] 38) (fun _ i _ => (d.groups.2 G).1 - (intOf i).toNat)
  case atStart => exact ⟨0, Nat.zero_le _, rfl, rfl, T0⟩
  case round =>
    clear T0 x9 c0'
    obtain ⟨k, hk, rfl, rfl, T⟩ := hrel
    have HT : Hid (One w wr #[.int .i64 (d.shape 0), .int .i64 (d.shape 1), .int .i64 (d.shape 2), .int .i64 (d.shape 3), .int .i64 (d.shape 4), .int .i64 (d.shape 5), .int .i64 (d.shape 6), .int .i64 (d.shape 7), .int .i64 (d.shape 8), .slice (some ⟨b1, off1, none⟩) d.groups.1 cap1, .slice ao2 d.on.1 cap2, .slice ao3 d.tapes.1 cap3, .int .i64 d.writes, .int .i64 d.stop, .bool d.down] 38) := T
    have x3 : wr.cell? ⟨w.heap.size, 3, none⟩ = some (.int .i64 (d.shape 3)) := T.b1.cell 3
    have hwk := wipedN_le (d.groups.2 G).2 k
    by_cases hlt : k < (d.groups.2 G).1
    · have t1 : (k : Int) < ((d.groups.2 G).1 : Int) := by omega
      obtain ⟨b, off, rfl, hblt, hcell⟩ := hc9 (by omega)
      obtain ⟨cd, hrd, hcd⟩ := hcell k hlt
      obtain ⟨ao5, cap5, rfl, g5⟩ := Drive_rd hrd
      have c2 : wr.cell? ⟨b, off + k * 2, none⟩ = some (.bool ((d.groups.2 G).2 k).wiped) := (T.bel.cell (p := ⟨b, off + k * 2, none⟩) (by show b < w.heap.size; omega)).trans (hcd 0 (by decide))
      have c3 : wr.cell? ⟨b, off + k * 2 + 1, none⟩ = some (.slice ao5 ((d.groups.2 G).2 k).blocks.1 cap5) := (T.bel.cell (p := ⟨b, off + k * 2 + 1, none⟩) (by show b < w.heap.size; omega)).trans (hcd 1 (by decide))
      obtain ⟨D, hD⟩ : ∃ D, D = (d.groups.2 G).2 k := ⟨_, rfl⟩
      have HD : Hid (D = (d.groups.2 G).2 k) := hD
      rw [← hD] at c2 c3
      obtain ⟨m, hm⟩ : ∃ m, m = wipedN (d.groups.2 G).2 k := ⟨_, rfl⟩
      have HM : Hid (m = wipedN (d.groups.2 G).2 k) := hm
      rw [← hm] at hwk ⊢
      have HT9 : Hid (One w (wr.alloc (.cells #[.bool D.wiped, .slice ao5 D.blocks.1 cap5] 88)) #[.int .i64 (d.shape 0), .int .i64 (d.shape 1), .int .i64 (d.shape 2), .int .i64 (d.shape 3), .int .i64 (d.shape 4), .int .i64 (d.shape 5), .int .i64 (d.shape 6), .int .i64 (d.shape 7), .int .i64 (d.shape 8), .slice (some ⟨b1, off1, none⟩) d.groups.1 cap1, .slice ao2 d.on.1 cap2, .slice ao3 d.tapes.1 cap3, .int .i64 d.writes, .int .i64 d.stop, .bool d.down] 38) := HT.out.call ((Below.refl _ _).alloc (Nat.le_refl _) _)
      clear hc9 hcell hcd hrd g5 T hD hm x3
      cases hw : D.wiped with
      | true =>
        rw [hw] at c2 HT9
        have HW : Hid (D.wiped = true) := hw
        have zz : IntKind.i64.wrap ((m : Int) + 1) = (m : Int) + 1 := by rw [IntKind.wrap_i64]; omega
        clear hw
        go_wp2
        go_roundw
        case rel => exact ⟨k + 1, by omega, by go_num, by
          have e : wipedN (d.groups.2 G).2 (k + 1) = m + 1 := by
            show wipedN (d.groups.2 G).2 k + (if ((d.groups.2 G).2 k).wiped = true then 1 else 0) = m + 1
            rw [← HD.out, if_pos HW.out, ← HM.out]
          rw [e]; go_num, HT9.out⟩
        case measure => simp [intOf]; omega
      | false =>
        rw [hw] at c2 HT9
        have HW : Hid (D.wiped = false) := hw
        clear hw
        go_wp2
        go_roundw
        case rel => exact ⟨k + 1, by omega, by go_num, by
          have e : wipedN (d.groups.2 G).2 (k + 1) = m := by
            show wipedN (d.groups.2 G).2 k + (if ((d.groups.2 G).2 k).wiped = true then 1 else 0) = m
            rw [← HD.out, if_neg (by rw [HW.out]; decide), ← HM.out]; rfl
          rw [e], HT9.out⟩
        case measure => simp [intOf]; omega
    · obtain rfl : k = (d.groups.2 G).1 := by omega
      clear hlt T hc9
      by_cases hd : d.shape 3 < (wipedN (d.groups.2 G).2 (d.groups.2 G).1 : Int)
      · have HD : Hid (DeadP d G) := hd
        have dd : decide (d.shape 3 < (wipedN (d.groups.2 G).2 (d.groups.2 G).1 : Int)) = true := decide_eq_true hd
        clear hd
        go_wp2
        go_ret
        exact boolYes rfl HD.out HT.out.bel
      · have HD : Hid (¬ DeadP d G) := hd
        have dd : decide (d.shape 3 < (wipedN (d.groups.2 G).2 (d.groups.2 G).1 : Int)) = false := decide_eq_false hd
        clear hd
        go_wp2
        go_ret
        exact boolNo rfl HD.out HT.out.bel
end Go.Proofs.YtngofdoojoaekaaGreat

namespace Go.Proofs.YtngofdoojoaekaaGreat
open Go.RowKit F256
set_option linter.unusedVariables false
set_option linter.unusedSimpArgs false

set_option maxHeartbeats 1000000 in
theorem index_any (v : Value) (n : Nat) (g : Nat → Int) (hi : Nat) (x : Int) (w : World) (r : RdI w hi v n g) :
    Calls Tryz.prog 129 #[v, .int .i64 x] w fun e w' => ∃ z : Int, e = .returned (.int .i64 z) ∧ (0 ≤ z ↔ ∃ t, t < n ∧ g t = x) ∧ w' = w := by
  obtain ⟨ao, cap, rfl, hm, hc⟩ := r
  unfold maxLen at hm
  go_enter Tryz.func129, Tryz.ntmps129
  go_wp2
  go_loop [8] (fun i => ∃ k : Nat, k ≤ n ∧ i = .int .i64 k ∧ ∀ i, i < k → g i ≠ x) (fun i => n - (intOf i).toNat)
  case atStart => exact ⟨0, Nat.zero_le _, rfl, fun i hi => by omega⟩
  case round =>
    obtain ⟨k, hk, rfl, hall⟩ := hrel
    have HALL : Hid (∀ i, i < k → g i ≠ x) := hall
    clear hall
    by_cases hlt : k < n
    · obtain ⟨b, off, rfl, hblt, hcell⟩ := hc (by omega)
      have hck : w.cell? ⟨b, off + k, none⟩ = some (.int .i64 (g k)) := hcell k hlt
      obtain ⟨y, hy⟩ : ∃ y, y = g k := ⟨_, rfl⟩
      have HY : Hid (y = g k) := hy
      rw [← hy] at hck
      clear hc hcell hy
      by_cases heq : x = y
      · have HP : Hid (0 ≤ (k : Int) ↔ ∃ t, t < n ∧ g t = x) := ⟨fun _ => ⟨k, hlt, by rw [← HY.out, heq]⟩, fun _ => by omega⟩
        have te : (x == y) = true := by simp [heq]
        clear heq
        go_wp2
        go_ret
        exact ⟨_, rfl, HP.out, rfl⟩
      · have te : (x == y) = false := by simp [heq]
        have HN : Hid (g k ≠ x) := by show g k ≠ x; rw [← HY.out]; exact fun h => heq h.symm
        clear heq
        go_wp2
        go_round
        case rel => exact ⟨k + 1, by omega, by go_num, fun i hi => by
                      by_cases c : i = k
                      · rw [c]; exact HN.out
                      · exact HALL.out i (by omega)⟩
        case measure => simp [intOf]; omega
    · obtain rfl : k = n := by omega
      have HP : Hid (0 ≤ (-1 : Int) ↔ ∃ t, t < k ∧ g t = x) := ⟨fun h => by omega, fun ⟨t, ht, he⟩ => absurd he (HALL.out t ht)⟩
      clear hc
      go_wp2
      go_ret
      exact ⟨-1, rfl, HP.out, rfl⟩

theorem contains_any (v : Value) (n : Nat) (g : Nat → Int) (hi : Nat) (x : Int) (w : World) (r : RdI w hi v n g) :
    Calls Tryz.prog 107 #[v, .int .i64 x] w (BoolP (∃ t, t < n ∧ g t = x) w) := by
  have C := index_any v n g hi x w r
  obtain ⟨ao, cap, rfl, hm, hc⟩ := r
  clear hc hm
  have HI : Hid (Calls Tryz.prog 129 #[.slice ao n cap, .int .i64 x] w fun e w' => ∃ z : Int, e = .returned (.int .i64 z) ∧ (0 ≤ z ↔ ∃ t, t < n ∧ g t = x) ∧ w' = w) := C
  clear C
  obtain ⟨P, hP⟩ : ∃ P : Prop, P = ∃ t, t < n ∧ g t = x := ⟨_, rfl⟩
  rw [← hP] at HI ⊢
  clear hP
  go_enter Tryz.func107, Tryz.ntmps107
  go_wp2_with fail
  refine HI.out.mono ?_
  rintro e w1 ⟨z, rfl, hz, hw1⟩
  obtain rfl := hw1.symm
  have HZ : Hid (0 ≤ z ↔ P) := hz
  clear hz HI
  by_cases h0 : 0 ≤ z
  · have HP : Hid P := HZ.out.mp h0
    go_wp2
    go_ret
    exact boolYes rfl HP.out (Below.refl _ _)
  · have HP : Hid (¬ P) := fun h => h0 (HZ.out.mpr h)
    have td : decide (0 ≤ z) = false := by simp; omega
    clear h0
    go_wp2
    go_ret
    exact boolNo rfl HP.out (Below.refl _ _)
end Go.Proofs.YtngofdoojoaekaaGreat

namespace Go.Proofs.YtngofdoojoaekaaGreat
open Go.RowKit

theorem Box.allocd {w : World} {b : Nat} {cs : Array Value} {t : TypeId} (h : Box w b cs t) (o : Obj) : Box (w.alloc o) b cs t := (Below.heap_alloc w o b h.lt).trans h
end Go.Proofs.YtngofdoojoaekaaGreat
