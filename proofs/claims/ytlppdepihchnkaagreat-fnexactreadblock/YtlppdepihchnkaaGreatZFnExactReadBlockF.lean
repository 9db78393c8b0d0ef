/- Walks of the specification's WorldFault where the form of a world has a fault. -/
import Derived.Test.YtlppdepihchnkaaGreatZFnExactReadBlockE
import Derived.Laws.Tables
import Derived.Laws.Rows
import Derived.Deep.Cut
import Derived.Deep.DeepCutAuto
namespace Go.Proofs.YtlppdepihchnkaaGreat
open Go.RowKit F256
set_option linter.unusedVariables false
section
variable {α : Type} {E : Lay α} {t : TypeId} {w w1 : World} {lo g cap n k : Nat} {x : Nat → α} {ce : Nat → List Value} {Ls : Nat → List Nat}
/-- a store into an element that is not laid yet -/
theorem SlP.poke (h : SlP E t w lo g cap n k x ce Ls) {i j : Nat} (hk : k ≤ i) (hi : i < n) (hj : j < E.sz) (u : Value) : SlP E t (w.setCell ⟨g, i * E.sz + j, none⟩ u) lo g cap n k x (upd ce i ((ce i).set j u)) Ls := by
  refine ⟨?_, fun m hm => ?_, fun m hm => ?_, h.nd, h.low⟩
  · have := (h.row.stored (i * E.sz + j) u).1
    rw [catN_set h.lens hi hj] at this
    exact this
  · by_cases c : m = i
    · subst c; rw [upd_at, List.length_set]; exact h.lens m hm
    · rw [upd_ne ce _ c]; exact h.lens m hm
  · rw [upd_ne ce _ (by omega)]
    exact E.own_kept (h.each m hm) (fun b hb => heap_setCell_other w _ b u (fun hh => (List.nodup_cons.1 h.nd).1 (by rw [← show b = g from hh]; exact mem_catN.2 ⟨m, hm, hb⟩)))
/-- the element k is laid now; w1: a world in which the others were there and none of its blocks -/
theorem SlP.count {x1 : Nat → α} {ce1 : Nat → List Value} (h1 : SlP E t w1 lo g cap n k x1 ce1 Ls) (h : SlP E t w lo g cap n k x ce Ls) {a : α} {K : List Nat} (ha : E.own w a (ce k) K) (hnd : K.Nodup) (hK : ∀ b, b ∈ K → w1.heap.size ≤ b) (hlo : lo ≤ w1.heap.size) :
    SlP E t w lo g cap n (k + 1) (upd x k a) ce (upd Ls k K) := by
  have eL : catN (k + 1) (upd Ls k K) = catN k Ls ++ K := by
    rw [catN_succ, upd_at, catN_congr (g := Ls) (fun i hi => upd_ne Ls K (by omega))]
  refine ⟨h.row, h.lens, fun i hi => ?_, ?_, ?_⟩
  · by_cases c : i = k
    · subst c; rw [upd_at, upd_at]; exact ha
    · rw [upd_ne x a c, upd_ne Ls K c]; exact h.each i (by omega)
  · rw [eL]
    refine List.nodup_cons.2 ⟨fun hb => ?_, List.nodup_append.2 ⟨(List.nodup_cons.1 h.nd).2, hnd, fun b hb c hc hh => ?_⟩⟩
    · rcases List.mem_append.1 hb with h3 | h3
      · exact (List.nodup_cons.1 h.nd).1 h3
      · have := hK g h3; have := h1.lt; omega
    · subst hh
      have k1 := h1.mem_lt b hb
      have k2 := hK b hc
      omega
  · rw [eL]
    intro b hb
    rcases List.mem_append.1 hb with h3 | h3
    · exact h.low b h3
    · have := hK b h3; omega
/-- a store into the element k, which lays it -/
theorem SlP.fill (h1 : SlP E t w1 lo g cap n k x ce Ls) (hb : Below w1.heap.size w1 w) (hk : k < n) {j : Nat} (hj : j < E.sz) (u : Value) {a : α} {cs : List Value} (hcs : (ce k).set j u = cs) (ha : OwnT E w w1.heap.size w.heap.size a cs) (hlo : lo ≤ w1.heap.size) :
    ∃ ce' Ls', SlP E t (w.setCell ⟨g, k * E.sz + j, none⟩ u) lo g cap n (k + 1) (upd x k a) ce' Ls' ∧ ∀ i, k < i → ce' i = ce i := by
  subst hcs
  obtain ⟨K, a1, a2, a3⟩ := ha
  have hg := h1.lt
  refine ⟨_, _, h1.count ((h1.below hb).poke (Nat.le_refl k) hk hj u) (K := K) ?_ a2 (fun b hb => (a3 b hb).1) hlo, fun i hi => upd_ne ce _ (by omega)⟩
  rw [upd_at]
  exact E.own_kept a1 (fun b hb => heap_setCell_other w _ b u (fun hh => by have := (a3 b hb).1; have h5 : b = g := hh; omega))
theorem SlP.congr {y : Nat → α} (h : SlP E t w lo g cap n k x ce Ls) (hy : ∀ i, i < k → x i = y i) : SlP E t w lo g cap n k y ce Ls := ⟨h.row, h.lens, fun i hi => by rw [← hy i hi]; exact h.each i hi, h.nd, h.low⟩
/-- all elements zero and without memory -/
theorem SlP.zero {zs : List Value} {a : α} (h : SlP E t w lo g cap n 0 x (fun _ => zs) Ls) (hz : E.own w a zs []) (hg : lo ≤ g) : OwnT (E.slice t) w lo w.heap.size (n, fun _ => a) [.slice (Option.some ⟨g, 0, none⟩) n cap] := by
  have e : ∀ m, catN m (fun _ => ([] : List Nat)) = [] := fun m => by
    induction m with
    | zero => rfl
    | succ m ih => rw [catN_succ, ih]; rfl
  have h2 : SlP E t w lo g cap n n (fun _ => a) (fun _ => zs) (fun _ => []) := ⟨h.row, h.lens, fun i _ => hz, by rw [e]; simp, fun b hb => by rw [e] at hb; cases hb⟩
  exact h2.done hg
end
/-- make([]E, n), as it runs -/
theorem run_makeT {α : Type} {E : Lay α} {T e : TypeId} {by_ : Nat} {zs : List Value} (I : ElInfo E T e by_ zs) (x : Nat → α) (Ls : Nat → List Nat) (w : World) (n : Nat) (hn : n ≤ 10000000) :
    ∃ w', (Instr.makeSlice T (.int .i64 (n : Int)) (.int .i64 (n : Int))).run Tryz.prog w = .ok (.slice (some ⟨w.heap.size, 0, none⟩) n n) w' ∧ SlP E e w' w.heap.size w.heap.size n n 0 x (fun _ => zs) Ls ∧ Below w.heap.size w w' := by
  obtain ⟨hs, hzs, hu, hi, few⟩ := I
  obtain ⟨i0, hi0⟩ : ∃ i0, Tryz.prog.info? e = some i0 := by
    cases h : Tryz.prog.info? e with
    | none => rw [h] at hi; cases hi
    | some i0 => exact ⟨i0, rfl⟩
  rw [hi0] at hi
  simp only [Option.map_some, Option.some.injEq, Prod.mk.injEq] at hi
  obtain ⟨h1, h2, h3⟩ := hi
  obtain ⟨z, hz, hzc⟩ : ∃ z, i0.zero = some z ∧ z.cells = zs.toArray := by
    cases h : i0.zero with
    | none => rw [h] at h1; cases h1
    | some z => rw [h] at h1; exact ⟨z, rfl, by simpa using h1⟩
  obtain ⟨w', hrun, hown, hgrow⟩ := run_make_full (P := Tryz.prog) w w.heap.size T e i0 z E.sz hu hi0 hz h2 .i64 .i64 n (by
    rw [h3]
    have : by_ * n ≤ 1000 * 10000000 := Nat.mul_le_mul few hn
    omega) (by unfold maxLen; omega) (Nat.le_refl _)
  rw [hzc, ← hzs, catN_made zs (by omega)] at hown
  rw [hzs] at hown
  exact ⟨w', hrun, ⟨hown, fun _ _ => hzs, fun i hi => by omega, by simp [catN_zero], fun b hb => by rw [catN_zero] at hb; cases hb⟩, below_of_grown hgrow⟩
end Go.Proofs.YtlppdepihchnkaaGreat

namespace Go.Proofs.YtlppdepihchnkaaGreat
open Go.RowKit F256
set_option linter.unusedVariables false
def noRec : RecD := ⟨0, 0, ByteArray.empty, 0, 0, 0, (0, fun _ => 0), (0, fun _ => 0), (0, fun _ => 0)⟩
def zeroT : TapeD := ⟨false, (0, fun _ => noRec)⟩
def zeroW : WorldD := ⟨fun _ => 0, (0, fun _ => (0, fun _ => freshD 0)), (0, fun _ => 0), (0, fun _ => zeroT), 0, 0, false⟩
def newW (s : Nat → Int) : WorldD := ⟨s, ((s 0 + s 1).toNat, fun _ => ((s 2 + s 3).toNat, fun _ => freshD (s 4).toNat)), (0, fun _ => 0), (2, fun _ => zeroT), 0, -1, false⟩
def NewAns (s : Nat → Int) (d : WorldResultD) : Prop := (¬ OkShape s ∧ d = ⟨3, zeroW⟩) ∨ (OkShape s ∧ d = ⟨0, newW s⟩)
theorem NewAns.one {s : Nat → Int} {d e : WorldResultD} (h : NewAns s d) (k : NewAns s e) : d = e := by
  rcases h with ⟨h1, h2⟩ | ⟨h1, h2⟩ <;> rcases k with ⟨k1, k2⟩ | ⟨k1, k2⟩
  · rw [h2, k2]
  · exact absurd k1 h1
  · exact absurd h1 k1
  · rw [h2, k2]
theorem new_ex (s : Nat → Int) : ∃ d, NewAns s d := by
  by_cases h : OkShape s
  · exact ⟨_, .inr ⟨h, rfl⟩⟩
  · exact ⟨_, .inl ⟨h, rfl⟩⟩
/-- a world's result is told: memory of its own -/
def ResPost (P : WorldResultD → Prop) (w : World) (e : Ending) (w' : World) : Prop := ∃ d cs, e = .returned (.agg cs.toArray) ∧ P d ∧ OwnT layWorldResult w' w.heap.size w'.heap.size d cs ∧ Below w.heap.size w w'
theorem el_Tape : ElInfo layTape 28 96 32 [.bool false, .slice none 0 0] := ⟨by decide, rfl, Tryz.underlying28, by kernel_rfl, by decide⟩
theorem own_noInts (w : World) (f : Nat → Int) (h : ∀ i, -9223372036854775808 ≤ f i ∧ f i ≤ 9223372036854775807) : layInts.own w (0, f) [.slice none 0 0] [] := ⟨_, rfl, rfl, ⟨⟨rfl, .inl ⟨rfl, rfl⟩⟩, fun k hk => by cases hk⟩, h⟩
theorem own_noSl {α : Type} {E : Lay α} {t : TypeId} (w : World) (x : Nat → α) : (E.slice t).own w (0, x) [.slice none 0 0] [] := ⟨_, fun _ => [], fun _ => [], rfl, rfl, World.ownsRow_nil w 0 t E.sz, fun i hi => by omega⟩
theorem own_zeroT (w : World) : layTape.own w zeroT [.bool false, .slice none 0 0] [] := ⟨_, _, [], [], rfl, rfl, ⟨rfl, trivial, rfl⟩, own_noSl w _⟩
theorem own_zeroW (w : World) : layWorld.own w zeroW [.int .i64 0, .int .i64 0, .int .i64 0, .int .i64 0, .int .i64 0, .int .i64 0, .int .i64 0, .int .i64 0, .int .i64 0, .slice none 0 0, .slice none 0 0, .slice none 0 0, .int .i64 0, .int .i64 0, .bool false] [] := by
  have h := World_mk (w := w) zeroW (ao1 := none) (ao2 := none) (ao3 := none) (cap1 := 0) (cap2 := 0) (cap3 := 0) (own_noSl w _) (own_noInts w _ (fun _ => by decide)) (own_noSl w _) (fun i => show (-9223372036854775808 : Int) ≤ 0 ∧ (0 : Int) ≤ 9223372036854775807 by decide) (show (-9223372036854775808 : Int) ≤ 0 ∧ (0 : Int) ≤ 9223372036854775807 by decide) (show (-9223372036854775808 : Int) ≤ 0 ∧ (0 : Int) ≤ 9223372036854775807 by decide)
  exact h
theorem own_resOf {w : World} {lo hi : Nat} {d : WorldD} {cs : List Value} (c : Int) (hc : -9223372036854775808 ≤ c ∧ c ≤ 9223372036854775807) (h : OwnT layWorld w lo hi d cs) : OwnT layWorldResult w lo hi ⟨c, d⟩ (.int .i64 c :: cs) :=
  OwnT.conv (OwnT.pre (A := layI) (a := c) (c := [.int .i64 c]) ⟨rfl, hc, rfl⟩ h)
theorem own_resCode (w : World) (c : Int) (hc : -9223372036854775808 ≤ c ∧ c ≤ 9223372036854775807) (lo hi : Nat) : OwnT layWorldResult w lo hi ⟨c, zeroW⟩ (.int .i64 c :: [.int .i64 0, .int .i64 0, .int .i64 0, .int .i64 0, .int .i64 0, .int .i64 0, .int .i64 0, .int .i64 0, .int .i64 0, .slice none 0 0, .slice none 0 0, .slice none 0 0, .int .i64 0, .int .i64 0, .bool false]) := own_resOf c hc (OwnT.nil (own_zeroW w) lo hi)
theorem Box.chgl {w w' : World} {b : Nat} {cs : Array Value} {t : TypeId} {K : List Nat} (h : Box w b cs t) (hc : ChgL K w w') (hb : b ∉ K) : Box w' b cs t := (hc.block b h.lt hb).trans h
theorem ChgL.bel {K : List Nat} {w w' : World} {B : Nat} (hc : ChgL K w w') (hK : ∀ b, b ∈ K → B ≤ b) (hB : B ≤ w.heap.size) : Below B w w' := ⟨hc.os, hc.tape, hc.output, hc.size, fun k hk => hc.block k (by omega) (fun h => by have := hK k h; omega)⟩
theorem ChgL.after {K : List Nat} {a b c : World} (h : ChgL K a b) (k : Below a.heap.size b c) : ChgL K a c := ⟨k.os.trans h.os, k.tape.trans h.tape, k.output.trans h.output, Nat.le_trans h.size k.size, fun i hi hn => (k.block i hi).trans (h.block i hi hn)⟩
theorem Two.chgl {w wc w' : World} {c1 c2 : Array Value} {t1 t2 : TypeId} {P : Nat} (h : Two w wc c1 c2 t1 t2) (hc : ChgL [P] wc w') (hP : w.heap.size + 1 < P) : Two w w' c1 c2 t1 t2 :=
  ⟨h.b1.chgl hc (by simp; omega), h.b2.chgl hc (by simp; omega), h.bel.trans (hc.bel (fun b hb => by simp at hb; omega) h.bel.size)⟩
theorem own_st {α : Type} {A : Lay α} {w : World} {a : α} {cs : List Value} {K : List Nat} {g off : Nat} {l : List Value} (h : A.own w a cs K) (hg : g ∉ K) : A.own (Go.Proofs.YtlppdepihchnkaaGreat.stN w g off l) a cs K := A.own_kept h (fun b hb => stN_heap g b (fun hh => hg (by rw [← hh]; exact hb)) l w off)
theorem OwnT.finb {α : Type} {A : Lay α} {w : World} {lo b : Nat} {a : α} {cs : List Value} (h : OwnT A w lo w.heap.size a cs) (hb : b < lo) {lo' : Nat} (hl : lo' ≤ lo) (o : Nat) (l : List Value) (w' : World) (e : w' = Go.Proofs.YtlppdepihchnkaaGreat.stN w b o l) : OwnT A w' lo' w'.heap.size a cs := by
  subst e
  exact (h.stN b o l hb).weaken hl (by rw [stN_size]; exact Nat.le_refl _)
/-- a world's box and its two tapes, new -/
structure NewBx (cs : Array Value) (w1 wx : World) (P t : Nat) : Prop where
  box : Box wx P cs 30
  tp : (layTape.slice 96).own wx (2, fun _ => zeroT) [.slice (some ⟨t, 0, none⟩) 2 2] [t]
  p1 : w1.heap.size ≤ P
  t1 : w1.heap.size ≤ t
  ne : t ≠ P
  bel : Below w1.heap.size w1 wx
theorem tape_own {wx : World} {lo hi t : Nat} (h : OwnT (layTape.slice 96) wx lo hi (2, fun _ => zeroT) [.slice (some ⟨t, 0, none⟩) 2 2]) (hz : ∀ L, (layTape.slice 96).own wx (2, fun _ => zeroT) [.slice (some ⟨t, 0, none⟩) 2 2] L → L = [t]) : (layTape.slice 96).own wx (2, fun _ => zeroT) [.slice (some ⟨t, 0, none⟩) 2 2] [t] := by
  obtain ⟨L, h1, _⟩ := h
  have := hz L h1
  subst this
  exact h1
theorem SlP.two {w : World} {lo t cap : Nat} {x : Nat → TapeD} {Ls : Nat → List Nat} (h : SlP layTape 96 w lo t cap 2 0 x (fun _ => [.bool false, .slice none 0 0]) Ls) : (layTape.slice 96).own w (2, fun _ => zeroT) [.slice (Option.some ⟨t, 0, none⟩) 2 cap] [t] := by
  refine ⟨_, fun _ => [.bool false, .slice none 0 0], fun _ => [], rfl, rfl, ⟨h.row.1, ?_⟩, fun i _ => own_zeroT w⟩
  rcases h.row.2 with ⟨hn, _⟩ | ⟨g', cap', cur, he, hbg, rest⟩
  · cases hn
  · exact .inr ⟨g', cap', cur, he, Nat.zero_le _, rest⟩
end Go.Proofs.YtlppdepihchnkaaGreat

namespace Go.Proofs.YtlppdepihchnkaaGreat
open Go.RowKit F256
set_option linter.unusedVariables false
theorem mark_T {α : Type} {A : Lay α} {c : α → Nat} {mk : Nat → α → α} {fn : Nat} (hm : MkV A c mk fn) {w : World} {lo hi : Nat} {d : α} {cs : List Value} (h : OwnT A w lo hi d cs) (j : Nat) (hj : j + c d ≤ 100000000) :
    Calls Tryz.prog fn #[.agg cs.toArray, .int .i64 j] w fun e w' => e = .returned (.int .i64 ((j + c d : Nat) : Int)) ∧ OwnT A w' lo hi (mk j d) cs ∧ Chg lo hi w w' := by
  obtain ⟨L, h1, h2, h3⟩ := h
  exact (hm cs d L j w h1 h2 hj).mono fun e w' ⟨he, ho, hc⟩ => ⟨he, ⟨L, ho, h2, h3⟩, hc.chg h3⟩
theorem Chg.bel {lo hi B : Nat} {w w' : World} (h : Chg lo hi w w') (hl : B ≤ lo) (hB : B ≤ w.heap.size) : Below B w w' := ⟨h.os, h.tape, h.output, h.size, fun k hk => h.block k (by omega) (.inl (by omega))⟩
theorem sumN_mono2 {f g : Nat → Nat} : ∀ {n : Nat}, (∀ i, i < n → f i ≤ g i) → sumN f n ≤ sumN g n
  | 0, _ => Nat.le_refl _
  | n + 1, h => by
    rw [sumN_succ, sumN_succ]
    exact Nat.add_le_add (sumN_mono2 (fun i hi => h i (by omega))) (h n (by omega))
theorem sumN_const (c : Nat) : ∀ n : Nat, sumN (fun _ => c) n = n * c
  | 0 => by simp [sumN]
  | n + 1 => by rw [sumN_succ, sumN_const c n, Nat.succ_mul]
theorem sumN_plus (f : Nat → Nat) (c k : Nat) : ∀ n : Nat, sumN (fun i => c + k * f i) n = n * c + k * sumN f n
  | 0 => by simp [sumN]
  | n + 1 => by rw [sumN_succ, sumN_plus f c k n, sumN_succ, Nat.succ_mul, Nat.mul_add]; omega
/-- marks of a slice: at most k times its measure -/
theorem cSl_le {α : Type} {c s : α → Nat} {k : Nat} (h : ∀ a, c a ≤ k + k * s a) (p : Nat × (Nat → α)) : cSl c p ≤ k * szSl s p := by
  unfold cSl szSl
  have h1 : sumN (fun i => c (p.2 i)) p.1 ≤ sumN (fun i => k + k * s (p.2 i)) p.1 := sumN_mono2 (fun i _ => h (p.2 i))
  rw [sumN_plus (fun i => s (p.2 i)) k k p.1] at h1
  rw [Nat.mul_add]
  have : p.1 * k = k * p.1 := Nat.mul_comm _ _
  omega
theorem cBlock_le (d : BlockD) : cBlockD d ≤ 6 + 6 * szBlockD d := by unfold cBlockD szBlockD; omega
theorem cDrive_le (d : DriveD) : cDriveD d ≤ 6 + 6 * szDriveD d := by
  have := cSl_le (k := 6) cBlock_le d.blocks
  unfold cDriveD szDriveD
  omega
theorem cRec_le (d : RecD) : cRecD d ≤ 6 + 6 * szRecD d := by unfold cRecD szRecD; omega
theorem cTape_le (d : TapeD) : cTapeD d ≤ 6 + 6 * szTapeD d := by
  have := cSl_le (k := 6) cRec_le d.recs
  unfold cTapeD szTapeD
  omega
theorem cvWorld_le (d : WorldD) : cvWorldD d ≤ 6 * szWorldD d := by
  have h1 := cSl_le (c := cSl cDriveD) (s := szSl szDriveD) (k := 6) (fun p => Nat.le_trans (cSl_le (k := 6) cDrive_le p) (by omega)) d.groups
  have h3 := cSl_le (k := 6) cTape_le d.tapes
  unfold cvWorldD szWorldD
  omega
theorem szFresh (R : Nat) : szDriveD (freshD R) = R + R * 4 := by
  show R + sumN (fun _ => 4) R = _
  rw [sumN_const]
theorem szNew (s : Nat → Int) (h : OkShape s) : szWorldD (newW s) ≤ 10000 := by
  obtain ⟨h1, h2, h3, _⟩ := h
  unfold Shp3 at h1
  unfold Shp at h2
  obtain ⟨G, hG⟩ : ∃ G, (s 0 + s 1).toNat = G := ⟨_, rfl⟩
  obtain ⟨D, hD⟩ : ∃ D, (s 2 + s 3).toNat = D := ⟨_, rfl⟩
  obtain ⟨R, hR⟩ : ∃ R, (s 4).toNat = R := ⟨_, rfl⟩
  have e1 : szSl szDriveD (D, fun _ => freshD R) = D + D * (R + R * 4) := by
    show D + sumN (fun _ => szDriveD (freshD R)) D = _
    rw [sumN_const, szFresh]
  have e2 : szWorldD (newW s) = (G + G * (D + D * (R + R * 4))) + 0 + (2 + 2 * 0) := by
    unfold szWorldD newW
    simp only [hG, hD, hR]
    have a : szSl (szSl szDriveD) (G, fun _ => (D, fun _ => freshD R)) = G + G * (D + D * (R + R * 4)) := by
      show G + sumN (fun _ => szSl szDriveD (D, fun _ => freshD R)) G = _
      rw [sumN_const, e1]
    have b : szSl szTapeD (2, fun _ => zeroT) = 2 + 2 * 0 := by
      show 2 + sumN (fun _ => szTapeD zeroT) 2 = _
      rw [sumN_const]
      rfl
    rw [a, b]
    rfl
  rw [e2]
  have k1 : D * (R + R * 4) ≤ 6 * 30 := Nat.mul_le_mul (by omega) (by omega)
  have k2 : G * (D + D * (R + R * 4)) ≤ 6 * 186 := Nat.mul_le_mul (by omega) (by omega)
  omega
theorem cvNew (s : Nat → Int) {d : WorldResultD} (h : NewAns s d) : cvWorldResultD d ≤ 90000 := by
  rcases h with ⟨_, rfl⟩ | ⟨h, rfl⟩
  · show cvWorldD zeroW ≤ _
    have : cvWorldD zeroW = 0 := rfl
    omega
  · show cvWorldD (newW s) ≤ _
    have := cvWorld_le (newW s)
    have := szNew s h
    omega
end Go.Proofs.YtlppdepihchnkaaGreat

namespace Go.Proofs.YtlppdepihchnkaaGreat
open Go.RowKit F256
set_option linter.unusedVariables false
theorem OwnT.one {α : Type} {A : Lay α} {w : World} {lo hi : Nat} {a : α} {cs : List Value} (h : OwnT A w lo hi a cs) : ∀ v, v ∈ cs → v.oneCell' = true := by
  obtain ⟨L, h1, _⟩ := h
  exact fun v hv => A.own_one h1 v hv
theorem wp_allocStore {ops : Array Oper} {rest : List Oper} {o1 o2 : Oper} {a : Act} {w : World} {Q : Exit → Act → World → Prop} (T : TypeId) (k : Nat) (x : Operand) (cs : List Value) (zs : Array Value) (n : Nat)
    (hop1 : o1.op = Op.alloc T) (hop2 : o2.op = Op.store T (.tmp k) x) (hg1 : o1.guard = none) (hg2 : o2.guard = none) (hd1 : o1.dst = some k) (hd2 : o2.dst = none)
    (hp : (a.put (some k) (.pointer (some ⟨w.heap.size, 0, none⟩))).eval (.tmp k) = .pointer (some ⟨w.heap.size, 0, none⟩)) (hx : (a.put (some k) (.pointer (some ⟨w.heap.size, 0, none⟩))).eval x = .agg cs.toArray)
    (hi : (Tryz.prog.info? T).map (fun i => (i.zero.map (·.cells), i.size)) = some (some zs, n)) (hz : zs.size = n) (hl : cs.length = n) (h1 : ∀ v, v ∈ cs → v.oneCell' = true)
    (h : wpList Tryz.prog ops Q rest (a.put (some k) (.pointer (some ⟨w.heap.size, 0, none⟩))) (w.alloc (.cells cs.toArray T))) : wpList Tryz.prog ops Q (o1 :: o2 :: rest) a w := by
  obtain ⟨i0, hi0⟩ : ∃ i0, Tryz.prog.info? T = some i0 := by
    cases h : Tryz.prog.info? T with
    | none => rw [h] at hi; cases hi
    | some i0 => exact ⟨i0, rfl⟩
  rw [hi0] at hi
  simp only [Option.map_some, Option.some.injEq, Prod.mk.injEq] at hi
  obtain ⟨h2, h3⟩ := hi
  obtain ⟨z, hzz, hzc⟩ : ∃ z, i0.zero = some z ∧ z.cells = zs := by
    cases h : i0.zero with
    | none => rw [h] at h2; cases h2
    | some z => rw [h] at h2; exact ⟨z, rfl, by simpa using h2⟩
  have hr : (Instr.alloc T true (.tuple #[])).run Tryz.prog w = .ok (.pointer (some ⟨w.heap.size, 0, none⟩)) (w.alloc (.cells zs T)) := by
    simp [Instr.alloc, zeroValue, typeInfo, hi0, hzz, hzc, newVar, newRow]
  have hw : (w.alloc (.cells zs T)).setRow w.heap.size cs.toArray = w.alloc (.cells cs.toArray T) := by
    have hh : ((w.alloc (.cells zs T)).setRow w.heap.size cs.toArray).heap = w.heap.push (.cells cs.toArray T) := by
      apply Array.ext_getElem?
      intro i
      by_cases c : i = w.heap.size
      · subst c
        rw [setRow_heap (w.alloc (.cells zs T)) w.heap.size zs cs.toArray T (0, 0) (box_new w zs T), Array.getElem?_push, if_pos rfl]
      · rw [setRow_other _ _ _ _ c, Array.getElem?_push, if_neg c]
        show (w.heap.push _)[i]? = _
        rw [Array.getElem?_push, if_neg c]
    show ({ w with heap := ((w.alloc (.cells zs T)).setRow w.heap.size cs.toArray).heap } : World) = _
    rw [hh]
    rfl
  refine wpList_plain hg1 fun K hK => ?_
  unfold Oper.wp execOp
  simp only [hop1, Sem.run_bind, hr, Result.andThen_ok]
  refine hK _ _ ?_
  rw [hd1]
  refine wpList_store_row hg2 T (.tmp k) x hop2 w.heap.size cs.toArray hp hx T zs (box_new w zs T) (by rw [hi0]; simp [h3, hl]) (by simp [hz, hl]) (by simp; exact h1) ?_
  rw [hw, hd2]
  exact h
/-- a whole struct loaded -/
theorem wp_loadBox {ops : Array Oper} {rest : List Oper} {o : Oper} {a : Act} {w : World} {Q : Exit → Act → World → Prop} (T : TypeId) (x : Operand) (ho : o.op = .load T x) (hgd : o.guard = none) (b : Nat) (hx : a.eval x = .pointer (some ⟨b, 0, none⟩)) {cs : List Value} (hB : Box w b cs.toArray T) {fs : Array Field} (hu : Tryz.prog.underlying T = some (.struct fs)) {n : Nat} (hi : (Tryz.prog.info? T).map (·.size) = some n) (hl : cs.length = n)
    (h : wpList Tryz.prog ops Q rest (a.put o.dst (.agg cs.toArray)) w) : wpList Tryz.prog ops Q (o :: rest) a w :=
  wpList_load_row hgd T x ho b hx T cs.toArray (0, 0) (.struct fs) hB hu rfl (by rw [hi]; simp [hl]) h
theorem OwnT.len {α : Type} {A : Lay α} {w : World} {lo hi : Nat} {a : α} {cs : List Value} (h : OwnT A w lo hi a cs) : cs.length = A.sz := by
  obtain ⟨L, h1, _⟩ := h
  exact A.own_len h1
theorem size_WR : (Tryz.prog.info? 34).map (·.size) = some 16 := by kernel_rfl
theorem size_W : (Tryz.prog.info? 30).map (·.size) = some 15 := by kernel_rfl
theorem size_LW : (Tryz.prog.info? 55).map (·.size) = some 15 := by kernel_rfl
theorem size_LS : (Tryz.prog.info? 51).map (·.size) = some 9 := by kernel_rfl
theorem info_WR : (Tryz.prog.info? 34).map (fun i => (i.zero.map (·.cells), i.size)) = some (some #[.int .i64 0, .int .i64 0, .int .i64 0, .int .i64 0, .int .i64 0, .int .i64 0, .int .i64 0, .int .i64 0, .int .i64 0, .int .i64 0, .slice none 0 0, .slice none 0 0, .slice none 0 0, .int .i64 0, .int .i64 0, .bool false], 16) := by kernel_rfl
theorem info_W : (Tryz.prog.info? 30).map (fun i => (i.zero.map (·.cells), i.size)) = some (some #[.int .i64 0, .int .i64 0, .int .i64 0, .int .i64 0, .int .i64 0, .int .i64 0, .int .i64 0, .int .i64 0, .int .i64 0, .slice none 0 0, .slice none 0 0, .slice none 0 0, .int .i64 0, .int .i64 0, .bool false], 15) := by kernel_rfl
theorem info_BR : (Tryz.prog.info? 41).map (fun i => (i.zero.map (·.cells), i.size)) = some (some #[.int .i64 0, .int .i64 0, .slice none 0 0], 3) := by kernel_rfl
end Go.Proofs.YtlppdepihchnkaaGreat

namespace Go.Proofs.YtlppdepihchnkaaGreat
open Go.RowKit F256
set_option linter.unusedVariables false
set_option linter.unusedSimpArgs false

set_option maxHeartbeats 16000000 in
set_option maxRecDepth 20000 in
theorem l5Built_any (d : WorldD) (hs : OkShape d.shape) (cs : List Value) (hi : Nat) (w : World) (h : layWorld.rd w hi d cs) (hhi : hi ≤ w.heap.size) :
    Calls Tryz.prog 97 #[.agg cs.toArray] w (BoolP (BuiltP d) w) := by
  obtain ⟨ao1, cap1, ao2, cap2, ao3, cap3, rfl, g1, -⟩ := World_rd h
  clear h
  obtain ⟨_, _, e1, hm1, hc1⟩ := g1
  cases e1
  unfold maxLen at hm1
  have HC1 : Hid (d.groups.1 ≠ 0 → ∃ b off, ao1 = some ⟨b, off, none⟩ ∧ b < hi ∧ ∀ i, i < d.groups.1 → ∃ ce, (layDrive.slice 48).rd w hi (d.groups.2 i) ce ∧ ∀ j, j < (layDrive.slice 48).sz → w.cell? ⟨b, off + (i * (layDrive.slice 48).sz + j), none⟩ = ce[j]?) := hc1
  have HS : Hid (OkShape d.shape) := hs
  clear hc1 hs
  go_enter Tryz.func97, Tryz.ntmps97
  go_upto_region 2 with fail
  have T0 := two_newb w #[.int .i64 (d.shape 0), .int .i64 (d.shape 1), .int .i64 (d.shape 2), .int .i64 (d.shape 3), .int .i64 (d.shape 4), .int .i64 (d.shape 5), .int .i64 (d.shape 6), .int .i64 (d.shape 7), .int .i64 (d.shape 8), .slice ao1 d.groups.1 cap1, .slice ao2 d.on.1 cap2, .slice ao3 d.tapes.1 cap3, .int .i64 d.writes, .int .i64 d.stop, .bool d.down] #[.int .i64 (d.shape 0), .int .i64 (d.shape 1), .int .i64 (d.shape 2), .int .i64 (d.shape 3), .int .i64 (d.shape 4), .int .i64 (d.shape 5), .int .i64 (d.shape 6), .int .i64 (d.shape 7), .int .i64 (d.shape 8)] 30 25
  obtain ⟨W, hW⟩ : ∃ W, W = (w.alloc (.cells #[.int .i64 (d.shape 0), .int .i64 (d.shape 1), .int .i64 (d.shape 2), .int .i64 (d.shape 3), .int .i64 (d.shape 4), .int .i64 (d.shape 5), .int .i64 (d.shape 6), .int .i64 (d.shape 7), .int .i64 (d.shape 8), .slice ao1 d.groups.1 cap1, .slice ao2 d.on.1 cap2, .slice ao3 d.tapes.1 cap3, .int .i64 d.writes, .int .i64 d.stop, .bool d.down] 30)).alloc (.cells #[.int .i64 (d.shape 0), .int .i64 (d.shape 1), .int .i64 (d.shape 2), .int .i64 (d.shape 3), .int .i64 (d.shape 4), .int .i64 (d.shape 5), .int .i64 (d.shape 6), .int .i64 (d.shape 7), .int .i64 (d.shape 8)] 25) := ⟨_, rfl⟩
  rw [← hW] at T0 ⊢
  have HT : Hid (Two w W #[.int .i64 (d.shape 0), .int .i64 (d.shape 1), .int .i64 (d.shape 2), .int .i64 (d.shape 3), .int .i64 (d.shape 4), .int .i64 (d.shape 5), .int .i64 (d.shape 6), .int .i64 (d.shape 7), .int .i64 (d.shape 8), .slice ao1 d.groups.1 cap1, .slice ao2 d.on.1 cap2, .slice ao3 d.tapes.1 cap3, .int .i64 d.writes, .int .i64 d.stop, .bool d.down] #[.int .i64 (d.shape 0), .int .i64 (d.shape 1), .int .i64 (d.shape 2), .int .i64 (d.shape 3), .int .i64 (d.shape 4), .int .i64 (d.shape 5), .int .i64 (d.shape 6), .int .i64 (d.shape 7), .int .i64 (d.shape 8)] 30 25) := T0
  clear hW
  have x0_9 : W.cell? ⟨w.heap.size, 9, none⟩ = some (.slice ao1 d.groups.1 cap1) := T0.b1.cell 9
  have kx0_9 := cell_regrown x0_9
  have y0_0 : W.cell? ⟨w.heap.size + 1, 0, none⟩ = some (.int .i64 (d.shape 0)) := T0.b2.cell 0
  have ky0_0 := cell_regrown y0_0
  have y0_1 : W.cell? ⟨w.heap.size + 1, 1, none⟩ = some (.int .i64 (d.shape 1)) := T0.b2.cell 1
  have ky0_1 := cell_regrown y0_1
  have y0_2 : W.cell? ⟨w.heap.size + 1, 2, none⟩ = some (.int .i64 (d.shape 2)) := T0.b2.cell 2
  have ky0_2 := cell_regrown y0_2
  have y0_3 : W.cell? ⟨w.heap.size + 1, 3, none⟩ = some (.int .i64 (d.shape 3)) := T0.b2.cell 3
  have ky0_3 := cell_regrown y0_3
  have y0_4 : W.cell? ⟨w.heap.size + 1, 4, none⟩ = some (.int .i64 (d.shape 4)) := T0.b2.cell 4
  have ky0_4 := cell_regrown y0_4
  have y0_5 : W.cell? ⟨w.heap.size + 1, 5, none⟩ = some (.int .i64 (d.shape 5)) := T0.b2.cell 5
  have ky0_5 := cell_regrown y0_5
  have y0_6 : W.cell? ⟨w.heap.size + 1, 6, none⟩ = some (.int .i64 (d.shape 6)) := T0.b2.cell 6
  have ky0_6 := cell_regrown y0_6
  have y0_7 : W.cell? ⟨w.heap.size + 1, 7, none⟩ = some (.int .i64 (d.shape 7)) := T0.b2.cell 7
  have ky0_7 := cell_regrown y0_7
  have y0_8 : W.cell? ⟨w.heap.size + 1, 8, none⟩ = some (.int .i64 (d.shape 8)) := T0.b2.cell 8
  have ky0_8 := cell_regrown y0_8
  clear T0
  have cA := q_below (W := W) (fun w' _ => l5All_any d.shape HS.out w')
  unfold shapeV at cA
  by_cases hlen : (d.groups.1 : Int) = d.shape 0 + d.shape 1
  · have hne : ((d.groups.1 : Int) != d.shape 0 + d.shape 1) = false := by simpa using hlen
    have HLEN : Hid ((d.groups.1 : Int) = d.shape 0 + d.shape 1) := hlen
    clear hlen
    refine WQ.region (by kernel_rfl) (by kernel_rfl) ?_
    repeat (first | (apply WQ.skip; (case hw => rfl); intro K hK; go_simp; apply hK; clear hK K) | (apply WQ.want; (case hw => rfl); intro K hK; go_simp; first | (apply hK; clear hK K) | (apply Exists.intro; apply And.intro; (case left => intro p; (first | (go_at_call 70; exact cA _ _))); apply hK; clear hK K)))
    refine WQ.nil ?_
    intro w1 hw1
    have HT1 : Hid (Two w w1 #[.int .i64 (d.shape 0), .int .i64 (d.shape 1), .int .i64 (d.shape 2), .int .i64 (d.shape 3), .int .i64 (d.shape 4), .int .i64 (d.shape 5), .int .i64 (d.shape 6), .int .i64 (d.shape 7), .int .i64 (d.shape 8), .slice ao1 d.groups.1 cap1, .slice ao2 d.on.1 cap2, .slice ao3 d.tapes.1 cap3, .int .i64 d.writes, .int .i64 d.stop, .bool d.down] #[.int .i64 (d.shape 0), .int .i64 (d.shape 1), .int .i64 (d.shape 2), .int .i64 (d.shape 3), .int .i64 (d.shape 4), .int .i64 (d.shape 5), .int .i64 (d.shape 6), .int .i64 (d.shape 7), .int .i64 (d.shape 8)] 30 25) := HT.out.call (below_rg hw1)
    clear hw1 cA x0_9 kx0_9 y0_0 ky0_0 y0_1 ky0_1 y0_2 ky0_2 y0_3 ky0_3 y0_4 ky0_4 y0_5 ky0_5 y0_6 ky0_6 y0_7 ky0_7 y0_8 ky0_8
    go_wp2
    go_loopw [4] (fun i wr => ∃ k : Nat, k ≤ d.groups.1 ∧ i = .int .i64 k ∧ (∀ i, i < k → DrivesP d.shape (d.groups.2 i)) ∧ Two w wr #[.int .i64 (d.shape 0), .int .i64 (d.shape 1), .int .i64 (d.shape 2), .int .i64 (d.shape 3), .int .i64 (d.shape 4), .int .i64 (d.shape 5), .int .i64 (d.shape 6), .int .i64 (d.shape 7), .int .i64 (d.shape 8), .slice ao1 d.groups.1 cap1, .slice ao2 d.on.1 cap2, .slice ao3 d.tapes.1 cap3, .int .i64 d.writes, .int .i64 d.stop, .bool d.down] #[.int .i64 (d.shape 0), .int .i64 (d.shape 1), .int .i64 (d.shape 2), .int .i64 (d.shape 3), .int .i64 (d.shape 4), .int .i64 (d.shape 5), .int .i64 (d.shape 6), .int .i64 (d.shape 7), .int .i64 (d.shape 8)] 30 25) (fun i _ => d.groups.1 - (intOf i).toNat)
    case atStart => exact ⟨0, Nat.zero_le _, rfl, fun i hi => by omega, HT1.out⟩
    case round =>
      clear HT1
      obtain ⟨k, hk, rfl, hal, T2⟩ := hrel
      obtain ⟨wo, rfl⟩ : ∃ x, x = wr := ⟨_, rfl⟩
      have HAL : Hid (∀ i, i < k → DrivesP d.shape (d.groups.2 i)) := hal
      have HT2 : Hid (Two w wo #[.int .i64 (d.shape 0), .int .i64 (d.shape 1), .int .i64 (d.shape 2), .int .i64 (d.shape 3), .int .i64 (d.shape 4), .int .i64 (d.shape 5), .int .i64 (d.shape 6), .int .i64 (d.shape 7), .int .i64 (d.shape 8), .slice ao1 d.groups.1 cap1, .slice ao2 d.on.1 cap2, .slice ao3 d.tapes.1 cap3, .int .i64 d.writes, .int .i64 d.stop, .bool d.down] #[.int .i64 (d.shape 0), .int .i64 (d.shape 1), .int .i64 (d.shape 2), .int .i64 (d.shape 3), .int .i64 (d.shape 4), .int .i64 (d.shape 5), .int .i64 (d.shape 6), .int .i64 (d.shape 7), .int .i64 (d.shape 8)] 30 25) := T2
      clear hal
      have x2_9 : wo.cell? ⟨w.heap.size, 9, none⟩ = some (.slice ao1 d.groups.1 cap1) := T2.b1.cell 9
      have kx2_9 := cell_regrown x2_9
      have y2_0 : wo.cell? ⟨w.heap.size + 1, 0, none⟩ = some (.int .i64 (d.shape 0)) := T2.b2.cell 0
      have ky2_0 := cell_regrown y2_0
      have y2_1 : wo.cell? ⟨w.heap.size + 1, 1, none⟩ = some (.int .i64 (d.shape 1)) := T2.b2.cell 1
      have ky2_1 := cell_regrown y2_1
      have y2_2 : wo.cell? ⟨w.heap.size + 1, 2, none⟩ = some (.int .i64 (d.shape 2)) := T2.b2.cell 2
      have ky2_2 := cell_regrown y2_2
      have y2_3 : wo.cell? ⟨w.heap.size + 1, 3, none⟩ = some (.int .i64 (d.shape 3)) := T2.b2.cell 3
      have ky2_3 := cell_regrown y2_3
      have y2_4 : wo.cell? ⟨w.heap.size + 1, 4, none⟩ = some (.int .i64 (d.shape 4)) := T2.b2.cell 4
      have ky2_4 := cell_regrown y2_4
      have y2_5 : wo.cell? ⟨w.heap.size + 1, 5, none⟩ = some (.int .i64 (d.shape 5)) := T2.b2.cell 5
      have ky2_5 := cell_regrown y2_5
      have y2_6 : wo.cell? ⟨w.heap.size + 1, 6, none⟩ = some (.int .i64 (d.shape 6)) := T2.b2.cell 6
      have ky2_6 := cell_regrown y2_6
      have y2_7 : wo.cell? ⟨w.heap.size + 1, 7, none⟩ = some (.int .i64 (d.shape 7)) := T2.b2.cell 7
      have ky2_7 := cell_regrown y2_7
      have y2_8 : wo.cell? ⟨w.heap.size + 1, 8, none⟩ = some (.int .i64 (d.shape 8)) := T2.b2.cell 8
      have ky2_8 := cell_regrown y2_8
      by_cases hlt : k < d.groups.1
      · obtain ⟨b1, off1, he1, hb1, hel1⟩ := HC1.out (by omega)
        subst he1
        have HEL : Hid (∀ i, i < d.groups.1 → ∃ ce, (layDrive.slice 48).rd w hi (d.groups.2 i) ce ∧ ∀ j, j < (layDrive.slice 48).sz → w.cell? ⟨b1, off1 + (i * (layDrive.slice 48).sz + j), none⟩ = ce[j]?) := hel1
        obtain ⟨ck, hrk, hcell⟩ := elem_rd (t := 0) hel1 T2.bel hhi hb1 hlt
        obtain ⟨ao9, cap9, rfl⟩ := sl_form hrk
        have c0 : wo.cell? ⟨b1, off1 + k, none⟩ = some (.slice ao9 (d.groups.2 k).1 cap9) := by
          have h := hcell 0 (show 0 < 1 by decide)
          rw [show (layDrive.slice 48).sz = 1 from rfl, Nat.mul_one, Nat.add_zero] at h
          exact h
        have kc0 := cell_regrown c0
        obtain ⟨_, _, e9, hm9, hc9⟩ := hrk
        cases e9
        have HC9 : Hid ((d.groups.2 k).1 ≠ 0 → ∃ b off, ao9 = some ⟨b, off, none⟩ ∧ b < hi ∧ ∀ i, i < (d.groups.2 k).1 → ∃ ce, layDrive.rd wo hi ((d.groups.2 k).2 i) ce ∧ ∀ j, j < layDrive.sz → wo.cell? ⟨b, off + (i * layDrive.sz + j), none⟩ = ce[j]?) := hc9
        unfold maxLen at hm9
        have cD := q_below (W := wo) (fun w' _ => l5Drives_any d.shape HS.out w')
        unfold shapeV at cD
        have zw : w.heap.size + 1 < wo.heap.size := T2.b2.lt
        clear hcell hc9 hel1 T2
        by_cases hlen2 : ((d.groups.2 k).1 : Int) = d.shape 2 + d.shape 3
        · have hne2 : (((d.groups.2 k).1 : Int) != d.shape 2 + d.shape 3) = false := by simpa using hlen2
          have HL2 : Hid (((d.groups.2 k).1 : Int) = d.shape 2 + d.shape 3) := hlen2
          clear hlen2
          go_wp2
          refine WQ.region (by kernel_rfl) (by kernel_rfl) ?_
          repeat (first | (apply WQ.skip; (case hw => rfl); intro K hK; go_simp; apply hK; clear hK K) | (apply WQ.want; (case hw => rfl); intro K hK; go_simp; first | (apply hK; clear hK K) | (apply Exists.intro; apply And.intro; (case left => intro p; (first | (go_at_call 164; exact cD _ _))); apply hK; clear hK K)))
          refine WQ.nil ?_
          intro w3 hw3
          have HT3 : Hid (Two w w3 #[.int .i64 (d.shape 0), .int .i64 (d.shape 1), .int .i64 (d.shape 2), .int .i64 (d.shape 3), .int .i64 (d.shape 4), .int .i64 (d.shape 5), .int .i64 (d.shape 6), .int .i64 (d.shape 7), .int .i64 (d.shape 8), .slice (some ⟨b1, off1, none⟩) d.groups.1 cap1, .slice ao2 d.on.1 cap2, .slice ao3 d.tapes.1 cap3, .int .i64 d.writes, .int .i64 d.stop, .bool d.down] #[.int .i64 (d.shape 0), .int .i64 (d.shape 1), .int .i64 (d.shape 2), .int .i64 (d.shape 3), .int .i64 (d.shape 4), .int .i64 (d.shape 5), .int .i64 (d.shape 6), .int .i64 (d.shape 7), .int .i64 (d.shape 8)] 30 25) := HT2.out.call (below_rg hw3)
          have HB3 : Hid (Below wo.heap.size wo w3) := below_rg hw3
          have HC0 : Hid (wo.cell? ⟨b1, off1 + k, none⟩ = some (.slice ao9 (d.groups.2 k).1 cap9)) := c0
          clear hw3 cD c0 kc0 x2_9 kx2_9 y2_0 ky2_0 y2_1 ky2_1 y2_2 ky2_2 y2_3 ky2_3 y2_4 ky2_4 y2_5 ky2_5 y2_6 ky2_6 y2_7 ky2_7 y2_8 ky2_8
          go_wp2
          go_loopw [5] (fun i wx => ∃ q : Nat, q ≤ (d.groups.2 k).1 ∧ i = .int .i64 q ∧ (∀ i, i < q → BlocksP d.shape ((d.groups.2 k).2 i).blocks) ∧ Two w wx #[.int .i64 (d.shape 0), .int .i64 (d.shape 1), .int .i64 (d.shape 2), .int .i64 (d.shape 3), .int .i64 (d.shape 4), .int .i64 (d.shape 5), .int .i64 (d.shape 6), .int .i64 (d.shape 7), .int .i64 (d.shape 8), .slice (some ⟨b1, off1, none⟩) d.groups.1 cap1, .slice ao2 d.on.1 cap2, .slice ao3 d.tapes.1 cap3, .int .i64 d.writes, .int .i64 d.stop, .bool d.down] #[.int .i64 (d.shape 0), .int .i64 (d.shape 1), .int .i64 (d.shape 2), .int .i64 (d.shape 3), .int .i64 (d.shape 4), .int .i64 (d.shape 5), .int .i64 (d.shape 6), .int .i64 (d.shape 7), .int .i64 (d.shape 8)] 30 25 ∧ Below wo.heap.size wo wx) (fun i _ => (d.groups.2 k).1 - (intOf i).toNat)
          case atStart => exact ⟨0, Nat.zero_le _, rfl, fun i hi => by omega, HT3.out, HB3.out⟩
          case round =>
            clear HT3 HB3
            obtain ⟨q, hq, rfl, hal2, T4, hb4⟩ := hrel
            obtain ⟨wx, rfl⟩ : ∃ x, x = wr := ⟨_, rfl⟩
            have HAL2 : Hid (∀ i, i < q → BlocksP d.shape ((d.groups.2 k).2 i).blocks) := hal2
            have HT4 : Hid (Two w wx #[.int .i64 (d.shape 0), .int .i64 (d.shape 1), .int .i64 (d.shape 2), .int .i64 (d.shape 3), .int .i64 (d.shape 4), .int .i64 (d.shape 5), .int .i64 (d.shape 6), .int .i64 (d.shape 7), .int .i64 (d.shape 8), .slice (some ⟨b1, off1, none⟩) d.groups.1 cap1, .slice ao2 d.on.1 cap2, .slice ao3 d.tapes.1 cap3, .int .i64 d.writes, .int .i64 d.stop, .bool d.down] #[.int .i64 (d.shape 0), .int .i64 (d.shape 1), .int .i64 (d.shape 2), .int .i64 (d.shape 3), .int .i64 (d.shape 4), .int .i64 (d.shape 5), .int .i64 (d.shape 6), .int .i64 (d.shape 7), .int .i64 (d.shape 8)] 30 25) := T4
            have HB4 : Hid (Below wo.heap.size wo wx) := hb4
            clear hal2
            have x4_9 : wx.cell? ⟨w.heap.size, 9, none⟩ = some (.slice (some ⟨b1, off1, none⟩) d.groups.1 cap1) := T4.b1.cell 9
            have y4_4 : wx.cell? ⟨w.heap.size + 1, 4, none⟩ = some (.int .i64 (d.shape 4)) := T4.b2.cell 4
            have c4 : wx.cell? ⟨b1, off1 + k, none⟩ = some (.slice ao9 (d.groups.2 k).1 cap9) := (hb4.cell (p := ⟨b1, off1 + k, none⟩) (by show b1 < wo.heap.size; omega)).trans HC0.out
            by_cases hlq : q < (d.groups.2 k).1
            · obtain ⟨b9, off9, he9, hb9, hel9⟩ := HC9.out (by omega)
              subst he9
              obtain ⟨cq, hrq, hcq⟩ := elem_rd (t := 0) hel9 hb4 (by omega) hb9 hlq
              obtain ⟨ao5, cap5, rfl, g5⟩ := Drive_rd hrq
              have c5 : wx.cell? ⟨b9, off9 + q * 2 + 1, none⟩ = some (.slice ao5 ((d.groups.2 k).2 q).blocks.1 cap5) := hcq 1 (by decide)
              obtain ⟨_, _, e5, hm5, hc5⟩ := g5
              cases e5
              have HC5 : Hid (((d.groups.2 k).2 q).blocks.1 ≠ 0 → ∃ b off, ao5 = some ⟨b, off, none⟩ ∧ b < hi ∧ ∀ i, i < ((d.groups.2 k).2 q).blocks.1 → ∃ ce, layBlock.rd wx hi (((d.groups.2 k).2 q).blocks.2 i) ce ∧ ∀ j, j < layBlock.sz → wx.cell? ⟨b, off + (i * layBlock.sz + j), none⟩ = ce[j]?) := hc5
              unfold maxLen at hm5
              obtain ⟨p, hp⟩ : ∃ p, p = ((d.groups.2 k).2 q).blocks := ⟨_, rfl⟩
              rw [← hp] at c5 hm5 HC5
              have HP : Hid (p = ((d.groups.2 k).2 q).blocks) := hp
              clear hel9 hcq hc5 hrq T4 hb4 hp
              by_cases hl3 : (p.1 : Int) = d.shape 4
              · have hne3 : ((p.1 : Int) != d.shape 4) = false := by simpa using hl3
                have HL3 : Hid ((p.1 : Int) = d.shape 4) := hl3
                clear hl3
                go_wp2
                go_loop [7] (fun i => ∃ z : Nat, z ≤ p.1 ∧ i = .int .i64 z ∧ ∀ i, i < z → BlockP (p.2 i)) (fun i => p.1 - (intOf i).toNat)
                case atStart => exact ⟨0, Nat.zero_le _, rfl, fun i hi => by omega⟩
                case round =>
                  obtain ⟨z, hz, rfl, hal3⟩ := hrel
                  have HAL3 : Hid (∀ i, i < z → BlockP (p.2 i)) := hal3
                  clear hal3
                  by_cases hlz : z < p.1
                  · obtain ⟨b5, off5, he5, hb5, hel5⟩ := HC5.out (by omega)
                    subst he5
                    obtain ⟨cz, hrz, hcz⟩ := hel5 z hlz
                    obtain ⟨ao0, cap0, rfl, -⟩ := Block_rd hrz
                    have s0 : wx.cell? ⟨b5, off5 + z * 2, none⟩ = some (.int .i64 (p.2 z).stamp) := hcz 0 (by decide)
                    have s1 : wx.cell? ⟨b5, off5 + z * 2 + 1, none⟩ = some (.slice ao0 (p.2 z).bytes.1 cap0) := hcz 1 (by decide)
                    obtain ⟨t1, h1⟩ := exB (InP (p.2 z).stamp 0 1000000000)
                    have C1 := fun w' => l1In_b (w := w') h1
                    obtain ⟨b2', h2⟩ : ∃ b, (((p.2 z).bytes.1 : Int) != 4) = b := ⟨_, rfl⟩
                    have HE : Hid (BlockP (p.2 z) ↔ (t1 = true ∧ b2' = false)) := by
                      show BlockP (p.2 z) ↔ _
                      rw [h1, ← h2]
                      unfold BlockP
                      simp
                      intro _
                      omega
                    clear hel5 hcz hrz h1
                    go_wp2_with fail
                    refine (C1 _).mono ?_
                    rintro e w' ⟨rfl, hw'⟩
                    obtain rfl := hw'.symm
                    clear C1
                    cases t1 with
                    | false =>
                      go_wp2
                      go_ret
                      exact boolNo rfl (fun h => by
                        have hb := ((h.2 k hlt).2 q hlq).2 z (by rw [← HP.out]; exact hlz)
                        rw [← HP.out] at hb
                        have := HE.out.1 hb
                        simp at this) HT4.out.bel
                    | true =>
                      cases b2' with
                      | true =>
                        go_wp2
                        go_ret
                        exact boolNo rfl (fun h => by
                          have hb := ((h.2 k hlt).2 q hlq).2 z (by rw [← HP.out]; exact hlz)
                          rw [← HP.out] at hb
                          have := HE.out.1 hb
                          simp at this) HT4.out.bel
                      | false =>
                        go_wp2
                        go_round
                        case rel => exact ⟨z + 1, by omega, by go_num, fun i hi => by
                                      by_cases c : i = z
                                      · subst c; exact HE.out.2 (by simp)
                                      · exact HAL3.out i (by omega)⟩
                        case measure => simp [intOf]; omega
                  · obtain rfl : z = p.1 := by omega
                    go_wp2
                    go_roundw
                    case rel => exact ⟨q + 1, by omega, by go_num, fun i hi => by
                                  by_cases c : i = q
                                  · subst c
                                    rw [← HP.out]
                                    exact ⟨HL3.out, HAL3.out⟩
                                  · exact HAL2.out i (by omega), HT4.out, HB4.out⟩
                    case measure => simp [intOf]; omega
              · have hne3 : ((p.1 : Int) != d.shape 4) = true := by simpa using hl3
                have HN3 : Hid (¬ (p.1 : Int) = d.shape 4) := hl3
                clear hl3
                go_wp2
                go_ret
                exact boolNo rfl (fun h => HN3.out (by rw [HP.out]; exact ((h.2 k hlt).2 q hlq).1)) HT4.out.bel
            · obtain rfl : q = (d.groups.2 k).1 := by omega
              clear T4 hb4
              go_wp2
              go_roundw
              case rel => exact ⟨k + 1, by omega, by go_num, fun i hi => by
                            by_cases c : i = k
                            · subst c
                              exact ⟨HL2.out, HAL2.out⟩
                            · exact HAL.out i (by omega), HT4.out⟩
              case measure => simp [intOf]; omega
        · have hne2 : (((d.groups.2 k).1 : Int) != d.shape 2 + d.shape 3) = true := by simpa using hlen2
          have HN2 : Hid (¬ ((d.groups.2 k).1 : Int) = d.shape 2 + d.shape 3) := hlen2
          clear hlen2
          go_wp2
          refine WQ.region (by kernel_rfl) (by kernel_rfl) ?_
          repeat (first | (apply WQ.skip; (case hw => rfl); intro K hK; go_simp; apply hK; clear hK K) | (apply WQ.want; (case hw => rfl); intro K hK; go_simp; first | (apply hK; clear hK K) | (apply Exists.intro; apply And.intro; (case left => intro p; (first | (go_at_call 164; exact cD _ _))); apply hK; clear hK K)))
          refine WQ.nil ?_
          intro w3 hw3
          have HB3 : Hid (Below w.heap.size w w3) := (HT2.out.call (below_rg hw3)).bel
          clear hw3 cD c0 kc0
          go_wp2
          go_ret
          exact boolNo rfl (fun h => HN2.out (h.2 k hlt).1) HB3.out
      · obtain rfl : k = d.groups.1 := by omega
        go_wp2
        go_ret
        exact boolYes rfl ⟨HLEN.out, HAL.out⟩ HT2.out.bel
  · have hne : ((d.groups.1 : Int) != d.shape 0 + d.shape 1) = true := by simpa using hlen
    have HN : Hid (¬ (d.groups.1 : Int) = d.shape 0 + d.shape 1) := hlen
    clear hlen
    refine WQ.region (by kernel_rfl) (by kernel_rfl) ?_
    repeat (first | (apply WQ.skip; (case hw => rfl); intro K hK; go_simp; apply hK; clear hK K) | (apply WQ.want; (case hw => rfl); intro K hK; go_simp; first | (apply hK; clear hK K) | (apply Exists.intro; apply And.intro; (case left => intro p; (first | (go_at_call 70; exact cA _ _))); apply hK; clear hK K)))
    refine WQ.nil ?_
    intro w1 hw1
    have HB1 : Hid (Below w.heap.size w w1) := (HT.out.call (below_rg hw1)).bel
    clear hw1
    go_wp2
    go_ret
    exact boolNo rfl (fun h => HN.out h.1) HB1.out
end Go.Proofs.YtlppdepihchnkaaGreat

namespace Go.Proofs.YtlppdepihchnkaaGreat
open Go.RowKit F256
set_option linter.unusedVariables false
set_option linter.unusedSimpArgs false

set_option maxHeartbeats 16000000 in
set_option maxRecDepth 20000 in
theorem specWorld_A (d : WorldD) (cs : List Value) (hi : Nat) (w : World) (h : layWorld.rd w hi d cs) (hhi : hi ≤ w.heap.size) (hnm : ∀ t, t < d.tapes.1 → ∀ i, i < (d.tapes.2 t).recs.1 → ((d.tapes.2 t).recs.2 i).name.size ≤ 1048576) (hok' : OkShape d.shape) (hsel : ¬ (BuiltP d ∧ ApartP d.on.1 d.on.2 (d.shape 0 + d.shape 1 - 1))) :
    Calls Tryz.prog 26 #[.agg cs.toArray] w (WldPost d w) := by
  obtain ⟨ao1, cap1, ao2, cap2, ao3, cap3, rfl, g1, g2, g3, -⟩ := World_rd h
  have HRD : Hid (layWorld.rd w hi d [.int .i64 (d.shape 0), .int .i64 (d.shape 1), .int .i64 (d.shape 2), .int .i64 (d.shape 3), .int .i64 (d.shape 4), .int .i64 (d.shape 5), .int .i64 (d.shape 6), .int .i64 (d.shape 7), .int .i64 (d.shape 8), .slice ao1 d.groups.1 cap1, .slice ao2 d.on.1 cap2, .slice ao3 d.tapes.1 cap3, .int .i64 d.writes, .int .i64 d.stop, .bool d.down]) := h
  obtain ⟨v2, e2, ⟨h2, hcp2⟩, _⟩ := g2
  cases e2
  have H2 : Hid (RdI w hi (.slice ao2 d.on.1 cap2) d.on.1 d.on.2) := h2
  have HCP : Hid (CapP (.slice ao2 d.on.1 cap2) d.on.1) := hcp2
  have hm2 := h2.mx
  obtain ⟨_, _, e3, hm3, hc3⟩ := g3
  cases e3
  unfold maxLen at hm2 hm3
  have HC3 : Hid (d.tapes.1 ≠ 0 → ∃ b off, ao3 = some ⟨b, off, none⟩ ∧ b < hi ∧ ∀ i, i < d.tapes.1 → ∃ ce, layTape.rd w hi (d.tapes.2 i) ce ∧ ∀ j, j < layTape.sz → w.cell? ⟨b, off + (i * layTape.sz + j), none⟩ = ce[j]?) := hc3
  have HNM : Hid (∀ t, t < d.tapes.1 → ∀ i, i < (d.tapes.2 t).recs.1 → ((d.tapes.2 t).recs.2 i).name.size ≤ 1048576) := hnm
  clear h h2 hcp2 hc3 g1 hnm
  have T0 := one_new w #[.int .i64 (d.shape 0), .int .i64 (d.shape 1), .int .i64 (d.shape 2), .int .i64 (d.shape 3), .int .i64 (d.shape 4), .int .i64 (d.shape 5), .int .i64 (d.shape 6), .int .i64 (d.shape 7), .int .i64 (d.shape 8), .slice ao1 d.groups.1 cap1, .slice ao2 d.on.1 cap2, .slice ao3 d.tapes.1 cap3, .int .i64 d.writes, .int .i64 d.stop, .bool d.down] 30
  have CSh := fun w' => specShape_any d.shape w'
  unfold shapeV at CSh
  go_enter Tryz.func26, Tryz.ntmps26
  go_wp2_with fail
  refine (CSh _).mono ?_
  rintro e w1 ⟨x, rfl, hx, b1⟩
  have T1 : One w w1 #[.int .i64 (d.shape 0), .int .i64 (d.shape 1), .int .i64 (d.shape 2), .int .i64 (d.shape 3), .int .i64 (d.shape 4), .int .i64 (d.shape 5), .int .i64 (d.shape 6), .int .i64 (d.shape 7), .int .i64 (d.shape 8), .slice ao1 d.groups.1 cap1, .slice ao2 d.on.1 cap2, .slice ao3 d.tapes.1 cap3, .int .i64 d.writes, .int .i64 d.stop, .bool d.down] 30 := T0.call b1
  have HT1 : Hid (One w w1 #[.int .i64 (d.shape 0), .int .i64 (d.shape 1), .int .i64 (d.shape 2), .int .i64 (d.shape 3), .int .i64 (d.shape 4), .int .i64 (d.shape 5), .int .i64 (d.shape 6), .int .i64 (d.shape 7), .int .i64 (d.shape 8), .slice ao1 d.groups.1 cap1, .slice ao2 d.on.1 cap2, .slice ao3 d.tapes.1 cap3, .int .i64 d.writes, .int .i64 d.stop, .bool d.down] 30) := T1
  clear b1 T0 CSh
  have x1_0 : w1.cell? ⟨w.heap.size, 0, none⟩ = some (.int .i64 (d.shape 0)) := T1.b1.cell 0
  have kx1_0 := cell_regrown x1_0
  have x1_1 : w1.cell? ⟨w.heap.size, 1, none⟩ = some (.int .i64 (d.shape 1)) := T1.b1.cell 1
  have kx1_1 := cell_regrown x1_1
  have x1_2 : w1.cell? ⟨w.heap.size, 2, none⟩ = some (.int .i64 (d.shape 2)) := T1.b1.cell 2
  have kx1_2 := cell_regrown x1_2
  have x1_3 : w1.cell? ⟨w.heap.size, 3, none⟩ = some (.int .i64 (d.shape 3)) := T1.b1.cell 3
  have kx1_3 := cell_regrown x1_3
  have x1_4 : w1.cell? ⟨w.heap.size, 4, none⟩ = some (.int .i64 (d.shape 4)) := T1.b1.cell 4
  have kx1_4 := cell_regrown x1_4
  have x1_5 : w1.cell? ⟨w.heap.size, 5, none⟩ = some (.int .i64 (d.shape 5)) := T1.b1.cell 5
  have kx1_5 := cell_regrown x1_5
  have x1_6 : w1.cell? ⟨w.heap.size, 6, none⟩ = some (.int .i64 (d.shape 6)) := T1.b1.cell 6
  have kx1_6 := cell_regrown x1_6
  have x1_7 : w1.cell? ⟨w.heap.size, 7, none⟩ = some (.int .i64 (d.shape 7)) := T1.b1.cell 7
  have kx1_7 := cell_regrown x1_7
  have x1_8 : w1.cell? ⟨w.heap.size, 8, none⟩ = some (.int .i64 (d.shape 8)) := T1.b1.cell 8
  have kx1_8 := cell_regrown x1_8
  have x1_9 : w1.cell? ⟨w.heap.size, 9, none⟩ = some (.slice ao1 d.groups.1 cap1) := T1.b1.cell 9
  have kx1_9 := cell_regrown x1_9
  have x1_10 : w1.cell? ⟨w.heap.size, 10, none⟩ = some (.slice ao2 d.on.1 cap2) := T1.b1.cell 10
  have kx1_10 := cell_regrown x1_10
  have x1_11 : w1.cell? ⟨w.heap.size, 11, none⟩ = some (.slice ao3 d.tapes.1 cap3) := T1.b1.cell 11
  have kx1_11 := cell_regrown x1_11
  have x1_12 : w1.cell? ⟨w.heap.size, 12, none⟩ = some (.int .i64 d.writes) := T1.b1.cell 12
  have kx1_12 := cell_regrown x1_12
  have x1_13 : w1.cell? ⟨w.heap.size, 13, none⟩ = some (.int .i64 d.stop) := T1.b1.cell 13
  have kx1_13 := cell_regrown x1_13
  have x1_14 : w1.cell? ⟨w.heap.size, 14, none⟩ = some (.bool d.down) := T1.b1.cell 14
  have kx1_14 := cell_regrown x1_14
  clear T1
  rcases hx with ⟨rfl, hno⟩ | ⟨rfl, hok⟩
  · go_wp2
    go_ret
    exact wldP rfl (Stair.fall hno) HT1.out.bel
  have HOK : Hid (OkShape d.shape) := hok
  have hsb : 1 ≤ d.shape 0 ∧ d.shape 0 ≤ 4 ∧ 0 ≤ d.shape 1 ∧ d.shape 1 ≤ 2 := by
    obtain ⟨h1, _⟩ := hok
    unfold Shp3 at h1
    omega
  clear hok
  obtain ⟨t1, h1⟩ := exB (BuiltP d)
  obtain ⟨t2, h2⟩ := exB (ApartP d.on.1 d.on.2 (d.shape 0 + d.shape 1 - 1))
  obtain ⟨b3', h3⟩ : ∃ b, decide (d.shape 5 < (d.on.1 : Int)) = b := ⟨_, rfl⟩
  obtain ⟨g', h4⟩ : ∃ b, decide (0 < d.on.1) = b := ⟨_, rfl⟩
  obtain ⟨b5', h5⟩ : ∃ b, ((d.tapes.1 : Int) != 2) = b := ⟨_, rfl⟩
  have c1 := q_below (W := w1) (fun w' hw' => det_b (l5Built_any d HOK.out _ hi w' (layWorld.rd_below (layWorld.rd_below HRD.out HT1.out.bel hhi) hw' (Nat.le_trans hhi HT1.out.bel.size)) (Nat.le_trans hhi (Nat.le_trans HT1.out.bel.size hw'.size))) h1)
  have c2 := q_below (W := w1) (fun w' hw' => det_b (l5Apart_any _ d.on.1 d.on.2 hi (d.shape 0 + d.shape 1 - 1) w' ((H2.out.below HT1.out.bel hhi).below hw' (Nat.le_trans hhi HT1.out.bel.size)) HCP.out (Nat.le_trans hhi (Nat.le_trans HT1.out.bel.size hw'.size))) h2)
  have cA := q_below (W := w1) (fun w' _ => l5All_any d.shape HOK.out w')
  unfold shapeV at cA
  have wsA : IntKind.i64.wrap (d.shape 0 + d.shape 1 - 1) = d.shape 0 + d.shape 1 - 1 := by rw [IntKind.wrap_i64]; omega
  have h4' : decide (0 < (d.on.1 : Int)) = g' := by rw [← h4]; simp
  obtain ⟨dn, hdn⟩ : ∃ x, x = d.down := ⟨_, rfl⟩
  have HE : Hid (FormP d ↔ (t1 = true ∧ t2 = true ∧ b3' = false ∧ (dn = true → g' = false) ∧ b5' = false)) := by
    show FormP d ↔ _
    have e3 : (decide (d.shape 5 < (d.on.1 : Int)) = false) ↔ (d.on.1 : Int) ≤ d.shape 5 := by simp
    have e4 : (decide (0 < d.on.1) = false) ↔ d.on.1 = 0 := by simp
    have e5 : (((d.tapes.1 : Int) != 2) = false) ↔ d.tapes.1 = 2 := by simp; omega
    rw [h1, h2, ← h3, ← h4, ← h5, hdn, e3, e4, e5]
    unfold FormP OnP
    constructor
    · rintro ⟨a, ⟨b, c, e⟩, f⟩
      exact ⟨a, b, c, e, f⟩
    · rintro ⟨a, b, c, e, f⟩
      exact ⟨a, ⟨b, c, e⟩, f⟩
  have hst : t1 = false ∨ (t1 = true ∧ t2 = false) := by
    clear HE c1 c2
    cases t1 with
    | false => exact .inl rfl
    | true =>
      cases t2 with
      | false => exact .inr ⟨rfl, rfl⟩
      | true => exact absurd ⟨h1.1 rfl, h2.1 rfl⟩ hsel
  have HNF : Hid (¬ FormP d) := fun h => by
    obtain ⟨a, ⟨b, c, e⟩, f⟩ := h
    exact hsel ⟨a, b⟩
  rw [← hdn] at x1_14 kx1_14 c1
  clear h1 h2 hsel hok'
  go_upto_region 4 with fail
  clear hdn
  rcases hst with rfl | ⟨rfl, rfl⟩
  all_goals
    refine WQ.region (by kernel_rfl) (by kernel_rfl) ?_
    repeat (first | (apply WQ.free; (case hw => rfl); intro K hK; go_simp; first | (apply hK; clear hK K) | (apply Exists.intro; apply And.intro; (case left => intro p; (first | (go_at_call 97; exact c1 _ _) | (go_at_call 98; exact c2 _ _) | (go_at_call 70; exact cA _ _))); apply hK; clear hK K)) | (apply WQ.skip; (case hw => rfl); intro K hK; go_simp; apply hK; clear hK K) | (apply WQ.want; (case hw => rfl); intro K hK; go_simp; first | (apply hK; clear hK K) | (apply Exists.intro; apply And.intro; (case left => intro p; (first | (go_at_call 97; exact c1 _ _) | (go_at_call 98; exact c2 _ _) | (go_at_call 70; exact cA _ _))); apply hK; clear hK K)))
    refine WQ.nil ?_
    intro w2 hw2
    have HB2 : Hid (Below w.heap.size w w2) := (HT1.out.call (below_rg hw2)).bel
    clear hw2
    go_wp2
    go_ret
    exact wldP rfl (Stair.pass HOK.out (Stair.fall HNF.out)) HB2.out
set_option maxHeartbeats 16000000 in
set_option maxRecDepth 20000 in
theorem specWorld_B (d : WorldD) (cs : List Value) (hi : Nat) (w : World) (h : layWorld.rd w hi d cs) (hhi : hi ≤ w.heap.size) (hnm : ∀ t, t < d.tapes.1 → ∀ i, i < (d.tapes.2 t).recs.1 → ((d.tapes.2 t).recs.2 i).name.size ≤ 1048576) (hok' : OkShape d.shape) (hsel : BuiltP d ∧ ApartP d.on.1 d.on.2 (d.shape 0 + d.shape 1 - 1) ∧ ¬ ((d.on.1 : Int) ≤ d.shape 5 ∧ (d.down = true → d.on.1 = 0))) :
    Calls Tryz.prog 26 #[.agg cs.toArray] w (WldPost d w) := by
  obtain ⟨ao1, cap1, ao2, cap2, ao3, cap3, rfl, g1, g2, g3, -⟩ := World_rd h
  have HRD : Hid (layWorld.rd w hi d [.int .i64 (d.shape 0), .int .i64 (d.shape 1), .int .i64 (d.shape 2), .int .i64 (d.shape 3), .int .i64 (d.shape 4), .int .i64 (d.shape 5), .int .i64 (d.shape 6), .int .i64 (d.shape 7), .int .i64 (d.shape 8), .slice ao1 d.groups.1 cap1, .slice ao2 d.on.1 cap2, .slice ao3 d.tapes.1 cap3, .int .i64 d.writes, .int .i64 d.stop, .bool d.down]) := h
  obtain ⟨v2, e2, ⟨h2, hcp2⟩, _⟩ := g2
  cases e2
  have H2 : Hid (RdI w hi (.slice ao2 d.on.1 cap2) d.on.1 d.on.2) := h2
  have HCP : Hid (CapP (.slice ao2 d.on.1 cap2) d.on.1) := hcp2
  have hm2 := h2.mx
  obtain ⟨_, _, e3, hm3, hc3⟩ := g3
  cases e3
  unfold maxLen at hm2 hm3
  have HC3 : Hid (d.tapes.1 ≠ 0 → ∃ b off, ao3 = some ⟨b, off, none⟩ ∧ b < hi ∧ ∀ i, i < d.tapes.1 → ∃ ce, layTape.rd w hi (d.tapes.2 i) ce ∧ ∀ j, j < layTape.sz → w.cell? ⟨b, off + (i * layTape.sz + j), none⟩ = ce[j]?) := hc3
  have HNM : Hid (∀ t, t < d.tapes.1 → ∀ i, i < (d.tapes.2 t).recs.1 → ((d.tapes.2 t).recs.2 i).name.size ≤ 1048576) := hnm
  clear h h2 hcp2 hc3 g1 hnm
  have T0 := one_new w #[.int .i64 (d.shape 0), .int .i64 (d.shape 1), .int .i64 (d.shape 2), .int .i64 (d.shape 3), .int .i64 (d.shape 4), .int .i64 (d.shape 5), .int .i64 (d.shape 6), .int .i64 (d.shape 7), .int .i64 (d.shape 8), .slice ao1 d.groups.1 cap1, .slice ao2 d.on.1 cap2, .slice ao3 d.tapes.1 cap3, .int .i64 d.writes, .int .i64 d.stop, .bool d.down] 30
  have CSh := fun w' => specShape_any d.shape w'
  unfold shapeV at CSh
  go_enter Tryz.func26, Tryz.ntmps26
  go_wp2_with fail
  refine (CSh _).mono ?_
  rintro e w1 ⟨x, rfl, hx, b1⟩
  have T1 : One w w1 #[.int .i64 (d.shape 0), .int .i64 (d.shape 1), .int .i64 (d.shape 2), .int .i64 (d.shape 3), .int .i64 (d.shape 4), .int .i64 (d.shape 5), .int .i64 (d.shape 6), .int .i64 (d.shape 7), .int .i64 (d.shape 8), .slice ao1 d.groups.1 cap1, .slice ao2 d.on.1 cap2, .slice ao3 d.tapes.1 cap3, .int .i64 d.writes, .int .i64 d.stop, .bool d.down] 30 := T0.call b1
  have HT1 : Hid (One w w1 #[.int .i64 (d.shape 0), .int .i64 (d.shape 1), .int .i64 (d.shape 2), .int .i64 (d.shape 3), .int .i64 (d.shape 4), .int .i64 (d.shape 5), .int .i64 (d.shape 6), .int .i64 (d.shape 7), .int .i64 (d.shape 8), .slice ao1 d.groups.1 cap1, .slice ao2 d.on.1 cap2, .slice ao3 d.tapes.1 cap3, .int .i64 d.writes, .int .i64 d.stop, .bool d.down] 30) := T1
  clear b1 T0 CSh
  have x1_0 : w1.cell? ⟨w.heap.size, 0, none⟩ = some (.int .i64 (d.shape 0)) := T1.b1.cell 0
  have kx1_0 := cell_regrown x1_0
  have x1_1 : w1.cell? ⟨w.heap.size, 1, none⟩ = some (.int .i64 (d.shape 1)) := T1.b1.cell 1
  have kx1_1 := cell_regrown x1_1
  have x1_2 : w1.cell? ⟨w.heap.size, 2, none⟩ = some (.int .i64 (d.shape 2)) := T1.b1.cell 2
  have kx1_2 := cell_regrown x1_2
  have x1_3 : w1.cell? ⟨w.heap.size, 3, none⟩ = some (.int .i64 (d.shape 3)) := T1.b1.cell 3
  have kx1_3 := cell_regrown x1_3
  have x1_4 : w1.cell? ⟨w.heap.size, 4, none⟩ = some (.int .i64 (d.shape 4)) := T1.b1.cell 4
  have kx1_4 := cell_regrown x1_4
  have x1_5 : w1.cell? ⟨w.heap.size, 5, none⟩ = some (.int .i64 (d.shape 5)) := T1.b1.cell 5
  have kx1_5 := cell_regrown x1_5
  have x1_6 : w1.cell? ⟨w.heap.size, 6, none⟩ = some (.int .i64 (d.shape 6)) := T1.b1.cell 6
  have kx1_6 := cell_regrown x1_6
  have x1_7 : w1.cell? ⟨w.heap.size, 7, none⟩ = some (.int .i64 (d.shape 7)) := T1.b1.cell 7
  have kx1_7 := cell_regrown x1_7
  have x1_8 : w1.cell? ⟨w.heap.size, 8, none⟩ = some (.int .i64 (d.shape 8)) := T1.b1.cell 8
  have kx1_8 := cell_regrown x1_8
  have x1_9 : w1.cell? ⟨w.heap.size, 9, none⟩ = some (.slice ao1 d.groups.1 cap1) := T1.b1.cell 9
  have kx1_9 := cell_regrown x1_9
  have x1_10 : w1.cell? ⟨w.heap.size, 10, none⟩ = some (.slice ao2 d.on.1 cap2) := T1.b1.cell 10
  have kx1_10 := cell_regrown x1_10
  have x1_11 : w1.cell? ⟨w.heap.size, 11, none⟩ = some (.slice ao3 d.tapes.1 cap3) := T1.b1.cell 11
  have kx1_11 := cell_regrown x1_11
  have x1_12 : w1.cell? ⟨w.heap.size, 12, none⟩ = some (.int .i64 d.writes) := T1.b1.cell 12
  have kx1_12 := cell_regrown x1_12
  have x1_13 : w1.cell? ⟨w.heap.size, 13, none⟩ = some (.int .i64 d.stop) := T1.b1.cell 13
  have kx1_13 := cell_regrown x1_13
  have x1_14 : w1.cell? ⟨w.heap.size, 14, none⟩ = some (.bool d.down) := T1.b1.cell 14
  have kx1_14 := cell_regrown x1_14
  clear T1
  rcases hx with ⟨rfl, hno⟩ | ⟨rfl, hok⟩
  · go_wp2
    go_ret
    exact wldP rfl (Stair.fall hno) HT1.out.bel
  have HOK : Hid (OkShape d.shape) := hok
  have hsb : 1 ≤ d.shape 0 ∧ d.shape 0 ≤ 4 ∧ 0 ≤ d.shape 1 ∧ d.shape 1 ≤ 2 := by
    obtain ⟨h1, _⟩ := hok
    unfold Shp3 at h1
    omega
  clear hok
  obtain ⟨t1, h1⟩ := exB (BuiltP d)
  obtain ⟨t2, h2⟩ := exB (ApartP d.on.1 d.on.2 (d.shape 0 + d.shape 1 - 1))
  obtain ⟨b3', h3⟩ : ∃ b, decide (d.shape 5 < (d.on.1 : Int)) = b := ⟨_, rfl⟩
  obtain ⟨g', h4⟩ : ∃ b, decide (0 < d.on.1) = b := ⟨_, rfl⟩
  obtain ⟨b5', h5⟩ : ∃ b, ((d.tapes.1 : Int) != 2) = b := ⟨_, rfl⟩
  have c1 := q_below (W := w1) (fun w' hw' => det_b (l5Built_any d HOK.out _ hi w' (layWorld.rd_below (layWorld.rd_below HRD.out HT1.out.bel hhi) hw' (Nat.le_trans hhi HT1.out.bel.size)) (Nat.le_trans hhi (Nat.le_trans HT1.out.bel.size hw'.size))) h1)
  have c2 := q_below (W := w1) (fun w' hw' => det_b (l5Apart_any _ d.on.1 d.on.2 hi (d.shape 0 + d.shape 1 - 1) w' ((H2.out.below HT1.out.bel hhi).below hw' (Nat.le_trans hhi HT1.out.bel.size)) HCP.out (Nat.le_trans hhi (Nat.le_trans HT1.out.bel.size hw'.size))) h2)
  have cA := q_below (W := w1) (fun w' _ => l5All_any d.shape HOK.out w')
  unfold shapeV at cA
  have wsA : IntKind.i64.wrap (d.shape 0 + d.shape 1 - 1) = d.shape 0 + d.shape 1 - 1 := by rw [IntKind.wrap_i64]; omega
  have h4' : decide (0 < (d.on.1 : Int)) = g' := by rw [← h4]; simp
  obtain ⟨dn, hdn⟩ : ∃ x, x = d.down := ⟨_, rfl⟩
  have HE : Hid (FormP d ↔ (t1 = true ∧ t2 = true ∧ b3' = false ∧ (dn = true → g' = false) ∧ b5' = false)) := by
    show FormP d ↔ _
    have e3 : (decide (d.shape 5 < (d.on.1 : Int)) = false) ↔ (d.on.1 : Int) ≤ d.shape 5 := by simp
    have e4 : (decide (0 < d.on.1) = false) ↔ d.on.1 = 0 := by simp
    have e5 : (((d.tapes.1 : Int) != 2) = false) ↔ d.tapes.1 = 2 := by simp; omega
    rw [h1, h2, ← h3, ← h4, ← h5, hdn, e3, e4, e5]
    unfold FormP OnP
    constructor
    · rintro ⟨a, ⟨b, c, e⟩, f⟩
      exact ⟨a, b, c, e, f⟩
    · rintro ⟨a, b, c, e, f⟩
      exact ⟨a, ⟨b, c, e⟩, f⟩
  have hst : (t1 = true ∧ t2 = true ∧ b3' = true) ∨ (t1 = true ∧ t2 = true ∧ b3' = false ∧ dn = true ∧ g' = true) := by
    clear HE c1 c2
    have e1 := h1.2 hsel.1
    have e2 := h2.2 hsel.2.1
    cases b3' with
    | true => exact .inl ⟨e1, e2, rfl⟩
    | false =>
      have hc : (d.on.1 : Int) ≤ d.shape 5 := by simpa using h3
      have hd : dn = true := by
        cases dn with
        | true => rfl
        | false => exact absurd ⟨hc, fun h => by rw [← hdn] at h; cases h⟩ hsel.2.2
      have hg : g' = true := by
        cases g' with
        | true => rfl
        | false => exact absurd ⟨hc, fun _ => by simpa using h4⟩ hsel.2.2
      exact .inr ⟨e1, e2, rfl, hd, hg⟩
  have HNF : Hid (¬ FormP d) := fun h => by
    obtain ⟨a, ⟨b, c, e⟩, f⟩ := h
    exact hsel.2.2 ⟨c, e⟩
  rw [← hdn] at x1_14 kx1_14 c1
  clear h1 h2 hsel hok'
  go_upto_region 4 with fail
  clear hdn
  rcases hst with ⟨rfl, rfl, rfl⟩ | ⟨rfl, rfl, rfl, rfl, rfl⟩
  all_goals
    refine WQ.region (by kernel_rfl) (by kernel_rfl) ?_
    repeat (first | (apply WQ.free; (case hw => rfl); intro K hK; go_simp; first | (apply hK; clear hK K) | (apply Exists.intro; apply And.intro; (case left => intro p; (first | (go_at_call 97; exact c1 _ _) | (go_at_call 98; exact c2 _ _) | (go_at_call 70; exact cA _ _))); apply hK; clear hK K)) | (apply WQ.skip; (case hw => rfl); intro K hK; go_simp; apply hK; clear hK K) | (apply WQ.want; (case hw => rfl); intro K hK; go_simp; first | (apply hK; clear hK K) | (apply Exists.intro; apply And.intro; (case left => intro p; (first | (go_at_call 97; exact c1 _ _) | (go_at_call 98; exact c2 _ _) | (go_at_call 70; exact cA _ _))); apply hK; clear hK K)))
    refine WQ.nil ?_
    intro w2 hw2
    have HB2 : Hid (Below w.heap.size w w2) := (HT1.out.call (below_rg hw2)).bel
    clear hw2
    go_wp2
    go_ret
    exact wldP rfl (Stair.pass HOK.out (Stair.fall HNF.out)) HB2.out
set_option maxHeartbeats 16000000 in
set_option maxRecDepth 20000 in
theorem specWorld_C (d : WorldD) (cs : List Value) (hi : Nat) (w : World) (h : layWorld.rd w hi d cs) (hhi : hi ≤ w.heap.size) (hnm : ∀ t, t < d.tapes.1 → ∀ i, i < (d.tapes.2 t).recs.1 → ((d.tapes.2 t).recs.2 i).name.size ≤ 1048576) (hok' : OkShape d.shape) (hsel : BuiltP d ∧ ApartP d.on.1 d.on.2 (d.shape 0 + d.shape 1 - 1) ∧ ((d.on.1 : Int) ≤ d.shape 5 ∧ (d.down = true → d.on.1 = 0)) ∧ d.tapes.1 ≠ 2) :
    Calls Tryz.prog 26 #[.agg cs.toArray] w (WldPost d w) := by
  obtain ⟨ao1, cap1, ao2, cap2, ao3, cap3, rfl, g1, g2, g3, -⟩ := World_rd h
  have HRD : Hid (layWorld.rd w hi d [.int .i64 (d.shape 0), .int .i64 (d.shape 1), .int .i64 (d.shape 2), .int .i64 (d.shape 3), .int .i64 (d.shape 4), .int .i64 (d.shape 5), .int .i64 (d.shape 6), .int .i64 (d.shape 7), .int .i64 (d.shape 8), .slice ao1 d.groups.1 cap1, .slice ao2 d.on.1 cap2, .slice ao3 d.tapes.1 cap3, .int .i64 d.writes, .int .i64 d.stop, .bool d.down]) := h
  obtain ⟨v2, e2, ⟨h2, hcp2⟩, _⟩ := g2
  cases e2
  have H2 : Hid (RdI w hi (.slice ao2 d.on.1 cap2) d.on.1 d.on.2) := h2
  have HCP : Hid (CapP (.slice ao2 d.on.1 cap2) d.on.1) := hcp2
  have hm2 := h2.mx
  obtain ⟨_, _, e3, hm3, hc3⟩ := g3
  cases e3
  unfold maxLen at hm2 hm3
  have HC3 : Hid (d.tapes.1 ≠ 0 → ∃ b off, ao3 = some ⟨b, off, none⟩ ∧ b < hi ∧ ∀ i, i < d.tapes.1 → ∃ ce, layTape.rd w hi (d.tapes.2 i) ce ∧ ∀ j, j < layTape.sz → w.cell? ⟨b, off + (i * layTape.sz + j), none⟩ = ce[j]?) := hc3
  have HNM : Hid (∀ t, t < d.tapes.1 → ∀ i, i < (d.tapes.2 t).recs.1 → ((d.tapes.2 t).recs.2 i).name.size ≤ 1048576) := hnm
  clear h h2 hcp2 hc3 g1 hnm
  have T0 := one_new w #[.int .i64 (d.shape 0), .int .i64 (d.shape 1), .int .i64 (d.shape 2), .int .i64 (d.shape 3), .int .i64 (d.shape 4), .int .i64 (d.shape 5), .int .i64 (d.shape 6), .int .i64 (d.shape 7), .int .i64 (d.shape 8), .slice ao1 d.groups.1 cap1, .slice ao2 d.on.1 cap2, .slice ao3 d.tapes.1 cap3, .int .i64 d.writes, .int .i64 d.stop, .bool d.down] 30
  have CSh := fun w' => specShape_any d.shape w'
  unfold shapeV at CSh
  go_enter Tryz.func26, Tryz.ntmps26
  go_wp2_with fail
  refine (CSh _).mono ?_
  rintro e w1 ⟨x, rfl, hx, b1⟩
  have T1 : One w w1 #[.int .i64 (d.shape 0), .int .i64 (d.shape 1), .int .i64 (d.shape 2), .int .i64 (d.shape 3), .int .i64 (d.shape 4), .int .i64 (d.shape 5), .int .i64 (d.shape 6), .int .i64 (d.shape 7), .int .i64 (d.shape 8), .slice ao1 d.groups.1 cap1, .slice ao2 d.on.1 cap2, .slice ao3 d.tapes.1 cap3, .int .i64 d.writes, .int .i64 d.stop, .bool d.down] 30 := T0.call b1
  have HT1 : Hid (One w w1 #[.int .i64 (d.shape 0), .int .i64 (d.shape 1), .int .i64 (d.shape 2), .int .i64 (d.shape 3), .int .i64 (d.shape 4), .int .i64 (d.shape 5), .int .i64 (d.shape 6), .int .i64 (d.shape 7), .int .i64 (d.shape 8), .slice ao1 d.groups.1 cap1, .slice ao2 d.on.1 cap2, .slice ao3 d.tapes.1 cap3, .int .i64 d.writes, .int .i64 d.stop, .bool d.down] 30) := T1
  clear b1 T0 CSh
  have x1_0 : w1.cell? ⟨w.heap.size, 0, none⟩ = some (.int .i64 (d.shape 0)) := T1.b1.cell 0
  have kx1_0 := cell_regrown x1_0
  have x1_1 : w1.cell? ⟨w.heap.size, 1, none⟩ = some (.int .i64 (d.shape 1)) := T1.b1.cell 1
  have kx1_1 := cell_regrown x1_1
  have x1_2 : w1.cell? ⟨w.heap.size, 2, none⟩ = some (.int .i64 (d.shape 2)) := T1.b1.cell 2
  have kx1_2 := cell_regrown x1_2
  have x1_3 : w1.cell? ⟨w.heap.size, 3, none⟩ = some (.int .i64 (d.shape 3)) := T1.b1.cell 3
  have kx1_3 := cell_regrown x1_3
  have x1_4 : w1.cell? ⟨w.heap.size, 4, none⟩ = some (.int .i64 (d.shape 4)) := T1.b1.cell 4
  have kx1_4 := cell_regrown x1_4
  have x1_5 : w1.cell? ⟨w.heap.size, 5, none⟩ = some (.int .i64 (d.shape 5)) := T1.b1.cell 5
  have kx1_5 := cell_regrown x1_5
  have x1_6 : w1.cell? ⟨w.heap.size, 6, none⟩ = some (.int .i64 (d.shape 6)) := T1.b1.cell 6
  have kx1_6 := cell_regrown x1_6
  have x1_7 : w1.cell? ⟨w.heap.size, 7, none⟩ = some (.int .i64 (d.shape 7)) := T1.b1.cell 7
  have kx1_7 := cell_regrown x1_7
  have x1_8 : w1.cell? ⟨w.heap.size, 8, none⟩ = some (.int .i64 (d.shape 8)) := T1.b1.cell 8
  have kx1_8 := cell_regrown x1_8
  have x1_9 : w1.cell? ⟨w.heap.size, 9, none⟩ = some (.slice ao1 d.groups.1 cap1) := T1.b1.cell 9
  have kx1_9 := cell_regrown x1_9
  have x1_10 : w1.cell? ⟨w.heap.size, 10, none⟩ = some (.slice ao2 d.on.1 cap2) := T1.b1.cell 10
  have kx1_10 := cell_regrown x1_10
  have x1_11 : w1.cell? ⟨w.heap.size, 11, none⟩ = some (.slice ao3 d.tapes.1 cap3) := T1.b1.cell 11
  have kx1_11 := cell_regrown x1_11
  have x1_12 : w1.cell? ⟨w.heap.size, 12, none⟩ = some (.int .i64 d.writes) := T1.b1.cell 12
  have kx1_12 := cell_regrown x1_12
  have x1_13 : w1.cell? ⟨w.heap.size, 13, none⟩ = some (.int .i64 d.stop) := T1.b1.cell 13
  have kx1_13 := cell_regrown x1_13
  have x1_14 : w1.cell? ⟨w.heap.size, 14, none⟩ = some (.bool d.down) := T1.b1.cell 14
  have kx1_14 := cell_regrown x1_14
  clear T1
  rcases hx with ⟨rfl, hno⟩ | ⟨rfl, hok⟩
  · go_wp2
    go_ret
    exact wldP rfl (Stair.fall hno) HT1.out.bel
  have HOK : Hid (OkShape d.shape) := hok
  have hsb : 1 ≤ d.shape 0 ∧ d.shape 0 ≤ 4 ∧ 0 ≤ d.shape 1 ∧ d.shape 1 ≤ 2 := by
    obtain ⟨h1, _⟩ := hok
    unfold Shp3 at h1
    omega
  clear hok
  obtain ⟨t1, h1⟩ := exB (BuiltP d)
  obtain ⟨t2, h2⟩ := exB (ApartP d.on.1 d.on.2 (d.shape 0 + d.shape 1 - 1))
  obtain ⟨b3', h3⟩ : ∃ b, decide (d.shape 5 < (d.on.1 : Int)) = b := ⟨_, rfl⟩
  obtain ⟨g', h4⟩ : ∃ b, decide (0 < d.on.1) = b := ⟨_, rfl⟩
  obtain ⟨b5', h5⟩ : ∃ b, ((d.tapes.1 : Int) != 2) = b := ⟨_, rfl⟩
  have c1 := q_below (W := w1) (fun w' hw' => det_b (l5Built_any d HOK.out _ hi w' (layWorld.rd_below (layWorld.rd_below HRD.out HT1.out.bel hhi) hw' (Nat.le_trans hhi HT1.out.bel.size)) (Nat.le_trans hhi (Nat.le_trans HT1.out.bel.size hw'.size))) h1)
  have c2 := q_below (W := w1) (fun w' hw' => det_b (l5Apart_any _ d.on.1 d.on.2 hi (d.shape 0 + d.shape 1 - 1) w' ((H2.out.below HT1.out.bel hhi).below hw' (Nat.le_trans hhi HT1.out.bel.size)) HCP.out (Nat.le_trans hhi (Nat.le_trans HT1.out.bel.size hw'.size))) h2)
  have cA := q_below (W := w1) (fun w' _ => l5All_any d.shape HOK.out w')
  unfold shapeV at cA
  have wsA : IntKind.i64.wrap (d.shape 0 + d.shape 1 - 1) = d.shape 0 + d.shape 1 - 1 := by rw [IntKind.wrap_i64]; omega
  have h4' : decide (0 < (d.on.1 : Int)) = g' := by rw [← h4]; simp
  obtain ⟨dn, hdn⟩ : ∃ x, x = d.down := ⟨_, rfl⟩
  have HE : Hid (FormP d ↔ (t1 = true ∧ t2 = true ∧ b3' = false ∧ (dn = true → g' = false) ∧ b5' = false)) := by
    show FormP d ↔ _
    have e3 : (decide (d.shape 5 < (d.on.1 : Int)) = false) ↔ (d.on.1 : Int) ≤ d.shape 5 := by simp
    have e4 : (decide (0 < d.on.1) = false) ↔ d.on.1 = 0 := by simp
    have e5 : (((d.tapes.1 : Int) != 2) = false) ↔ d.tapes.1 = 2 := by simp; omega
    rw [h1, h2, ← h3, ← h4, ← h5, hdn, e3, e4, e5]
    unfold FormP OnP
    constructor
    · rintro ⟨a, ⟨b, c, e⟩, f⟩
      exact ⟨a, b, c, e, f⟩
    · rintro ⟨a, b, c, e, f⟩
      exact ⟨a, ⟨b, c, e⟩, f⟩
  have hst : (t1 = true ∧ t2 = true ∧ b3' = false ∧ dn = true ∧ g' = false ∧ b5' = true) ∨ (t1 = true ∧ t2 = true ∧ b3' = false ∧ dn = false ∧ b5' = true) := by
    clear HE c1 c2
    have e1 := h1.2 hsel.1
    have e2 := h2.2 hsel.2.1
    have e3 : b3' = false := by rw [← h3]; simpa using hsel.2.2.1.1
    have e5 : b5' = true := by rw [← h5]; have := hsel.2.2.2; simp; omega
    cases dn with
    | false => exact .inr ⟨e1, e2, e3, rfl, e5⟩
    | true => exact .inl ⟨e1, e2, e3, rfl, by rw [← h4]; have := hsel.2.2.1.2 hdn.symm; simp; omega, e5⟩
  have HNF : Hid (¬ FormP d) := fun h => by
    obtain ⟨a, ⟨b, c, e⟩, f⟩ := h
    exact hsel.2.2.2 f
  rw [← hdn] at x1_14 kx1_14 c1
  clear h1 h2 hsel hok'
  go_upto_region 4 with fail
  clear hdn
  rcases hst with ⟨rfl, rfl, rfl, rfl, rfl, rfl⟩ | ⟨rfl, rfl, rfl, rfl, rfl⟩
  all_goals
    refine WQ.region (by kernel_rfl) (by kernel_rfl) ?_
    repeat (first | (apply WQ.free; (case hw => rfl); intro K hK; go_simp; first | (apply hK; clear hK K) | (apply Exists.intro; apply And.intro; (case left => intro p; (first | (go_at_call 97; exact c1 _ _) | (go_at_call 98; exact c2 _ _) | (go_at_call 70; exact cA _ _))); apply hK; clear hK K)) | (apply WQ.skip; (case hw => rfl); intro K hK; go_simp; apply hK; clear hK K) | (apply WQ.want; (case hw => rfl); intro K hK; go_simp; first | (apply hK; clear hK K) | (apply Exists.intro; apply And.intro; (case left => intro p; (first | (go_at_call 97; exact c1 _ _) | (go_at_call 98; exact c2 _ _) | (go_at_call 70; exact cA _ _))); apply hK; clear hK K)))
    refine WQ.nil ?_
    intro w2 hw2
    have HB2 : Hid (Below w.heap.size w w2) := (HT1.out.call (below_rg hw2)).bel
    clear hw2
    go_wp2
    go_ret
    exact wldP rfl (Stair.pass HOK.out (Stair.fall HNF.out)) HB2.out
end Go.Proofs.YtlppdepihchnkaaGreat
