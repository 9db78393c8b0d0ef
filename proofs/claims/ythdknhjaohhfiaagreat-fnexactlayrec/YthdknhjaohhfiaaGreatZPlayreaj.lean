/- What WorldFault tells, as the walks say it. -/
import Derived.Test.YthdknhjaohhfiaaGreatZPlayreai
import Derived.Test.YthdknhjaohhfiaaGreatZPlayreab
import Derived.Test.YthdknhjaohhfiaaGreatZPlayreac
import Derived.Test.YthdknhjaohhfiaaGreatZPlayreah
import Derived.Deep.RegionLaw
import Derived.Deep.DeepCutAuto
import Derived.Laws.Tables
import Derived.Laws.Rows
import Derived.Test.YthdknhjaohhfiaaGreatZPlayreaa
import Derived.OrdersHeld
import Derived.Deep.RegionHeld
import Derived.Deep.Cut
namespace Go.Proofs.YthdknhjaohhfiaaGreat
open Go.RowKit F256
set_option linter.unusedVariables false

theorem stair_ex {K : Int → Prop} (hK : ∃ x, K x) : ∀ l : List (Prop × Int), ∃ x, Stair l K x
  | [] => hK
  | (p, c) :: l => by
    by_cases h : p
    · obtain ⟨x, hx⟩ := stair_ex hK l
      exact ⟨x, .inr ⟨h, hx⟩⟩
    · exact ⟨c, .inl ⟨h, rfl⟩⟩
theorem rec_det {s : Nat → Int} {d : RecD} {X : Int} {w : World} {f : Nat} {args : Array Value} (hX : RecAns s d X) (h : Calls Tryz.prog f args w (RecPost s d w)) : Calls Tryz.prog f args w fun e w' => e = .returned (.int .i64 X) ∧ Below w.heap.size w w' :=
  h.mono fun e w' ⟨x, h1, h2, h3⟩ => ⟨by rw [h1, h2.one hX], h3⟩
/-- WorldFault has told what is to be told -/
def WldPost (d : WorldD) (w : World) (e : Ending) (w' : World) : Prop := ∃ x, e = .returned (.int .i64 x) ∧ WldAns d x ∧ Below w.heap.size w w'
theorem wldP {d : WorldD} {w : World} {e : Ending} {w' : World} {x : Int} (he : e = .returned (.int .i64 x)) (h : WldAns d x) (hb : Below w.heap.size w w') : WldPost d w e w' := ⟨x, he, h, hb⟩

/-- recsFault has told what is to be told -/
def RcsPost (s : Nat → Int) (p : Nat × (Nat → TapeD)) (w : World) (e : Ending) (w' : World) : Prop := ∃ x, e = .returned (.int .i64 x) ∧ RecsAns s p.1 p.2 x ∧ Below w.heap.size w w'
/-- an operation without a guard -/
theorem WQ.free {P : Program} {ops : Array Oper} {C : World → Prop} {Q : Act → Prop} {a : Act} {o : Oper} {rest : List Oper} (hw : o.guard = none)
    (h : ∀ K : Act → Prop, (∀ a, WQ P ops C Q rest a → K a) → o.quiet P a C K) : WQ P ops C Q (o :: rest) a := WQ.want (by simp [Region.wanted, hw]) h
end Go.Proofs.YthdknhjaohhfiaaGreat

namespace Go.Proofs.YthdknhjaohhfiaaGreat
open Go.RowKit F256
set_option linter.unusedVariables false
theorem recs_row (s : Nat → Int) (y : Nat → RecD) : ∀ k, (∀ i, i < k → RecAns s (y i) 0) ∨ ∃ i c, i < k ∧ c ≠ 0 ∧ RecAns s (y i) c ∧ ∀ j, j < i → RecAns s (y j) 0
  | 0 => .inl (fun i hi => by omega)
  | k + 1 => by
    rcases recs_row s y k with h | ⟨i, c, h1, h2, h3, h4⟩
    · obtain ⟨X, hX⟩ : ∃ X, RecAns s (y k) X := stair_ex (K := isZ) ⟨0, rfl⟩ _
      by_cases hx : X = 0
      · subst hx
        exact .inl (fun i hi => by
          by_cases c : i = k
          · subst c; exact hX
          · exact h i (by omega))
      · exact .inr ⟨k, X, by omega, hx, hX, h⟩
    · exact .inr ⟨i, c, by omega, h2, h3, h4⟩
theorem recs_ex (s : Nat → Int) (x : Nat → TapeD) : ∀ n, ∃ c, RecsAns s n x c
  | 0 => ⟨0, .inl ⟨rfl, fun t ht => by omega⟩⟩
  | n + 1 => by
    obtain ⟨c, hc⟩ := recs_ex s x n
    rcases hc with ⟨rfl, h⟩ | ⟨hc, t, i, ht, hi, hr, hb, hu⟩
    · rcases recs_row s (x n).recs.2 (x n).recs.1 with k | ⟨i, c, h1, h2, h3, h4⟩
      · exact ⟨0, .inl ⟨rfl, fun t ht => by
          by_cases c : t = n
          · subst c; exact k
          · exact h t (by omega)⟩⟩
      · exact ⟨c, .inr ⟨h2, n, i, by omega, h1, h3, h4, h⟩⟩
    · exact ⟨c, .inr ⟨hc, t, i, by omega, hi, hr, hb, hu⟩⟩
theorem world_ex (d : WorldD) : ∃ X, WldAns d X := by
  unfold WldAns
  refine stair_ex ?_ _
  obtain ⟨c, hc⟩ := recs_ex d.shape d.tapes.2 d.tapes.1
  by_cases h : c = 0
  · subst h
    obtain ⟨x, hx⟩ := stair_ex (K := isZ) ⟨0, rfl⟩ [(CleanP d, 1), (CountP d, 3)]
    exact ⟨x, .inr ⟨hc, hx⟩⟩
  · exact ⟨c, .inl ⟨h, hc⟩⟩
end Go.Proofs.YthdknhjaohhfiaaGreat

namespace Go.Proofs.YthdknhjaohhfiaaGreat
open Go.RowKit F256
set_option linter.unusedVariables false

/-- what is known of an element's type -/
structure ElInfo {α : Type} (E : Lay α) (T e : TypeId) (by_ : Nat) (zs : List Value) : Prop where
  hs : 0 < E.sz
  hzs : zs.length = E.sz
  hu : Tryz.prog.underlying T = some (.slice e)
  hi : (Tryz.prog.info? e).map (fun i => (i.zero.map (·.cells), i.size, i.bytes)) = some (some zs.toArray, E.sz, by_)
  few : by_ ≤ 1000
/-- gathered: n elements x in blocks from lo on -/
def Gat {α : Type} (E : Lay α) (t : TypeId) (w : World) (lo : Nat) (v : Value) (n : Nat) (x : Nat → α) : Prop := ∃ ce Ls, SlG E t w lo v n x ce Ls
section
variable {α : Type} {E : Lay α} {t : TypeId} {w w' : World} {lo n : Nat} {v : Value} {x : Nat → α}
theorem Gat.nil (x : Nat → α) (w : World) (lo : Nat) : Gat E t w lo (.slice none 0 0) 0 x := ⟨_, _, SlG.nil x w lo⟩
theorem Gat.form (h : Gat E t w lo v n x) : ∃ ao cap, v = .slice ao n cap := by
  obtain ⟨ce, Ls, h⟩ := h
  rcases h.row.2 with ⟨hv, hn⟩ | ⟨g, cap, cur, rfl, _⟩
  · exact ⟨none, 0, by rw [hv, hn]⟩
  · exact ⟨_, _, rfl⟩
theorem Gat.below (h : Gat E t w lo v n x) (hb : Below w.heap.size w w') : Gat E t w' lo v n x := by
  obtain ⟨ce, Ls, h⟩ := h
  exact ⟨ce, Ls, h.below hb⟩
theorem Gat.own (h : Gat E t w lo v n x) : OwnT (E.slice t) w lo w.heap.size (n, x) [v] := by
  obtain ⟨ce, Ls, h⟩ := h
  exact h.own
theorem Gat.congr {y : Nat → α} (h : Gat E t w lo v n x) (hy : ∀ i, i < n → x i = y i) : Gat E t w lo v n y := by
  obtain ⟨ce, Ls, h⟩ := h
  exact ⟨ce, Ls, h.row, fun i hi => by rw [← hy i hi]; exact h.each i hi, h.nd, h.low⟩
theorem SlG.mem_low {ce : Nat → List Value} {Ls : Nat → List Nat} (h : SlG E t w lo v n x ce Ls) : ∀ b, b ∈ v.ownBlock.toList ++ catN n Ls → lo ≤ b := fun b hb => by
  rcases List.mem_append.1 hb with h1 | h1
  · exact (h.row.lt b (by simpa using h1)).1
  · exact h.low b h1
/-- a store ahead of what is gathered -/
theorem Gat.set (h : Gat E t w lo v n x) (b j : Nat) (u : Value) (hb : b < lo) : Gat E t (w.setCell ⟨b, j, none⟩ u) lo v n x := by
  obtain ⟨ce, Ls, h⟩ := h
  exact ⟨ce, Ls, h.kept (fun k hk => heap_setCell_other w ⟨b, j, none⟩ k u (by have := h.mem_low k hk; show k ≠ b; omega))⟩
theorem Gat.weaken {lo' : Nat} (h : Gat E t w lo v n x) (hl : lo' ≤ lo) : Gat E t w lo' v n x := by
  obtain ⟨ce, Ls, h⟩ := h
  refine ⟨ce, Ls, ⟨h.row.1, ?_⟩, h.each, h.nd, fun b hb => Nat.le_trans hl (h.low b hb)⟩
  rcases h.row.2 with hn | ⟨g, cap, cur, rfl, hbg, rest⟩
  · exact .inl hn
  · exact .inr ⟨g, cap, cur, rfl, by omega, rest⟩
/-- []E{} -/
theorem gat_lit0 (x : Nat → α) (w : World) : Gat E t (w.alloc (.cells #[] t)) w.heap.size (.slice (some ⟨w.heap.size, 0, none⟩) 0 0) 0 x := by
  have h := World.ownsRow_lit (base := w.heap.size) (e := t) (size := E.sz) w #[] 0 (Nat.le_refl _) (Nat.zero_le _) (by simp)
  exact ⟨fun _ => [], fun _ => [], by simpa [catN_zero] using h, fun i hi => by omega, by simp [Value.ownBlock, catN_zero], fun b hb => by rw [catN_zero] at hb; cases hb⟩
end
theorem cells_new (w : World) (cs : List Value) (t : TypeId) (j : Nat) : (w.alloc (.cells cs.toArray t)).cell? ⟨w.heap.size, j, none⟩ = cs[j]? := by
  simp
/-- append(v, a), a made behind what is gathered and laid into a block of its own -/
theorem run_appendN {α : Type} {E : Lay α} {T e : TypeId} {by_ : Nat} {zs : List Value} (I : ElInfo E T e by_ zs) (ty : TypeId) {w1 w2 W : World} {lo n : Nat} {v : Value} {x : Nat → α} (hG : Gat E e w1 lo v n x)
    (hb : Below w1.heap.size w1 w2) {d : α} {cs : List Value} (ha : OwnT E w2 w1.heap.size w2.heap.size d cs) (hW : Below w2.heap.size w2 W) (b c : Nat) (hcell : ∀ j, j < E.sz → W.cell? ⟨b, j, none⟩ = cs[j]?) (hlo : lo ≤ w1.heap.size) (hn : n ≤ 10000000) :
    ∃ v' w', (Builtin.append_ #[T, T] ty #[v, .slice (some ⟨b, 0, none⟩) 1 c]).run Tryz.prog W = .ok v' w' ∧ Gat E e w' lo v' (n + 1) (upd x n d) ∧ Below lo w1 w' := by
  obtain ⟨hs, hzs, hu, hi, few⟩ := I
  obtain ⟨i0, hi0⟩ : ∃ i0, Tryz.prog.info? e = some i0 := by
    cases h : Tryz.prog.info? e with
    | none => rw [h] at hi; cases hi
    | some i0 => exact ⟨i0, rfl⟩
  rw [hi0] at hi
  simp only [Option.map_some, Option.some.injEq, Prod.mk.injEq] at hi
  obtain ⟨h1, h2, h3⟩ := hi
  obtain ⟨z, hz, hzc⟩ : ∃ z, i0.zero = some z ∧ z.cells = zs.toArray := by
    cases h : i0.zero with
    | none => rw [h] at h1; cases h1
    | some z => rw [h] at h1; exact ⟨z, rfl, by simpa using h1⟩
  obtain ⟨ce, Ls, hG1⟩ := hG
  have hbW : Below w1.heap.size w1 W := hb.trans (hW.mono hb.size)
  have hG2 : SlG E e W lo v n x ce Ls := hG1.below hbW
  obtain ⟨K, a1, a2, a3⟩ := ha
  have ha' : E.own W d cs K := E.own_kept a1 (fun k hk => hW.block k (E.own_lt a1 k hk))
  have hcs := E.own_len a1
  obtain ⟨v', w', hr, r1, r2, r3, r4⟩ := run_append_own_at (P := Tryz.prog) W lo T ty e i0 z E.sz by_ hu hi0 hz h2 h3 (by rw [hzc]; simpa using hzs) hs v n (catN n ce) hG2.row ⟨b, 0, none⟩ 1 c cs (by rw [hcs, Nat.one_mul])
    (fun j u hj => by
      have hlt : j < cs.length := (List.getElem?_eq_some_iff.1 hj).1
      have := hcell j (by omega)
      rw [hj] at this
      rw [add_o]
      exact this) (E.own_one ha') (by unfold maxLen; omega) (by
        have : (n + 1) * by_ ≤ 10000001 * 1000 := Nat.mul_le_mul (by omega) few
        omega) (Nat.le_trans hlo hbW.size)
  refine ⟨v', w', hr, ⟨_, _, hG2.grown ha' a2 (fun k hk => ?_) r1 r2 r4⟩, ?_⟩
  · have h5 := (a3 k hk).1
    exact ⟨by omega, fun hh => by have := hG1.mem_lt k hh; omega⟩
  · exact (hbW.mono hlo).grown r2 (Nat.le_trans hlo hbW.size) (fun k hk => (hG2.row.lt k hk).1)
theorem wp_appendN {α : Type} {E : Lay α} {T e : TypeId} {by_ : Nat} {zs : List Value} (I : ElInfo E T e by_ zs) {w1 w2 W : World} {ops : Array Oper} {rest : List Oper} {o : Oper} {a : Act} {Q : Exit → Act → World → Prop}
    (hg : o.guard = none) (s y : Operand) (hop : o.op = Op.call { callee := Callee.builtin Builtin.append, args := #[s, y], argTypes := #[T, T] })
    {lo n : Nat} {v : Value} {x : Nat → α} (hev : a.eval s = v) (hG : Gat E e w1 lo v n x)
    (hb : Below w1.heap.size w1 w2) {d : α} {cs : List Value} (ha : OwnT E w2 w1.heap.size w2.heap.size d cs) (hW : Below w2.heap.size w2 W) (b c : Nat) (hx : a.eval y = .slice (some ⟨b, 0, none⟩) 1 c) (hcell : ∀ j, j < E.sz → W.cell? ⟨b, j, none⟩ = cs[j]?) (hlo : lo ≤ w1.heap.size) (hn : n ≤ 10000000)
    (hK : ∀ v' w', Gat E e w' lo v' (n + 1) (upd x n d) → Below lo w1 w' → wpList Tryz.prog ops Q rest (a.put o.dst v') w') : wpList Tryz.prog ops Q (o :: rest) a W := by
  refine wpList_plain hg fun K hK' => ?_
  obtain ⟨v', w', hrun, r1, r2⟩ := run_appendN I o.type hG hb ha hW b c hcell hlo hn
  unfold Oper.wp
  simp [execOp, hop, resolve, invoke, builtin, hev, hx, hrun, Result.andThen]
  exact hK' _ _ (hK v' w' r1 r2)
theorem step_appendN {α : Type} {E : Lay α} {T e : TypeId} {by_ : Nat} {zs : List Value} (I : ElInfo E T e by_ zs) {w1 w2 W : World} {ops : Array Oper} {o : Oper} {a : Act} {K : Act → World → Prop} {Q : Exit → Act → World → Prop} {F : Prop}
    (hg : o.guard = none) (s y : Operand) (hop : o.op = Op.call { callee := Callee.builtin Builtin.append, args := #[s, y], argTypes := #[T, T] })
    {lo n : Nat} {v : Value} {x : Nat → α} (hev : a.eval s = v) (hG : Gat E e w1 lo v n x)
    (hb : Below w1.heap.size w1 w2) {d : α} {cs : List Value} (ha : OwnT E w2 w1.heap.size w2.heap.size d cs) (hW : Below w2.heap.size w2 W) (b c : Nat) (hx : a.eval y = .slice (some ⟨b, 0, none⟩) 1 c) (hcell : ∀ j, j < E.sz → W.cell? ⟨b, j, none⟩ = cs[j]?) (hlo : lo ≤ w1.heap.size) (hn : n ≤ 10000000)
    (hK : ∀ v' w', Gat E e w' lo v' (n + 1) (upd x n d) → Below lo w1 w' → K (a.put o.dst v') w') :
    if Region.wanted o (yielded ops a.tmps) = true then Oper.wp Tryz.prog o a W K Q else F := by
  have hw : Region.wanted o (yielded ops a.tmps) = true := by simp [Region.wanted, hg]
  rw [if_pos hw]
  obtain ⟨v', w', hrun, r1, r2⟩ := run_appendN I o.type hG hb ha hW b c hcell hlo hn
  unfold Oper.wp
  simp [execOp, hop, resolve, invoke, builtin, hev, hx, hrun, Result.andThen]
  exact hK v' w' r1 r2
end Go.Proofs.YthdknhjaohhfiaaGreat

namespace Go.Proofs.YthdknhjaohhfiaaGreat
open Go.RowKit F256
set_option linter.unusedVariables false
set_option linter.unusedSimpArgs false

def blankB : BlockD := ⟨0, (4, fun _ => 0)⟩
def freshD (rows : Nat) : DriveD := ⟨false, (rows, fun _ => blankB)⟩
theorem ownB_T {w : World} {lo hi n : Nat} {v : Value} {f : Nat → Nat} (h : Own w lo hi v n f) (hh : hi ≤ w.heap.size) (kf : ∀ i, f i < 256) : OwnT layBytes w lo hi (n, f) [v] := by
  refine ⟨v.ownBlock.toList, ⟨v, rfl, rfl, h.weaken (Nat.zero_le _) hh, kf⟩, ?_, fun b hb => ?_⟩
  · cases v.ownBlock <;> simp
  · have hb' : v.ownBlock = some b := by simpa using hb
    exact ⟨(h.1.lt b hb').1, h.2 b hb'⟩
/-- an element's info -/
theorem el_Block : ElInfo layBlock 104 108 32 [.int .i64 0, .slice none 0 0] := ⟨by decide, rfl, Tryz.underlying104, by kernel_rfl, by decide⟩
theorem el_Drive : ElInfo layDrive 103 106 32 [.bool false, .slice none 0 0] := ⟨by decide, rfl, Tryz.underlying103, by kernel_rfl, by decide⟩
theorem el_DriveS : ElInfo (layDrive.slice 106) 35 103 24 [.slice none 0 0] := ⟨by decide, rfl, Tryz.underlying35, by kernel_rfl, by decide⟩

theorem Three.low {w wc w' : World} {c1 c2 c3 : Array Value} {t1 t2 t3 : TypeId} (h : Three w wc c1 c2 c3 t1 t2 t3) (hb : Below (w.heap.size + 1 + 1 + 1) wc w') : Three w w' c1 c2 c3 t1 t2 t3 :=
  ⟨h.b1.below hb (by omega), h.b2.below hb (by omega), h.b3.below hb (by omega), h.bel.trans (hb.mono (by omega))⟩
end Go.Proofs.YthdknhjaohhfiaaGreat

namespace Go.Proofs.YthdknhjaohhfiaaGreat
open Go.RowKit F256
set_option linter.unusedVariables false
section
variable {α : Type} {E : Lay α} {t : TypeId} {w w1 : World} {lo g cap n k : Nat} {x : Nat → α} {ce : Nat → List Value} {Ls : Nat → List Nat}
/-- the element k is laid now; w1: a world in which the others were there and none of its blocks -/
theorem SlP.count {x1 : Nat → α} {ce1 : Nat → List Value} (h1 : SlP E t w1 lo g cap n k x1 ce1 Ls) (h : SlP E t w lo g cap n k x ce Ls) {a : α} {K : List Nat} (ha : E.own w a (ce k) K) (hnd : K.Nodup) (hK : ∀ b, b ∈ K → w1.heap.size ≤ b) (hlo : lo ≤ w1.heap.size) :
    SlP E t w lo g cap n (k + 1) (upd x k a) ce (upd Ls k K) := by
  have eL : catN (k + 1) (upd Ls k K) = catN k Ls ++ K := by
    rw [catN_succ, upd_at, catN_congr (g := Ls) (fun i hi => upd_ne Ls K (by omega))]
  refine ⟨h.row, h.lens, fun i hi => ?_, ?_, ?_⟩
  · by_cases c : i = k
    · subst c; rw [upd_at, upd_at]; exact ha
    · rw [upd_ne x a c, upd_ne Ls K c]; exact h.each i (by omega)
  · rw [eL]
    refine List.nodup_cons.2 ⟨fun hb => ?_, List.nodup_append.2 ⟨(List.nodup_cons.1 h.nd).2, hnd, fun b hb c hc hh => ?_⟩⟩
    · rcases List.mem_append.1 hb with h3 | h3
      · exact (List.nodup_cons.1 h.nd).1 h3
      · have := hK g h3; have := h1.lt; omega
    · subst hh
      have k1 := h1.mem_lt b hb
      have k2 := hK b hc
      omega
  · rw [eL]
    intro b hb
    rcases List.mem_append.1 hb with h3 | h3
    · exact h.low b h3
    · have := hK b h3; omega
theorem SlP.congr {y : Nat → α} (h : SlP E t w lo g cap n k x ce Ls) (hy : ∀ i, i < k → x i = y i) : SlP E t w lo g cap n k y ce Ls := ⟨h.row, h.lens, fun i hi => by rw [← hy i hi]; exact h.each i hi, h.nd, h.low⟩
/-- all elements zero and without memory -/
theorem SlP.zero {zs : List Value} {a : α} (h : SlP E t w lo g cap n 0 x (fun _ => zs) Ls) (hz : E.own w a zs []) (hg : lo ≤ g) : OwnT (E.slice t) w lo w.heap.size (n, fun _ => a) [.slice (Option.some ⟨g, 0, none⟩) n cap] := by
  have e : ∀ m, catN m (fun _ => ([] : List Nat)) = [] := fun m => by
    induction m with
    | zero => rfl
    | succ m ih => rw [catN_succ, ih]; rfl
  have h2 : SlP E t w lo g cap n n (fun _ => a) (fun _ => zs) (fun _ => []) := ⟨h.row, h.lens, fun i _ => hz, by rw [e]; simp, fun b hb => by rw [e] at hb; cases hb⟩
  exact h2.done hg
end
end Go.Proofs.YthdknhjaohhfiaaGreat

namespace Go.Proofs.YthdknhjaohhfiaaGreat
open Go.RowKit F256
set_option linter.unusedVariables false
def noRec : RecD := ⟨0, 0, ByteArray.empty, 0, 0, 0, (0, fun _ => 0), (0, fun _ => 0), (0, fun _ => 0)⟩
def zeroT : TapeD := ⟨false, (0, fun _ => noRec)⟩
def zeroW : WorldD := ⟨fun _ => 0, (0, fun _ => (0, fun _ => freshD 0)), (0, fun _ => 0), (0, fun _ => zeroT), 0, 0, false⟩
def newW (s : Nat → Int) : WorldD := ⟨s, ((s 0 + s 1).toNat, fun _ => ((s 2 + s 3).toNat, fun _ => freshD (s 4).toNat)), (0, fun _ => 0), (2, fun _ => zeroT), 0, -1, false⟩
def NewAns (s : Nat → Int) (d : WorldResultD) : Prop := (¬ OkShape s ∧ d = ⟨3, zeroW⟩) ∨ (OkShape s ∧ d = ⟨0, newW s⟩)
theorem NewAns.one {s : Nat → Int} {d e : WorldResultD} (h : NewAns s d) (k : NewAns s e) : d = e := by
  rcases h with ⟨h1, h2⟩ | ⟨h1, h2⟩ <;> rcases k with ⟨k1, k2⟩ | ⟨k1, k2⟩
  · rw [h2, k2]
  · exact absurd k1 h1
  · exact absurd h1 k1
  · rw [h2, k2]
/-- a world's result is told: memory of its own -/
def ResPost (P : WorldResultD → Prop) (w : World) (e : Ending) (w' : World) : Prop := ∃ d cs, e = .returned (.agg cs.toArray) ∧ P d ∧ OwnT layWorldResult w' w.heap.size w'.heap.size d cs ∧ Below w.heap.size w w'
theorem el_Tape : ElInfo layTape 36 112 32 [.bool false, .slice none 0 0] := ⟨by decide, rfl, Tryz.underlying36, by kernel_rfl, by decide⟩
theorem own_noInts (w : World) (f : Nat → Int) (h : ∀ i, -9223372036854775808 ≤ f i ∧ f i ≤ 9223372036854775807) : layInts.own w (0, f) [.slice none 0 0] [] := ⟨_, rfl, rfl, ⟨⟨rfl, .inl ⟨rfl, rfl⟩⟩, fun k hk => by cases hk⟩, h⟩
theorem own_noSl {α : Type} {E : Lay α} {t : TypeId} (w : World) (x : Nat → α) : (E.slice t).own w (0, x) [.slice none 0 0] [] := ⟨_, fun _ => [], fun _ => [], rfl, rfl, World.ownsRow_nil w 0 t E.sz, fun i hi => by omega⟩
theorem own_zeroT (w : World) : layTape.own w zeroT [.bool false, .slice none 0 0] [] := ⟨_, _, [], [], rfl, rfl, ⟨rfl, trivial, rfl⟩, own_noSl w _⟩
theorem own_zeroW (w : World) : layWorld.own w zeroW [.int .i64 0, .int .i64 0, .int .i64 0, .int .i64 0, .int .i64 0, .int .i64 0, .int .i64 0, .int .i64 0, .int .i64 0, .slice none 0 0, .slice none 0 0, .slice none 0 0, .int .i64 0, .int .i64 0, .bool false] [] := by
  have h := World_mk (w := w) zeroW (ao1 := none) (ao2 := none) (ao3 := none) (cap1 := 0) (cap2 := 0) (cap3 := 0) (own_noSl w _) (own_noInts w _ (fun _ => by decide)) (own_noSl w _) (fun i => show (-9223372036854775808 : Int) ≤ 0 ∧ (0 : Int) ≤ 9223372036854775807 by decide) (show (-9223372036854775808 : Int) ≤ 0 ∧ (0 : Int) ≤ 9223372036854775807 by decide) (show (-9223372036854775808 : Int) ≤ 0 ∧ (0 : Int) ≤ 9223372036854775807 by decide)
  exact h
theorem own_resOf {w : World} {lo hi : Nat} {d : WorldD} {cs : List Value} (c : Int) (hc : -9223372036854775808 ≤ c ∧ c ≤ 9223372036854775807) (h : OwnT layWorld w lo hi d cs) : OwnT layWorldResult w lo hi ⟨c, d⟩ (.int .i64 c :: cs) :=
  OwnT.conv (OwnT.pre (A := layI) (a := c) (c := [.int .i64 c]) ⟨rfl, hc, rfl⟩ h)
theorem own_resCode (w : World) (c : Int) (hc : -9223372036854775808 ≤ c ∧ c ≤ 9223372036854775807) (lo hi : Nat) : OwnT layWorldResult w lo hi ⟨c, zeroW⟩ (.int .i64 c :: [.int .i64 0, .int .i64 0, .int .i64 0, .int .i64 0, .int .i64 0, .int .i64 0, .int .i64 0, .int .i64 0, .int .i64 0, .slice none 0 0, .slice none 0 0, .slice none 0 0, .int .i64 0, .int .i64 0, .bool false]) := own_resOf c hc (OwnT.nil (own_zeroW w) lo hi)
theorem Box.chgl {w w' : World} {b : Nat} {cs : Array Value} {t : TypeId} {K : List Nat} (h : Box w b cs t) (hc : ChgL K w w') (hb : b ∉ K) : Box w' b cs t := (hc.block b h.lt hb).trans h
theorem ChgL.bel {K : List Nat} {w w' : World} {B : Nat} (hc : ChgL K w w') (hK : ∀ b, b ∈ K → B ≤ b) (hB : B ≤ w.heap.size) : Below B w w' := ⟨hc.os, hc.tape, hc.output, hc.size, fun k hk => hc.block k (by omega) (fun h => by have := hK k h; omega)⟩
theorem ChgL.after {K : List Nat} {a b c : World} (h : ChgL K a b) (k : Below a.heap.size b c) : ChgL K a c := ⟨k.os.trans h.os, k.tape.trans h.tape, k.output.trans h.output, Nat.le_trans h.size k.size, fun i hi hn => (k.block i hi).trans (h.block i hi hn)⟩
theorem Two.chgl {w wc w' : World} {c1 c2 : Array Value} {t1 t2 : TypeId} {P : Nat} (h : Two w wc c1 c2 t1 t2) (hc : ChgL [P] wc w') (hP : w.heap.size + 1 < P) : Two w w' c1 c2 t1 t2 :=
  ⟨h.b1.chgl hc (by simp; omega), h.b2.chgl hc (by simp; omega), h.bel.trans (hc.bel (fun b hb => by simp at hb; omega) h.bel.size)⟩
theorem OwnT.finb {α : Type} {A : Lay α} {w : World} {lo b : Nat} {a : α} {cs : List Value} (h : OwnT A w lo w.heap.size a cs) (hb : b < lo) {lo' : Nat} (hl : lo' ≤ lo) (o : Nat) (l : List Value) (w' : World) (e : w' = Go.Proofs.YthdknhjaohhfiaaGreat.stN w b o l) : OwnT A w' lo' w'.heap.size a cs := by
  subst e
  exact (h.stN b o l hb).weaken hl (by rw [stN_size]; exact Nat.le_refl _)
/-- a world's box and its two tapes, new -/
structure NewBx (cs : Array Value) (w1 wx : World) (P t : Nat) : Prop where
  box : Box wx P cs 38
  tp : (layTape.slice 112).own wx (2, fun _ => zeroT) [.slice (some ⟨t, 0, none⟩) 2 2] [t]
  p1 : w1.heap.size ≤ P
  t1 : w1.heap.size ≤ t
  ne : t ≠ P
  bel : Below w1.heap.size w1 wx
theorem SlP.two {w : World} {lo t cap : Nat} {x : Nat → TapeD} {Ls : Nat → List Nat} (h : SlP layTape 112 w lo t cap 2 0 x (fun _ => [.bool false, .slice none 0 0]) Ls) : (layTape.slice 112).own w (2, fun _ => zeroT) [.slice (Option.some ⟨t, 0, none⟩) 2 cap] [t] := by
  refine ⟨_, fun _ => [.bool false, .slice none 0 0], fun _ => [], rfl, rfl, ⟨h.row.1, ?_⟩, fun i _ => own_zeroT w⟩
  rcases h.row.2 with ⟨hn, _⟩ | ⟨g', cap', cur, he, hbg, rest⟩
  · cases hn
  · exact .inr ⟨g', cap', cur, he, Nat.zero_le _, rest⟩
end Go.Proofs.YthdknhjaohhfiaaGreat

namespace Go.Proofs.YthdknhjaohhfiaaGreat
open Go.RowKit F256
set_option linter.unusedVariables false
theorem mark_T {α : Type} {A : Lay α} {c : α → Nat} {mk : Nat → α → α} {fn : Nat} (hm : MkV A c mk fn) {w : World} {lo hi : Nat} {d : α} {cs : List Value} (h : OwnT A w lo hi d cs) (j : Nat) (hj : j + c d ≤ 100000000) :
    Calls Tryz.prog fn #[.agg cs.toArray, .int .i64 j] w fun e w' => e = .returned (.int .i64 ((j + c d : Nat) : Int)) ∧ OwnT A w' lo hi (mk j d) cs ∧ Chg lo hi w w' := by
  obtain ⟨L, h1, h2, h3⟩ := h
  exact (hm cs d L j w h1 h2 hj).mono fun e w' ⟨he, ho, hc⟩ => ⟨he, ⟨L, ho, h2, h3⟩, hc.chg h3⟩
theorem Chg.bel {lo hi B : Nat} {w w' : World} (h : Chg lo hi w w') (hl : B ≤ lo) (hB : B ≤ w.heap.size) : Below B w w' := ⟨h.os, h.tape, h.output, h.size, fun k hk => h.block k (by omega) (.inl (by omega))⟩
theorem sumN_mono2 {f g : Nat → Nat} : ∀ {n : Nat}, (∀ i, i < n → f i ≤ g i) → sumN f n ≤ sumN g n
  | 0, _ => Nat.le_refl _
  | n + 1, h => by
    rw [sumN_succ, sumN_succ]
    exact Nat.add_le_add (sumN_mono2 (fun i hi => h i (by omega))) (h n (by omega))
theorem sumN_plus (f : Nat → Nat) (c k : Nat) : ∀ n : Nat, sumN (fun i => c + k * f i) n = n * c + k * sumN f n
  | 0 => by simp [sumN]
  | n + 1 => by rw [sumN_succ, sumN_plus f c k n, sumN_succ, Nat.succ_mul, Nat.mul_add]; omega
/-- marks of a slice: at most k times its measure -/
theorem cSl_le {α : Type} {c s : α → Nat} {k : Nat} (h : ∀ a, c a ≤ k + k * s a) (p : Nat × (Nat → α)) : cSl c p ≤ k * szSl s p := by
  unfold cSl szSl
  have h1 : sumN (fun i => c (p.2 i)) p.1 ≤ sumN (fun i => k + k * s (p.2 i)) p.1 := sumN_mono2 (fun i _ => h (p.2 i))
  rw [sumN_plus (fun i => s (p.2 i)) k k p.1] at h1
  rw [Nat.mul_add]
  have : p.1 * k = k * p.1 := Nat.mul_comm _ _
  omega
theorem cBlock_le (d : BlockD) : cBlockD d ≤ 6 + 6 * szBlockD d := by unfold cBlockD szBlockD; omega
theorem cDrive_le (d : DriveD) : cDriveD d ≤ 6 + 6 * szDriveD d := by
  have := cSl_le (k := 6) cBlock_le d.blocks
  unfold cDriveD szDriveD
  omega
theorem cRec_le (d : RecD) : cRecD d ≤ 6 + 6 * szRecD d := by unfold cRecD szRecD; omega
theorem cTape_le (d : TapeD) : cTapeD d ≤ 6 + 6 * szTapeD d := by
  have := cSl_le (k := 6) cRec_le d.recs
  unfold cTapeD szTapeD
  omega
theorem cvWorld_le (d : WorldD) : cvWorldD d ≤ 6 * szWorldD d := by
  have h1 := cSl_le (c := cSl cDriveD) (s := szSl szDriveD) (k := 6) (fun p => Nat.le_trans (cSl_le (k := 6) cDrive_le p) (by omega)) d.groups
  have h3 := cSl_le (k := 6) cTape_le d.tapes
  unfold cvWorldD szWorldD
  omega
end Go.Proofs.YthdknhjaohhfiaaGreat

namespace Go.Proofs.YthdknhjaohhfiaaGreat
open Go.RowKit F256
set_option linter.unusedVariables false
theorem OwnT.one {α : Type} {A : Lay α} {w : World} {lo hi : Nat} {a : α} {cs : List Value} (h : OwnT A w lo hi a cs) : ∀ v, v ∈ cs → v.oneCell' = true := by
  obtain ⟨L, h1, _⟩ := h
  exact fun v hv => A.own_one h1 v hv
theorem wp_allocStore {ops : Array Oper} {rest : List Oper} {o1 o2 : Oper} {a : Act} {w : World} {Q : Exit → Act → World → Prop} (T : TypeId) (k : Nat) (x : Operand) (cs : List Value) (zs : Array Value) (n : Nat)
    (hop1 : o1.op = Op.alloc T) (hop2 : o2.op = Op.store T (.tmp k) x) (hg1 : o1.guard = none) (hg2 : o2.guard = none) (hd1 : o1.dst = some k) (hd2 : o2.dst = none)
    (hp : (a.put (some k) (.pointer (some ⟨w.heap.size, 0, none⟩))).eval (.tmp k) = .pointer (some ⟨w.heap.size, 0, none⟩)) (hx : (a.put (some k) (.pointer (some ⟨w.heap.size, 0, none⟩))).eval x = .agg cs.toArray)
    (hi : (Tryz.prog.info? T).map (fun i => (i.zero.map (·.cells), i.size)) = some (some zs, n)) (hz : zs.size = n) (hl : cs.length = n) (h1 : ∀ v, v ∈ cs → v.oneCell' = true)
    (h : wpList Tryz.prog ops Q rest (a.put (some k) (.pointer (some ⟨w.heap.size, 0, none⟩))) (w.alloc (.cells cs.toArray T))) : wpList Tryz.prog ops Q (o1 :: o2 :: rest) a w := by
  obtain ⟨i0, hi0⟩ : ∃ i0, Tryz.prog.info? T = some i0 := by
    cases h : Tryz.prog.info? T with
    | none => rw [h] at hi; cases hi
    | some i0 => exact ⟨i0, rfl⟩
  rw [hi0] at hi
  simp only [Option.map_some, Option.some.injEq, Prod.mk.injEq] at hi
  obtain ⟨h2, h3⟩ := hi
  obtain ⟨z, hzz, hzc⟩ : ∃ z, i0.zero = some z ∧ z.cells = zs := by
    cases h : i0.zero with
    | none => rw [h] at h2; cases h2
    | some z => rw [h] at h2; exact ⟨z, rfl, by simpa using h2⟩
  have hr : (Instr.alloc T true (.tuple #[])).run Tryz.prog w = .ok (.pointer (some ⟨w.heap.size, 0, none⟩)) (w.alloc (.cells zs T)) := by
    simp [Instr.alloc, zeroValue, typeInfo, hi0, hzz, hzc, newVar, newRow]
  have hw : (w.alloc (.cells zs T)).setRow w.heap.size cs.toArray = w.alloc (.cells cs.toArray T) := by
    have hh : ((w.alloc (.cells zs T)).setRow w.heap.size cs.toArray).heap = w.heap.push (.cells cs.toArray T) := by
      apply Array.ext_getElem?
      intro i
      by_cases c : i = w.heap.size
      · subst c
        rw [setRow_heap (w.alloc (.cells zs T)) w.heap.size zs cs.toArray T (0, 0) (box_new w zs T), Array.getElem?_push, if_pos rfl]
      · rw [setRow_other _ _ _ _ c, Array.getElem?_push, if_neg c]
        show (w.heap.push _)[i]? = _
        rw [Array.getElem?_push, if_neg c]
    show ({ w with heap := ((w.alloc (.cells zs T)).setRow w.heap.size cs.toArray).heap } : World) = _
    rw [hh]
    rfl
  refine wpList_plain hg1 fun K hK => ?_
  unfold Oper.wp execOp
  simp only [hop1, Sem.run_bind, hr, Result.andThen_ok]
  refine hK _ _ ?_
  rw [hd1]
  refine wpList_store_row hg2 T (.tmp k) x hop2 w.heap.size cs.toArray hp hx T zs (box_new w zs T) (by rw [hi0]; simp [h3, hl]) (by simp [hz, hl]) (by simp; exact h1) ?_
  rw [hw, hd2]
  exact h
/-- a whole struct loaded -/
theorem wp_loadBox {ops : Array Oper} {rest : List Oper} {o : Oper} {a : Act} {w : World} {Q : Exit → Act → World → Prop} (T : TypeId) (x : Operand) (ho : o.op = .load T x) (hgd : o.guard = none) (b : Nat) (hx : a.eval x = .pointer (some ⟨b, 0, none⟩)) {cs : List Value} (hB : Box w b cs.toArray T) {fs : Array Field} (hu : Tryz.prog.underlying T = some (.struct fs)) {n : Nat} (hi : (Tryz.prog.info? T).map (·.size) = some n) (hl : cs.length = n)
    (h : wpList Tryz.prog ops Q rest (a.put o.dst (.agg cs.toArray)) w) : wpList Tryz.prog ops Q (o :: rest) a w :=
  wpList_load_row hgd T x ho b hx T cs.toArray (0, 0) (.struct fs) hB hu rfl (by rw [hi]; simp [hl]) h
theorem OwnT.len {α : Type} {A : Lay α} {w : World} {lo hi : Nat} {a : α} {cs : List Value} (h : OwnT A w lo hi a cs) : cs.length = A.sz := by
  obtain ⟨L, h1, _⟩ := h
  exact A.own_len h1
theorem size_WR : (Tryz.prog.info? 40).map (·.size) = some 16 := by kernel_rfl
theorem size_W : (Tryz.prog.info? 38).map (·.size) = some 15 := by kernel_rfl
theorem size_LW : (Tryz.prog.info? 28).map (·.size) = some 15 := by kernel_rfl
theorem info_WR : (Tryz.prog.info? 40).map (fun i => (i.zero.map (·.cells), i.size)) = some (some #[.int .i64 0, .int .i64 0, .int .i64 0, .int .i64 0, .int .i64 0, .int .i64 0, .int .i64 0, .int .i64 0, .int .i64 0, .int .i64 0, .slice none 0 0, .slice none 0 0, .slice none 0 0, .int .i64 0, .int .i64 0, .bool false], 16) := by kernel_rfl
theorem info_W : (Tryz.prog.info? 38).map (fun i => (i.zero.map (·.cells), i.size)) = some (some #[.int .i64 0, .int .i64 0, .int .i64 0, .int .i64 0, .int .i64 0, .int .i64 0, .int .i64 0, .int .i64 0, .int .i64 0, .slice none 0 0, .slice none 0 0, .slice none 0 0, .int .i64 0, .int .i64 0, .bool false], 15) := by kernel_rfl
end Go.Proofs.YthdknhjaohhfiaaGreat

namespace Go.Proofs.YthdknhjaohhfiaaGreat
open Go.RowKit
set_option linter.unusedVariables false
section
variable {P : Program} {ops : Array Oper} {Q : Exit → Act → World → Prop} {md : Region.Mode} {S : World → Prop} {L : Nat}
/-- whatever order is picked; S holds behind every operation but L -/
def wpAnyL (P : Program) (md : Region.Mode) (ops : Array Oper) (Q : Exit → Act → World → Prop) (S : World → Prop) (L : Nat) : Nat → Array Bool → Act → World → Prop
  | 0, listed, a, w => Region.ready md ops listed = [] ∧ Q .normal a w
  | fuel + 1, listed, a, w =>
    (Region.ready md ops listed = [] → Q .normal a w) ∧
    ∀ i ∈ Region.ready md ops listed, wpOp P ops Q i (fun a' w' => (i ≠ L → S w') ∧ wpAnyL P md ops Q S L fuel (listed.setIfInBounds i true) a' w') a w
theorem wpAny_of_L : ∀ (fuel : Nat) (listed : Array Bool) (a : Act) (w : World), wpAnyL P md ops Q S L fuel listed a w → wpAny P md ops Q fuel listed a w
  | 0, _, _, _, h => h
  | fuel + 1, _, _, _, h => ⟨h.1, fun i hi => wpOp_mono (fun a' w' h' => wpAny_of_L fuel _ a' w' h'.2) (h.2 i hi)⟩
/-- what has come up came behind all that it waits for -/
def ClosedP (md : Region.Mode) (ops : Array Oper) (listed : Array Bool) : Prop :=
  ∀ j oj, ops[j]? = some oj → listed.getD j false = true → ∀ e ∈ oj.after, Region.binds md e = true → listed.getD e.on false = true
def closedB (md : Region.Mode) (ops : Array Oper) (listed : Array Bool) : Bool :=
  (List.range ops.size).all fun j => !listed.getD j false || ((ops[j]?).map (·.after.all fun e => !Region.binds md e || listed.getD e.on false)).getD false
theorem closed_of {listed : Array Bool} (h : closedB md ops listed = true) : ClosedP md ops listed := fun j oj hj hl e he hb => by
  unfold closedB at h
  have hlt : j < ops.size := (Array.getElem?_eq_some_iff.1 hj).1
  have h1 := List.all_eq_true.1 h j (List.mem_range.2 hlt)
  rw [hl, hj] at h1
  simp only [Bool.not_true, Bool.false_or, Option.map_some, Option.getD_some, Array.all_eq_true_iff_forall_mem] at h1
  have h2 := h1 e he
  rw [hb] at h2
  simpa using h2
theorem closed_step {listed : Array Bool} {j : Nat} (h : ClosedP md ops listed) (hj : j ∈ Region.ready md ops listed) : ClosedP md ops (listed.setIfInBounds j true) := fun k ok hk hl e he hb => by
  obtain ⟨_, o, ho, hall⟩ := mem_ready.1 hj
  by_cases c : j = k
  · subst c
    rw [hk] at ho
    cases ho
    exact getD_set_true (hall e he hb)
  · rw [getD_set_ne false c] at hl
    exact getD_set_true (h k ok hk hl e he hb)
/-- l waits for i, over so many steps -/
def depB (md : Region.Mode) (ops : Array Oper) : Nat → Nat → Nat → Bool
  | 0, l, i => l == i
  | n + 1, l, i => l == i || ((ops[l]?).map (·.after.any fun e => Region.binds md e && depB md ops n e.on i)).getD false
theorem dep_listed {listed : Array Bool} (hc : ClosedP md ops listed) : ∀ (n l i : Nat), depB md ops n l i = true → listed.getD l false = true → listed.getD i false = true
  | 0, l, i, h, hl => by
    unfold depB at h
    have : l = i := by simpa using h
    rw [← this]; exact hl
  | n + 1, l, i, h, hl => by
    unfold depB at h
    rcases Bool.or_eq_true _ _ ▸ h with h1 | h1
    · have : l = i := by simpa using h1
      rw [← this]; exact hl
    · cases ho : ops[l]? with
      | none => rw [ho] at h1; simp at h1
      | some o =>
        rw [ho] at h1
        simp only [Option.map_some, Option.getD_some] at h1
        obtain ⟨k, hk, hbk⟩ := Array.any_eq_true.1 h1
        obtain ⟨hb, hd⟩ := Bool.and_eq_true _ _ ▸ hbk
        exact dep_listed hc n _ i hd (hc l o ho hl _ (Array.getElem_mem hk) hb)
theorem dep_waits {listed : Array Bool} (hc : ClosedP md ops listed) {n i : Nat} (hne : L ≠ i) (hd : depB md ops n L i = true) (hi : listed.getD i false = false) : L ∉ Region.ready md ops listed := fun hL => by
  obtain ⟨_, o, ho, hall⟩ := mem_ready.1 hL
  cases n with
  | zero => unfold depB at hd; exact hne (by simpa using hd)
  | succ n =>
    unfold depB at hd
    rcases Bool.or_eq_true _ _ ▸ hd with h1 | h1
    · exact hne (by simpa using h1)
    · rw [ho] at h1
      simp only [Option.map_some, Option.getD_some] at h1
      obtain ⟨k, hk, hbk⟩ := Array.any_eq_true.1 h1
      obtain ⟨hb, hd'⟩ := Bool.and_eq_true _ _ ▸ hbk
      have := dep_listed hc n _ i hd' (hall _ (Array.getElem_mem hk) hb)
      rw [hi] at this
      cases this
theorem unlisted_false {listed : Array Bool} {i : Nat} (h : listed.getD i true = false) : listed.getD i false = false := by
  rcases Nat.lt_or_ge i listed.size with h' | h'
  · simpa [h'] using h
  · simp [Array.getElem?_eq_none h'] at h
theorem wpAnyL_first {i : Nat} {oi : Oper} {v : Value} (hi : ops[i]? = some oi) (hsel : ∀ (j : Nat) (o : Oper) cs b, ops[j]? = some o → o.op ≠ .select cs b)
    (hQ : ∀ c a w, Q (.panic c) (a.put oi.dst v) w → Q (.panic c) a w) (hLi : L ≠ i) {n : Nat} (hd : depB md ops n L i = true) :
    ∀ (fuel : Nat) (listed : Array Bool) (a : Act) (w : World), ClosedP md ops listed →
      (∀ j oj, ops[j]? = some oj → j ≠ i → listed.getD j true = false → (∀ e ∈ oj.after, Region.binds md e = true → e.on ≠ i) → oi.apart ops oj = true) →
      i ∈ Region.ready md ops listed → YieldsIf P ops S oi v a → S w →
      wpAnyL P md ops Q S L fuel (listed.setIfInBounds i true) (a.put oi.dst v) w → wpAnyL P md ops Q S L (fuel + 1) listed a w := by
  intro fuel
  induction fuel with
  | zero =>
    intro listed a w _ _ hr hy hS H
    refine ⟨fun h => (by rw [h] at hr; cases hr), fun j hj => ?_⟩
    by_cases hji : j = i
    · subst hji; exact hy.wpOp hi hS ⟨fun _ => hS, H⟩
    · have := ready_mono hj hji
      rw [H.1] at this
      cases this
  | succ fuel ih =>
    intro listed a w hcl hfree hr hy hS H
    refine ⟨fun h => (by rw [h] at hr; cases hr), fun j hj => ?_⟩
    by_cases hji : j = i
    · subst hji; exact hy.wpOp hi hS ⟨fun _ => hS, H⟩
    · have hjL : j ≠ L := fun h => by
        subst h
        exact dep_waits hcl hLi hd (unlisted_false (mem_ready.1 hr).1) hj
      have h1 := H.2 j (ready_mono hj hji)
      obtain ⟨hjun, oj, hoj, hall⟩ := mem_ready.1 hj
      have hnot : ∀ e ∈ oj.after, Region.binds md e = true → e.on ≠ i := fun e he hb heq => by
        have h1 := hall e he hb
        have h0 := unlisted_false (mem_ready.1 hr).1
        rw [heq, h0] at h1
        cases h1
      have h2 := wpOp_putIf hoj (hfree j oj hoj hji hjun hnot) (fun cs b => hsel i oi cs b hi) (fun cs b => hsel j oj cs b hoj) hQ hy h1
      have hfree' : ∀ k ok, ops[k]? = some ok → k ≠ i → (listed.setIfInBounds j true).getD k true = false →
          (∀ e ∈ ok.after, Region.binds md e = true → e.on ≠ i) → oi.apart ops ok = true := fun k ok hk hki hun hno => by
        refine hfree k ok hk hki ?_ hno
        by_cases hjk : j = k
        · subst hjk; exact hjun
        · rw [getD_set_ne true hjk] at hun; exact hun
      refine wpOp_mono (fun a' w' h3 => ⟨h3.2.1, ih (listed.setIfInBounds j true) a' w' (closed_step hcl hj) hfree' (ready_mono hr (Ne.symm hji)) h3.1 (h3.2.1 hjL) ?_⟩) h2
      rw [Array.setIfInBounds_comm _ _ hji]
      exact h3.2.2
/-- take number i first -/
theorem wpAnyL_take {i : Nat} {oi : Oper} {v : Value} {fuel : Nat} {listed : Array Bool} {a : Act} {w : World} (n : Nat) (hi : ops[i]? = some oi)
    (hs : (Region.noSelect ops && Region.free md ops listed i && (Region.ready md ops listed).contains i && !(L == i) && depB md ops n L i && closedB md ops listed) = true)
    (hQ : ∀ c a w, Q (.panic c) (a.put oi.dst v) w → Q (.panic c) a w) (hy : YieldsIf P ops S oi v a) (hS : S w)
    (h : wpAnyL P md ops Q S L fuel (listed.setIfInBounds i true) (a.put oi.dst v) w) : wpAnyL P md ops Q S L (fuel + 1) listed a w := by
  simp only [Bool.and_eq_true, Bool.not_eq_true', beq_eq_false_iff_ne] at hs
  obtain ⟨⟨⟨⟨⟨h1, h2⟩, h3⟩, h4⟩, h5⟩, h6⟩ := hs
  exact wpAnyL_first hi (Region.noSelect_spec h1) hQ h4 h5 fuel listed a w (closed_of h6) (Region.free_spec hi h2) (by simpa using h3) hy hS h
/-- one operation alone may come up, and S holds behind it -/
theorem wpAnyL_one {i : Nat} {o : Oper} {fuel : Nat} {listed : Array Bool} {a : Act} {w : World} (ho : ops[i]? = some o) (hr : Region.ready md ops listed = [i])
    (h : ∀ K' : Act → World → Prop, Shut (∀ a w, S w → (S w → wpAnyL P md ops Q S L fuel (listed.setIfInBounds i true) a w) → K' a w) → if Region.wanted o (yielded ops a.tmps) = true then Oper.wp P o a w K' Q else K' (a.put o.dst undef) w) : wpAnyL P md ops Q S L (fuel + 1) listed a w := by
  refine ⟨fun h0 => (by rw [hr] at h0; cases h0), fun j hj => ?_⟩
  rw [hr] at hj
  obtain rfl : j = i := by simpa using hj
  exact wpOp_step ho (fun K' hK => h K' (fun a w hS hW => hK a w ⟨fun _ => hS, hW hS⟩))
/-- the last store: nothing is asked behind it -/
theorem wpAnyL_last {o : Oper} {fuel : Nat} {listed : Array Bool} {a : Act} {w : World} (ho : ops[L]? = some o) (hr : Region.ready md ops listed = [L])
    (h : ∀ K' : Act → World → Prop, Shut (∀ a w, wpAnyL P md ops Q S L fuel (listed.setIfInBounds L true) a w → K' a w) → if Region.wanted o (yielded ops a.tmps) = true then Oper.wp P o a w K' Q else K' (a.put o.dst undef) w) : wpAnyL P md ops Q S L (fuel + 1) listed a w := by
  refine ⟨fun h0 => (by rw [hr] at h0; cases h0), fun j hj => ?_⟩
  rw [hr] at hj
  obtain rfl : j = L := by simpa using hj
  exact wpOp_step ho (fun K' hK => h K' (fun a w hW => hK a w ⟨fun hn => absurd rfl hn, hW⟩))
theorem wpAnyL_done {listed : Array Bool} {a : Act} {w : World} (hr : Region.ready md ops listed = []) (h : Q .normal a w) : ∀ fuel, wpAnyL P md ops Q S L fuel listed a w
  | 0 => ⟨hr, h⟩
  | _ + 1 => ⟨fun _ => h, by rw [hr]; simp⟩
theorem wp_region_L {id : Nat} {a : Act} {w : World} (L : Nat) (S : World → Prop) (hm : P.follows .mixedOrders = true) (hS : S w.drew)
    (h : S w.drew → wpAnyL P .any ops Q S L ops.size (Array.replicate ops.size false) a w.drew) : (Code.region id ops true).wp P Q a w :=
  wp_region_any hm (wpAny_of_L _ _ _ _ (h hS))
end
end Go.Proofs.YthdknhjaohhfiaaGreat

namespace Go.Proofs.YthdknhjaohhfiaaGreat
open Go.RowKit F256
set_option linter.unusedVariables false
theorem chgL_setRow {w : World} (b : Nat) (cs : Array Value) : ChgL [b] w (w.setRow b cs) :=
  ⟨rfl, rfl, rfl, by simp, fun k _ hn => setRow_other w b k cs (fun h => hn (by simp [h]))⟩
/-- a whole struct is stored -/
theorem wp_storeBox {ops : Array Oper} {rest : List Oper} {o : Oper} {a : Act} {w : World} {Q : Exit → Act → World → Prop} (T : TypeId) (x y : Operand) (ho : o.op = .store T x y) (hgd : o.guard = none) (b : Nat) (hx : a.eval x = .pointer (some ⟨b, 0, none⟩)) {cs old : List Value} (hy : a.eval y = .agg cs.toArray) (hB : Box w b old.toArray T) {n : Nat} (hi : (Tryz.prog.info? T).map (·.size) = some n) (hl : cs.length = n) (hol : old.length = n) (h1 : ∀ v, v ∈ cs → v.oneCell' = true)
    (h : ∀ w', Box w' b cs.toArray T → ChgL [b] w w' → w'.heap.size = w.heap.size → wpList Tryz.prog ops Q rest (a.put o.dst undef) w') : wpList Tryz.prog ops Q (o :: rest) a w := by
  refine wpList_store_row hgd T x y ho b cs.toArray hx hy T old.toArray hB (by rw [hi]; simp [hl]) (by simp [hl, hol]) (by simp; exact h1) ?_
  exact h _ (setRow_heap w b _ cs.toArray T (0, 0) hB) (chgL_setRow b _) (by simp)
/-- a struct's block is told -/
theorem ret_box {fn : Func} {R : Ending → World → Prop} {a : Act} {w : World} {p : Tmp} {ty : TypeId} (h : fn.results = #[.cell p ty]) {b : Nat} {cs : List Value} (hp : a.tmps.getD p undef = .pointer (some ⟨b, 0, none⟩)) (hB : Box w b cs.toArray ty) {fs : Array Field} (hu : Tryz.prog.underlying ty = some (.struct fs)) {n : Nat} (hi : (Tryz.prog.info? ty).map (·.size) = some n) (hl : cs.length = n) (hd : a.defers = []) (hR : R (.returned (.agg cs.toArray)) w) : bodyPost Tryz.prog fn R .ret a w :=
  bodyPost_ret (results_cell_row h a.tmps w b ty cs.toArray (0, 0) (.struct fs) hp hB hu rfl (by rw [hi]; simp [hl])) hd hR
theorem wres16 {w : World} {hi : Nat} {d : WorldResultD} {cs : List Value} (h : layWorldResult.rd w hi d cs) : ∃ vc v0 v1 v2 v3 v4 v5 v6 v7 v8 vp0 vl0 vq0 vp1 vl1 vq1 vp2 vl2 vq2 v9 v10 vb, cs = [.int .i64 vc, .int .i64 v0, .int .i64 v1, .int .i64 v2, .int .i64 v3, .int .i64 v4, .int .i64 v5, .int .i64 v6, .int .i64 v7, .int .i64 v8, .slice vp0 vl0 vq0, .slice vp1 vl1 vq1, .slice vp2 vl2 vq2, .int .i64 v9, .int .i64 v10, .bool vb] := by
  obtain ⟨p1, pc1, p2, pc2, p3, pc3, rfl, -⟩ := WorldResult_rd h
  exact ⟨_, _, _, _, _, _, _, _, _, _, _, _, _, _, _, _, _, _, _, _, _, _, rfl⟩
theorem code_one (x : Int) (hx : -9223372036854775808 ≤ x ∧ x ≤ 9223372036854775807) (w : World) : ∀ v, v ∈ ([.int .i64 x, .int .i64 0, .int .i64 0, .int .i64 0, .int .i64 0, .int .i64 0, .int .i64 0, .int .i64 0, .int .i64 0, .int .i64 0, .slice none 0 0, .slice none 0 0, .slice none 0 0, .int .i64 0, .int .i64 0, .bool false] : List Value) → v.oneCell' = true := (own_resCode w x hx 0 0).one
theorem OwnT.chgk {α : Type} {A : Lay α} {w w' : World} {lo hi : Nat} {a : α} {cs : List Value} {K : List Nat} (h : OwnT A w lo hi a cs) (hc : ChgL K w w') (hK : ∀ b, b ∈ K → b < lo ∨ hi ≤ b) : OwnT A w' lo hi a cs := by
  obtain ⟨M, h1, h2, h3⟩ := h
  exact ⟨M, A.own_kept h1 (fun b hb => hc.block b (A.own_lt h1 b hb) (fun hh => by have := hK b hh; have := h3 b hb; omega)), h2, h3⟩
end Go.Proofs.YthdknhjaohhfiaaGreat

namespace Go.Proofs.YthdknhjaohhfiaaGreat
open Go.RowKit
set_option linter.unusedVariables false
section
variable {ops : Array Oper} {Q : Exit → Act → World → Prop} {md : Region.Mode} {S : World → Prop} {L : Nat}
/-- a whole struct that the condition names is read -/
theorem load_yield {o : Oper} {a : Act} (T : TypeId) (x : Operand) (ho : o.op = .load T x) (hg : o.guard = none) (b : Nat) (hx : a.eval x = .pointer (some ⟨b, 0, none⟩)) {cs : List Value} (hB : ∀ w, S w → Box w b cs.toArray T) {fs : Array Field} (hu : Tryz.prog.underlying T = some (.struct fs)) {n : Nat} (hi : (Tryz.prog.info? T).map (·.size) = some n) (hl : cs.length = n) : YieldsIf Tryz.prog ops S o (.agg cs.toArray) a := by
  refine .inl ⟨by simp [Region.wanted, hg], fun w hS => ?_⟩
  unfold execOp
  simp only [ho, hx, Instr.loadAt, Instr.sureAddr, Sem.run_bind, Sem.run_pure, Result.andThen_ok, run_loadVar_row w b T T cs.toArray (0, 0) (.struct fs) (hB w hS) hu rfl (by rw [hi]; simp [hl])]
/-- two may come up -/
theorem wpAnyL_two {i j : Nat} {oi oj : Oper} {fuel : Nat} {listed : Array Bool} {a : Act} {w : World} (hi : ops[i]? = some oi) (hj : ops[j]? = some oj) (hr : Region.ready md ops listed = [i, j]) (hL : i ≠ L ∧ j ≠ L)
    (h1 : ∀ K' : Act → World → Prop, Shut (∀ a w, S w → (S w → wpAnyL Tryz.prog md ops Q S L fuel (listed.setIfInBounds i true) a w) → K' a w) → if Region.wanted oi (yielded ops a.tmps) = true then Oper.wp Tryz.prog oi a w K' Q else K' (a.put oi.dst undef) w)
    (h2 : ∀ K' : Act → World → Prop, Shut (∀ a w, S w → (S w → wpAnyL Tryz.prog md ops Q S L fuel (listed.setIfInBounds j true) a w) → K' a w) → if Region.wanted oj (yielded ops a.tmps) = true then Oper.wp Tryz.prog oj a w K' Q else K' (a.put oj.dst undef) w) : wpAnyL Tryz.prog md ops Q S L (fuel + 1) listed a w := by
  refine ⟨fun h0 => (by rw [hr] at h0; cases h0), fun k hk => ?_⟩
  rw [hr] at hk
  simp only [List.mem_cons, List.not_mem_nil, or_false] at hk
  rcases hk with rfl | rfl
  · exact wpOp_step hi (fun K' hK => h1 K' (fun a w hS hW => hK a w ⟨fun _ => hS, hW hS⟩))
  · exact wpOp_step hj (fun K' hK => h2 K' (fun a w hS hW => hK a w ⟨fun _ => hS, hW hS⟩))
/-- a variable of a struct's type is made -/
theorem step_alloc {o : Oper} {a : Act} {w : World} {K : Act → World → Prop} {F : Prop} (hg : o.guard = none) (T : TypeId) (hop : o.op = Op.alloc T) {zs : Array Value} {n : Nat} (hi : (Tryz.prog.info? T).map (fun i => (i.zero.map (·.cells), i.size)) = some (some zs, n))
    (hK : K (a.put o.dst (.pointer (some ⟨w.heap.size, 0, none⟩))) (w.alloc (.cells zs T))) : if Region.wanted o (yielded ops a.tmps) = true then Oper.wp Tryz.prog o a w K Q else F := by
  have hw : Region.wanted o (yielded ops a.tmps) = true := by simp [Region.wanted, hg]
  rw [if_pos hw]
  obtain ⟨i0, hi0⟩ : ∃ i0, Tryz.prog.info? T = some i0 := by
    cases h : Tryz.prog.info? T with
    | none => rw [h] at hi; cases hi
    | some i0 => exact ⟨i0, rfl⟩
  rw [hi0] at hi
  simp only [Option.map_some, Option.some.injEq, Prod.mk.injEq] at hi
  obtain ⟨h2, h3⟩ := hi
  obtain ⟨z, hzz, hzc⟩ : ∃ z, i0.zero = some z ∧ z.cells = zs := by
    cases h : i0.zero with
    | none => rw [h] at h2; cases h2
    | some z => rw [h] at h2; exact ⟨z, rfl, by simpa using h2⟩
  have hr : (Instr.alloc T true (.tuple #[])).run Tryz.prog w = .ok (.pointer (some ⟨w.heap.size, 0, none⟩)) (w.alloc (.cells zs T)) := by
    simp [Instr.alloc, zeroValue, typeInfo, hi0, hzz, hzc, newVar, newRow]
  unfold Oper.wp execOp
  simp only [hop, Sem.run_bind, hr, Result.andThen_ok]
  exact hK
/-- a whole struct is stored -/
theorem step_storeBox {o : Oper} {a : Act} {w : World} {K : Act → World → Prop} {F : Prop} (hg : o.guard = none) (T : TypeId) (x y : Operand) (ho : o.op = .store T x y) (b : Nat) (hx : a.eval x = .pointer (some ⟨b, 0, none⟩)) {cs old : List Value} (hy : a.eval y = .agg cs.toArray) (hB : Box w b old.toArray T) {n : Nat} (hi : (Tryz.prog.info? T).map (·.size) = some n) (hl : cs.length = n) (hol : old.length = n) (h1 : ∀ v, v ∈ cs → v.oneCell' = true)
    (h : ∀ w', Box w' b cs.toArray T → ChgL [b] w w' → w'.heap.size = w.heap.size → K (a.put o.dst undef) w') : if Region.wanted o (yielded ops a.tmps) = true then Oper.wp Tryz.prog o a w K Q else F := by
  have hw : Region.wanted o (yielded ops a.tmps) = true := by simp [Region.wanted, hg]
  rw [if_pos hw]
  refine wp_store_row T x y ho b cs.toArray hx hy T old.toArray hB (by rw [hi]; simp [hl]) (by simp [hl, hol]) (by simp; exact h1) ?_
  exact h _ (setRow_heap w b _ cs.toArray T (0, 0) hB) (chgL_setRow b _) (by simp)
/-- the last store of a whole struct -/
theorem wpAnyL_store {o : Oper} {fuel : Nat} {listed : Array Bool} {a : Act} {w : World} (ho : ops[L]? = some o) (hr : Region.ready md ops listed = [L]) (hr2 : Region.ready md ops (listed.setIfInBounds L true) = []) (hg : o.guard = none) (hd : o.dst = none) (T : TypeId) (x y : Operand) (hop : o.op = .store T x y) (b : Nat) (hx : a.eval x = .pointer (some ⟨b, 0, none⟩)) {cs old : List Value} (hy : a.eval y = .agg cs.toArray) (hB : Box w b old.toArray T) {n : Nat} (hi : (Tryz.prog.info? T).map (·.size) = some n) (hl : cs.length = n) (hol : old.length = n) (h1 : ∀ v, v ∈ cs → v.oneCell' = true)
    (h : ∀ w', Box w' b cs.toArray T → ChgL [b] w w' → w'.heap.size = w.heap.size → Q .normal a w') : wpAnyL Tryz.prog md ops Q S L (fuel + 1) listed a w := by
  refine wpAnyL_last ho hr (fun KC hKC => ?_)
  refine step_storeBox hg T x y hop b hx hy hB hi hl hol h1 (fun w' X C z => ?_)
  have e : a.put o.dst undef = a := by rw [hd]; rfl
  rw [e]
  exact hKC _ _ (wpAnyL_done hr2 (h w' X C z) _)
end
theorem below_drew (w : World) : Below w.heap.size w w.drew := ⟨rfl, rfl, rfl, Nat.le_refl _, fun _ _ => rfl⟩
end Go.Proofs.YthdknhjaohhfiaaGreat

namespace Go.Proofs.YthdknhjaohhfiaaGreat
open Go.RowKit F256
set_option linter.unusedVariables false
set_option linter.unusedSimpArgs false

set_option maxHeartbeats 16000000 in
set_option maxRecDepth 20000 in
theorem l5Built_any (d : WorldD) (hs : OkShape d.shape) (cs : List Value) (hi : Nat) (w : World) (h : layWorld.rd w hi d cs) (hhi : hi ≤ w.heap.size) :
    Calls Tryz.prog 151 #[.agg cs.toArray] w (BoolP (BuiltP d) w) := by
  obtain ⟨ao1, cap1, ao2, cap2, ao3, cap3, rfl, g1, -⟩ := World_rd h
  clear h
  obtain ⟨_, _, e1, hm1, hc1⟩ := g1
  cases e1
  unfold maxLen at hm1
  have HC1 : Hid (d.groups.1 ≠ 0 → ∃ b off, ao1 = some ⟨b, off, none⟩ ∧ b < hi ∧ ∀ i, i < d.groups.1 → ∃ ce, (layDrive.slice 106).rd w hi (d.groups.2 i) ce ∧ ∀ j, j < (layDrive.slice 106).sz → w.cell? ⟨b, off + (i * (layDrive.slice 106).sz + j), none⟩ = ce[j]?) := hc1
  have HS : Hid (OkShape d.shape) := hs
  clear hc1 hs
  go_enter Tryz.func151, Tryz.ntmps151
  go_upto_region 2 with fail
  have T0 := two_newb w #[.int .i64 (d.shape 0), .int .i64 (d.shape 1), .int .i64 (d.shape 2), .int .i64 (d.shape 3), .int .i64 (d.shape 4), .int .i64 (d.shape 5), .int .i64 (d.shape 6), .int .i64 (d.shape 7), .int .i64 (d.shape 8), .slice ao1 d.groups.1 cap1, .slice ao2 d.on.1 cap2, .slice ao3 d.tapes.1 cap3, .int .i64 d.writes, .int .i64 d.stop, .bool d.down] #[.int .i64 (d.shape 0), .int .i64 (d.shape 1), .int .i64 (d.shape 2), .int .i64 (d.shape 3), .int .i64 (d.shape 4), .int .i64 (d.shape 5), .int .i64 (d.shape 6), .int .i64 (d.shape 7), .int .i64 (d.shape 8)] 38 34
  obtain ⟨W, hW⟩ : ∃ W, W = (w.alloc (.cells #[.int .i64 (d.shape 0), .int .i64 (d.shape 1), .int .i64 (d.shape 2), .int .i64 (d.shape 3), .int .i64 (d.shape 4), .int .i64 (d.shape 5), .int .i64 (d.shape 6), .int .i64 (d.shape 7), .int .i64 (d.shape 8), .slice ao1 d.groups.1 cap1, .slice ao2 d.on.1 cap2, .slice ao3 d.tapes.1 cap3, .int .i64 d.writes, .int .i64 d.stop, .bool d.down] 38)).alloc (.cells #[.int .i64 (d.shape 0), .int .i64 (d.shape 1), .int .i64 (d.shape 2), .int .i64 (d.shape 3), .int .i64 (d.shape 4), .int .i64 (d.shape 5), .int .i64 (d.shape 6), .int .i64 (d.shape 7), .int .i64 (d.shape 8)] 34) := ⟨_, rfl⟩
  rw [← hW] at T0 ⊢
  have HT : Hid (Two w W #[.int .i64 (d.shape 0), .int .i64 (d.shape 1), .int .i64 (d.shape 2), .int .i64 (d.shape 3), .int .i64 (d.shape 4), .int .i64 (d.shape 5), .int .i64 (d.shape 6), .int .i64 (d.shape 7), .int .i64 (d.shape 8), .slice ao1 d.groups.1 cap1, .slice ao2 d.on.1 cap2, .slice ao3 d.tapes.1 cap3, .int .i64 d.writes, .int .i64 d.stop, .bool d.down] #[.int .i64 (d.shape 0), .int .i64 (d.shape 1), .int .i64 (d.shape 2), .int .i64 (d.shape 3), .int .i64 (d.shape 4), .int .i64 (d.shape 5), .int .i64 (d.shape 6), .int .i64 (d.shape 7), .int .i64 (d.shape 8)] 38 34) := T0
  clear hW
  have x0_9 : W.cell? ⟨w.heap.size, 9, none⟩ = some (.slice ao1 d.groups.1 cap1) := T0.b1.cell 9
  have kx0_9 := cell_regrown x0_9
  have y0_0 : W.cell? ⟨w.heap.size + 1, 0, none⟩ = some (.int .i64 (d.shape 0)) := T0.b2.cell 0
  have ky0_0 := cell_regrown y0_0
  have y0_1 : W.cell? ⟨w.heap.size + 1, 1, none⟩ = some (.int .i64 (d.shape 1)) := T0.b2.cell 1
  have ky0_1 := cell_regrown y0_1
  have y0_2 : W.cell? ⟨w.heap.size + 1, 2, none⟩ = some (.int .i64 (d.shape 2)) := T0.b2.cell 2
  have ky0_2 := cell_regrown y0_2
  have y0_3 : W.cell? ⟨w.heap.size + 1, 3, none⟩ = some (.int .i64 (d.shape 3)) := T0.b2.cell 3
  have ky0_3 := cell_regrown y0_3
  have y0_4 : W.cell? ⟨w.heap.size + 1, 4, none⟩ = some (.int .i64 (d.shape 4)) := T0.b2.cell 4
  have ky0_4 := cell_regrown y0_4
  have y0_5 : W.cell? ⟨w.heap.size + 1, 5, none⟩ = some (.int .i64 (d.shape 5)) := T0.b2.cell 5
  have ky0_5 := cell_regrown y0_5
  have y0_6 : W.cell? ⟨w.heap.size + 1, 6, none⟩ = some (.int .i64 (d.shape 6)) := T0.b2.cell 6
  have ky0_6 := cell_regrown y0_6
  have y0_7 : W.cell? ⟨w.heap.size + 1, 7, none⟩ = some (.int .i64 (d.shape 7)) := T0.b2.cell 7
  have ky0_7 := cell_regrown y0_7
  have y0_8 : W.cell? ⟨w.heap.size + 1, 8, none⟩ = some (.int .i64 (d.shape 8)) := T0.b2.cell 8
  have ky0_8 := cell_regrown y0_8
  clear T0
  have cA := q_below (W := W) (fun w' _ => l5All_any d.shape HS.out w')
  unfold shapeV at cA
  by_cases hlen : (d.groups.1 : Int) = d.shape 0 + d.shape 1
  · have hne : ((d.groups.1 : Int) != d.shape 0 + d.shape 1) = false := by simpa using hlen
    have HLEN : Hid ((d.groups.1 : Int) = d.shape 0 + d.shape 1) := hlen
    clear hlen
    refine WQ.region (by kernel_rfl) (by kernel_rfl) ?_
    repeat (first | (apply WQ.skip; (case hw => rfl); intro K hK; go_simp; apply hK; clear hK K) | (apply WQ.want; (case hw => rfl); intro K hK; go_simp; first | (apply hK; clear hK K) | (apply Exists.intro; apply And.intro; (case left => intro p; (first | (go_at_call 68; exact cA _ _))); apply hK; clear hK K)))
    refine WQ.nil ?_
    intro w1 hw1
    have HT1 : Hid (Two w w1 #[.int .i64 (d.shape 0), .int .i64 (d.shape 1), .int .i64 (d.shape 2), .int .i64 (d.shape 3), .int .i64 (d.shape 4), .int .i64 (d.shape 5), .int .i64 (d.shape 6), .int .i64 (d.shape 7), .int .i64 (d.shape 8), .slice ao1 d.groups.1 cap1, .slice ao2 d.on.1 cap2, .slice ao3 d.tapes.1 cap3, .int .i64 d.writes, .int .i64 d.stop, .bool d.down] #[.int .i64 (d.shape 0), .int .i64 (d.shape 1), .int .i64 (d.shape 2), .int .i64 (d.shape 3), .int .i64 (d.shape 4), .int .i64 (d.shape 5), .int .i64 (d.shape 6), .int .i64 (d.shape 7), .int .i64 (d.shape 8)] 38 34) := HT.out.call (below_rg hw1)
    clear hw1 cA x0_9 kx0_9 y0_0 ky0_0 y0_1 ky0_1 y0_2 ky0_2 y0_3 ky0_3 y0_4 ky0_4 y0_5 ky0_5 y0_6 ky0_6 y0_7 ky0_7 y0_8 ky0_8
    go_wp2
    go_loopw [4] (fun i wr => ∃ k : Nat, k ≤ d.groups.1 ∧ i = .int .i64 k ∧ (∀ i, i < k → DrivesP d.shape (d.groups.2 i)) ∧ Two w wr #[.int .i64 (d.shape 0), .int .i64 (d.shape 1), .int .i64 (d.shape 2), .int .i64 (d.shape 3), .int .i64 (d.shape 4), .int .i64 (d.shape 5), .int .i64 (d.shape 6), .int .i64 (d.shape 7), .int .i64 (d.shape 8), .slice ao1 d.groups.1 cap1, .slice ao2 d.on.1 cap2, .slice ao3 d.tapes.1 cap3, .int .i64 d.writes, .int .i64 d.stop, .bool d.down] #[.int .i64 (d.shape 0), .int .i64 (d.shape 1), .int .i64 (d.shape 2), .int .i64 (d.shape 3), .int .i64 (d.shape 4), .int .i64 (d.shape 5), .int .i64 (d.shape 6), .int .i64 (d.shape 7), .int .i64 (d.shape 8)] 38 34) (fun i _ => d.groups.1 - (intOf i).toNat)
    case atStart => exact ⟨0, Nat.zero_le _, rfl, fun i hi => by omega, HT1.out⟩
    case round =>
      clear HT1
      obtain ⟨k, hk, rfl, hal, T2⟩ := hrel
      obtain ⟨wo, rfl⟩ : ∃ x, x = wr := ⟨_, rfl⟩
      have HAL : Hid (∀ i, i < k → DrivesP d.shape (d.groups.2 i)) := hal
      have HT2 : Hid (Two w wo #[.int .i64 (d.shape 0), .int .i64 (d.shape 1), .int .i64 (d.shape 2), .int .i64 (d.shape 3), .int .i64 (d.shape 4), .int .i64 (d.shape 5), .int .i64 (d.shape 6), .int .i64 (d.shape 7), .int .i64 (d.shape 8), .slice ao1 d.groups.1 cap1, .slice ao2 d.on.1 cap2, .slice ao3 d.tapes.1 cap3, .int .i64 d.writes, .int .i64 d.stop, .bool d.down] #[.int .i64 (d.shape 0), .int .i64 (d.shape 1), .int .i64 (d.shape 2), .int .i64 (d.shape 3), .int .i64 (d.shape 4), .int .i64 (d.shape 5), .int .i64 (d.shape 6), .int .i64 (d.shape 7), .int .i64 (d.shape 8)] 38 34) := T2
      clear hal
      have x2_9 : wo.cell? ⟨w.heap.size, 9, none⟩ = some (.slice ao1 d.groups.1 cap1) := T2.b1.cell 9
      have kx2_9 := cell_regrown x2_9
      have y2_0 : wo.cell? ⟨w.heap.size + 1, 0, none⟩ = some (.int .i64 (d.shape 0)) := T2.b2.cell 0
      have ky2_0 := cell_regrown y2_0
      have y2_1 : wo.cell? ⟨w.heap.size + 1, 1, none⟩ = some (.int .i64 (d.shape 1)) := T2.b2.cell 1
      have ky2_1 := cell_regrown y2_1
      have y2_2 : wo.cell? ⟨w.heap.size + 1, 2, none⟩ = some (.int .i64 (d.shape 2)) := T2.b2.cell 2
      have ky2_2 := cell_regrown y2_2
      have y2_3 : wo.cell? ⟨w.heap.size + 1, 3, none⟩ = some (.int .i64 (d.shape 3)) := T2.b2.cell 3
      have ky2_3 := cell_regrown y2_3
      have y2_4 : wo.cell? ⟨w.heap.size + 1, 4, none⟩ = some (.int .i64 (d.shape 4)) := T2.b2.cell 4
      have ky2_4 := cell_regrown y2_4
      have y2_5 : wo.cell? ⟨w.heap.size + 1, 5, none⟩ = some (.int .i64 (d.shape 5)) := T2.b2.cell 5
      have ky2_5 := cell_regrown y2_5
      have y2_6 : wo.cell? ⟨w.heap.size + 1, 6, none⟩ = some (.int .i64 (d.shape 6)) := T2.b2.cell 6
      have ky2_6 := cell_regrown y2_6
      have y2_7 : wo.cell? ⟨w.heap.size + 1, 7, none⟩ = some (.int .i64 (d.shape 7)) := T2.b2.cell 7
      have ky2_7 := cell_regrown y2_7
      have y2_8 : wo.cell? ⟨w.heap.size + 1, 8, none⟩ = some (.int .i64 (d.shape 8)) := T2.b2.cell 8
      have ky2_8 := cell_regrown y2_8
      by_cases hlt : k < d.groups.1
      · obtain ⟨b1, off1, he1, hb1, hel1⟩ := HC1.out (by omega)
        subst he1
        have HEL : Hid (∀ i, i < d.groups.1 → ∃ ce, (layDrive.slice 106).rd w hi (d.groups.2 i) ce ∧ ∀ j, j < (layDrive.slice 106).sz → w.cell? ⟨b1, off1 + (i * (layDrive.slice 106).sz + j), none⟩ = ce[j]?) := hel1
        obtain ⟨ck, hrk, hcell⟩ := elem_rd (t := 0) hel1 T2.bel hhi hb1 hlt
        obtain ⟨ao9, cap9, rfl⟩ := sl_form hrk
        have c0 : wo.cell? ⟨b1, off1 + k, none⟩ = some (.slice ao9 (d.groups.2 k).1 cap9) := by
          have h := hcell 0 (show 0 < 1 by decide)
          rw [show (layDrive.slice 106).sz = 1 from rfl, Nat.mul_one, Nat.add_zero] at h
          exact h
        have kc0 := cell_regrown c0
        obtain ⟨_, _, e9, hm9, hc9⟩ := hrk
        cases e9
        have HC9 : Hid ((d.groups.2 k).1 ≠ 0 → ∃ b off, ao9 = some ⟨b, off, none⟩ ∧ b < hi ∧ ∀ i, i < (d.groups.2 k).1 → ∃ ce, layDrive.rd wo hi ((d.groups.2 k).2 i) ce ∧ ∀ j, j < layDrive.sz → wo.cell? ⟨b, off + (i * layDrive.sz + j), none⟩ = ce[j]?) := hc9
        unfold maxLen at hm9
        have cD := q_below (W := wo) (fun w' _ => l5Drives_any d.shape HS.out w')
        unfold shapeV at cD
        have zw : w.heap.size + 1 < wo.heap.size := T2.b2.lt
        clear hcell hc9 hel1 T2
        by_cases hlen2 : ((d.groups.2 k).1 : Int) = d.shape 2 + d.shape 3
        · have hne2 : (((d.groups.2 k).1 : Int) != d.shape 2 + d.shape 3) = false := by simpa using hlen2
          have HL2 : Hid (((d.groups.2 k).1 : Int) = d.shape 2 + d.shape 3) := hlen2
          clear hlen2
          go_wp2
          refine WQ.region (by kernel_rfl) (by kernel_rfl) ?_
          repeat (first | (apply WQ.skip; (case hw => rfl); intro K hK; go_simp; apply hK; clear hK K) | (apply WQ.want; (case hw => rfl); intro K hK; go_simp; first | (apply hK; clear hK K) | (apply Exists.intro; apply And.intro; (case left => intro p; (first | (go_at_call 113; exact cD _ _))); apply hK; clear hK K)))
          refine WQ.nil ?_
          intro w3 hw3
          have HT3 : Hid (Two w w3 #[.int .i64 (d.shape 0), .int .i64 (d.shape 1), .int .i64 (d.shape 2), .int .i64 (d.shape 3), .int .i64 (d.shape 4), .int .i64 (d.shape 5), .int .i64 (d.shape 6), .int .i64 (d.shape 7), .int .i64 (d.shape 8), .slice (some ⟨b1, off1, none⟩) d.groups.1 cap1, .slice ao2 d.on.1 cap2, .slice ao3 d.tapes.1 cap3, .int .i64 d.writes, .int .i64 d.stop, .bool d.down] #[.int .i64 (d.shape 0), .int .i64 (d.shape 1), .int .i64 (d.shape 2), .int .i64 (d.shape 3), .int .i64 (d.shape 4), .int .i64 (d.shape 5), .int .i64 (d.shape 6), .int .i64 (d.shape 7), .int .i64 (d.shape 8)] 38 34) := HT2.out.call (below_rg hw3)
          have HB3 : Hid (Below wo.heap.size wo w3) := below_rg hw3
          have HC0 : Hid (wo.cell? ⟨b1, off1 + k, none⟩ = some (.slice ao9 (d.groups.2 k).1 cap9)) := c0
          clear hw3 cD c0 kc0 x2_9 kx2_9 y2_0 ky2_0 y2_1 ky2_1 y2_2 ky2_2 y2_3 ky2_3 y2_4 ky2_4 y2_5 ky2_5 y2_6 ky2_6 y2_7 ky2_7 y2_8 ky2_8
          go_wp2
          go_loopw [5] (fun i wx => ∃ q : Nat, q ≤ (d.groups.2 k).1 ∧ i = .int .i64 q ∧ (∀ i, i < q → BlocksP d.shape ((d.groups.2 k).2 i).blocks) ∧ Two w wx #[.int .i64 (d.shape 0), .int .i64 (d.shape 1), .int .i64 (d.shape 2), .int .i64 (d.shape 3), .int .i64 (d.shape 4), .int .i64 (d.shape 5), .int .i64 (d.shape 6), .int .i64 (d.shape 7), .int .i64 (d.shape 8), .slice (some ⟨b1, off1, none⟩) d.groups.1 cap1, .slice ao2 d.on.1 cap2, .slice ao3 d.tapes.1 cap3, .int .i64 d.writes, .int .i64 d.stop, .bool d.down] #[.int .i64 (d.shape 0), .int .i64 (d.shape 1), .int .i64 (d.shape 2), .int .i64 (d.shape 3), .int .i64 (d.shape 4), .int .i64 (d.shape 5), .int .i64 (d.shape 6), .int .i64 (d.shape 7), .int .i64 (d.shape 8)] 38 34 ∧ Below wo.heap.size wo wx) (fun i _ => (d.groups.2 k).1 - (intOf i).toNat)
          case atStart => exact ⟨0, Nat.zero_le _, rfl, fun i hi => by omega, HT3.out, HB3.out⟩
          case round =>
            clear HT3 HB3
            obtain ⟨q, hq, rfl, hal2, T4, hb4⟩ := hrel
            obtain ⟨wx, rfl⟩ : ∃ x, x = wr := ⟨_, rfl⟩
            have HAL2 : Hid (∀ i, i < q → BlocksP d.shape ((d.groups.2 k).2 i).blocks) := hal2
            have HT4 : Hid (Two w wx #[.int .i64 (d.shape 0), .int .i64 (d.shape 1), .int .i64 (d.shape 2), .int .i64 (d.shape 3), .int .i64 (d.shape 4), .int .i64 (d.shape 5), .int .i64 (d.shape 6), .int .i64 (d.shape 7), .int .i64 (d.shape 8), .slice (some ⟨b1, off1, none⟩) d.groups.1 cap1, .slice ao2 d.on.1 cap2, .slice ao3 d.tapes.1 cap3, .int .i64 d.writes, .int .i64 d.stop, .bool d.down] #[.int .i64 (d.shape 0), .int .i64 (d.shape 1), .int .i64 (d.shape 2), .int .i64 (d.shape 3), .int .i64 (d.shape 4), .int .i64 (d.shape 5), .int .i64 (d.shape 6), .int .i64 (d.shape 7), .int .i64 (d.shape 8)] 38 34) := T4
            have HB4 : Hid (Below wo.heap.size wo wx) := hb4
            clear hal2
            have x4_9 : wx.cell? ⟨w.heap.size, 9, none⟩ = some (.slice (some ⟨b1, off1, none⟩) d.groups.1 cap1) := T4.b1.cell 9
            have y4_4 : wx.cell? ⟨w.heap.size + 1, 4, none⟩ = some (.int .i64 (d.shape 4)) := T4.b2.cell 4
            have c4 : wx.cell? ⟨b1, off1 + k, none⟩ = some (.slice ao9 (d.groups.2 k).1 cap9) := (hb4.cell (p := ⟨b1, off1 + k, none⟩) (by show b1 < wo.heap.size; omega)).trans HC0.out
            by_cases hlq : q < (d.groups.2 k).1
            · obtain ⟨b9, off9, he9, hb9, hel9⟩ := HC9.out (by omega)
              subst he9
              obtain ⟨cq, hrq, hcq⟩ := elem_rd (t := 0) hel9 hb4 (by omega) hb9 hlq
              obtain ⟨ao5, cap5, rfl, g5⟩ := Drive_rd hrq
              have c5 : wx.cell? ⟨b9, off9 + q * 2 + 1, none⟩ = some (.slice ao5 ((d.groups.2 k).2 q).blocks.1 cap5) := hcq 1 (by decide)
              obtain ⟨_, _, e5, hm5, hc5⟩ := g5
              cases e5
              have HC5 : Hid (((d.groups.2 k).2 q).blocks.1 ≠ 0 → ∃ b off, ao5 = some ⟨b, off, none⟩ ∧ b < hi ∧ ∀ i, i < ((d.groups.2 k).2 q).blocks.1 → ∃ ce, layBlock.rd wx hi (((d.groups.2 k).2 q).blocks.2 i) ce ∧ ∀ j, j < layBlock.sz → wx.cell? ⟨b, off + (i * layBlock.sz + j), none⟩ = ce[j]?) := hc5
              unfold maxLen at hm5
              obtain ⟨p, hp⟩ : ∃ p, p = ((d.groups.2 k).2 q).blocks := ⟨_, rfl⟩
              rw [← hp] at c5 hm5 HC5
              have HP : Hid (p = ((d.groups.2 k).2 q).blocks) := hp
              clear hel9 hcq hc5 hrq T4 hb4 hp
              by_cases hl3 : (p.1 : Int) = d.shape 4
              · have hne3 : ((p.1 : Int) != d.shape 4) = false := by simpa using hl3
                have HL3 : Hid ((p.1 : Int) = d.shape 4) := hl3
                clear hl3
                go_wp2
                go_loop [7] (fun i => ∃ z : Nat, z ≤ p.1 ∧ i = .int .i64 z ∧ ∀ i, i < z → BlockP (p.2 i)) (fun i => p.1 - (intOf i).toNat)
                case atStart => exact ⟨0, Nat.zero_le _, rfl, fun i hi => by omega⟩
                case round =>
                  obtain ⟨z, hz, rfl, hal3⟩ := hrel
                  have HAL3 : Hid (∀ i, i < z → BlockP (p.2 i)) := hal3
                  clear hal3
                  by_cases hlz : z < p.1
                  · obtain ⟨b5, off5, he5, hb5, hel5⟩ := HC5.out (by omega)
                    subst he5
                    obtain ⟨cz, hrz, hcz⟩ := hel5 z hlz
                    obtain ⟨ao0, cap0, rfl, -⟩ := Block_rd hrz
                    have s0 : wx.cell? ⟨b5, off5 + z * 2, none⟩ = some (.int .i64 (p.2 z).stamp) := hcz 0 (by decide)
                    have s1 : wx.cell? ⟨b5, off5 + z * 2 + 1, none⟩ = some (.slice ao0 (p.2 z).bytes.1 cap0) := hcz 1 (by decide)
                    obtain ⟨t1, h1⟩ := exB (InP (p.2 z).stamp 0 1000000000)
                    have C1 := fun w' => l1In_b (w := w') h1
                    obtain ⟨b2', h2⟩ : ∃ b, (((p.2 z).bytes.1 : Int) != 4) = b := ⟨_, rfl⟩
                    have HE : Hid (BlockP (p.2 z) ↔ (t1 = true ∧ b2' = false)) := by
                      show BlockP (p.2 z) ↔ _
                      rw [h1, ← h2]
                      unfold BlockP
                      simp
                      intro _
                      omega
                    clear hel5 hcz hrz h1
                    go_wp2_with fail
                    refine (C1 _).mono ?_
                    rintro e w' ⟨rfl, hw'⟩
                    obtain rfl := hw'.symm
                    clear C1
                    cases t1 with
                    | false =>
                      go_wp2
                      go_ret
                      exact boolNo rfl (fun h => by
                        have hb := ((h.2 k hlt).2 q hlq).2 z (by rw [← HP.out]; exact hlz)
                        rw [← HP.out] at hb
                        have := HE.out.1 hb
                        simp at this) HT4.out.bel
                    | true =>
                      cases b2' with
                      | true =>
                        go_wp2
                        go_ret
                        exact boolNo rfl (fun h => by
                          have hb := ((h.2 k hlt).2 q hlq).2 z (by rw [← HP.out]; exact hlz)
                          rw [← HP.out] at hb
                          have := HE.out.1 hb
                          simp at this) HT4.out.bel
                      | false =>
                        go_wp2
                        go_round
                        case rel => exact ⟨z + 1, by omega, by go_num, fun i hi => by
                                      by_cases c : i = z
                                      · subst c; exact HE.out.2 (by simp)
                                      · exact HAL3.out i (by omega)⟩
                        case measure => simp [intOf]; omega
                  · obtain rfl : z = p.1 := by omega
                    go_wp2
                    go_roundw
                    case rel => exact ⟨q + 1, by omega, by go_num, fun i hi => by
                                  by_cases c : i = q
                                  · subst c
                                    rw [← HP.out]
                                    exact ⟨HL3.out, HAL3.out⟩
                                  · exact HAL2.out i (by omega), HT4.out, HB4.out⟩
                    case measure => simp [intOf]; omega
              · have hne3 : ((p.1 : Int) != d.shape 4) = true := by simpa using hl3
                have HN3 : Hid (¬ (p.1 : Int) = d.shape 4) := hl3
                clear hl3
                go_wp2
                go_ret
                exact boolNo rfl (fun h => HN3.out (by rw [HP.out]; exact ((h.2 k hlt).2 q hlq).1)) HT4.out.bel
            · obtain rfl : q = (d.groups.2 k).1 := by omega
              clear T4 hb4
              go_wp2
              go_roundw
              case rel => exact ⟨k + 1, by omega, by go_num, fun i hi => by
                            by_cases c : i = k
                            · subst c
                              exact ⟨HL2.out, HAL2.out⟩
                            · exact HAL.out i (by omega), HT4.out⟩
              case measure => simp [intOf]; omega
        · have hne2 : (((d.groups.2 k).1 : Int) != d.shape 2 + d.shape 3) = true := by simpa using hlen2
          have HN2 : Hid (¬ ((d.groups.2 k).1 : Int) = d.shape 2 + d.shape 3) := hlen2
          clear hlen2
          go_wp2
          refine WQ.region (by kernel_rfl) (by kernel_rfl) ?_
          repeat (first | (apply WQ.skip; (case hw => rfl); intro K hK; go_simp; apply hK; clear hK K) | (apply WQ.want; (case hw => rfl); intro K hK; go_simp; first | (apply hK; clear hK K) | (apply Exists.intro; apply And.intro; (case left => intro p; (first | (go_at_call 113; exact cD _ _))); apply hK; clear hK K)))
          refine WQ.nil ?_
          intro w3 hw3
          have HB3 : Hid (Below w.heap.size w w3) := (HT2.out.call (below_rg hw3)).bel
          clear hw3 cD c0 kc0
          go_wp2
          go_ret
          exact boolNo rfl (fun h => HN2.out (h.2 k hlt).1) HB3.out
      · obtain rfl : k = d.groups.1 := by omega
        go_wp2
        go_ret
        exact boolYes rfl ⟨HLEN.out, HAL.out⟩ HT2.out.bel
  · have hne : ((d.groups.1 : Int) != d.shape 0 + d.shape 1) = true := by simpa using hlen
    have HN : Hid (¬ (d.groups.1 : Int) = d.shape 0 + d.shape 1) := hlen
    clear hlen
    refine WQ.region (by kernel_rfl) (by kernel_rfl) ?_
    repeat (first | (apply WQ.skip; (case hw => rfl); intro K hK; go_simp; apply hK; clear hK K) | (apply WQ.want; (case hw => rfl); intro K hK; go_simp; first | (apply hK; clear hK K) | (apply Exists.intro; apply And.intro; (case left => intro p; (first | (go_at_call 68; exact cA _ _))); apply hK; clear hK K)))
    refine WQ.nil ?_
    intro w1 hw1
    have HB1 : Hid (Below w.heap.size w w1) := (HT.out.call (below_rg hw1)).bel
    clear hw1
    go_wp2
    go_ret
    exact boolNo rfl (fun h => HN.out h.1) HB1.out
end Go.Proofs.YthdknhjaohhfiaaGreat
