/- What WorldFault tells, as the walks say it. -/
import Derived.Test.YtbmfndjglndnlaaGreatZwD
import Derived.Test.YtbmfndjglndnlaaGreatLay4
import Derived.Test.YtbmfndjglndnlaaGreatLay5
import Derived.Test.YtbmfndjglndnlaaGreatLay7
import Derived.Test.YtbmfndjglndnlaaGreatZwA
import Derived.Deep.RegionLaw
import Derived.Deep.DeepCutAuto
import Derived.Laws.Tables
import Derived.Laws.Rows
namespace Go.Proofs.YtbmfndjglndnlaaGreat
open Go.RowKit F256
set_option linter.unusedVariables false

theorem stair_ex {K : Int → Prop} (hK : ∃ x, K x) : ∀ l : List (Prop × Int), ∃ x, Stair l K x
  | [] => hK
  | (p, c) :: l => by
    by_cases h : p
    · obtain ⟨x, hx⟩ := stair_ex hK l
      exact ⟨x, .inr ⟨h, hx⟩⟩
    · exact ⟨c, .inl ⟨h, rfl⟩⟩
theorem rec_det {s : Nat → Int} {d : RecD} {X : Int} {w : World} {f : Nat} {args : Array Value} (hX : RecAns s d X) (h : Calls Tryz.prog f args w (RecPost s d w)) : Calls Tryz.prog f args w fun e w' => e = .returned (.int .i64 X) ∧ Below w.heap.size w w' :=
  h.mono fun e w' ⟨x, h1, h2, h3⟩ => ⟨by rw [h1, h2.one hX], h3⟩
/-- WorldFault has told what is to be told -/
def WldPost (d : WorldD) (w : World) (e : Ending) (w' : World) : Prop := ∃ x, e = .returned (.int .i64 x) ∧ WldAns d x ∧ Below w.heap.size w w'
theorem wldP {d : WorldD} {w : World} {e : Ending} {w' : World} {x : Int} (he : e = .returned (.int .i64 x)) (h : WldAns d x) (hb : Below w.heap.size w w') : WldPost d w e w' := ⟨x, he, h, hb⟩

/-- recsFault has told what is to be told -/
def RcsPost (s : Nat → Int) (p : Nat × (Nat → TapeD)) (w : World) (e : Ending) (w' : World) : Prop := ∃ x, e = .returned (.int .i64 x) ∧ RecsAns s p.1 p.2 x ∧ Below w.heap.size w w'
/-- an operation without a guard -/
theorem WQ.free {P : Program} {ops : Array Oper} {C : World → Prop} {Q : Act → Prop} {a : Act} {o : Oper} {rest : List Oper} (hw : o.guard = none)
    (h : ∀ K : Act → Prop, (∀ a, WQ P ops C Q rest a → K a) → o.quiet P a C K) : WQ P ops C Q (o :: rest) a := WQ.want (by simp [Region.wanted, hw]) h
end Go.Proofs.YtbmfndjglndnlaaGreat

namespace Go.Proofs.YtbmfndjglndnlaaGreat
open Go.RowKit F256
set_option linter.unusedVariables false
theorem recs_row (s : Nat → Int) (y : Nat → RecD) : ∀ k, (∀ i, i < k → RecAns s (y i) 0) ∨ ∃ i c, i < k ∧ c ≠ 0 ∧ RecAns s (y i) c ∧ ∀ j, j < i → RecAns s (y j) 0
  | 0 => .inl (fun i hi => by omega)
  | k + 1 => by
    rcases recs_row s y k with h | ⟨i, c, h1, h2, h3, h4⟩
    · obtain ⟨X, hX⟩ : ∃ X, RecAns s (y k) X := stair_ex (K := isZ) ⟨0, rfl⟩ _
      by_cases hx : X = 0
      · subst hx
        exact .inl (fun i hi => by
          by_cases c : i = k
          · subst c; exact hX
          · exact h i (by omega))
      · exact .inr ⟨k, X, by omega, hx, hX, h⟩
    · exact .inr ⟨i, c, by omega, h2, h3, h4⟩
theorem recs_ex (s : Nat → Int) (x : Nat → TapeD) : ∀ n, ∃ c, RecsAns s n x c
  | 0 => ⟨0, .inl ⟨rfl, fun t ht => by omega⟩⟩
  | n + 1 => by
    obtain ⟨c, hc⟩ := recs_ex s x n
    rcases hc with ⟨rfl, h⟩ | ⟨hc, t, i, ht, hi, hr, hb, hu⟩
    · rcases recs_row s (x n).recs.2 (x n).recs.1 with k | ⟨i, c, h1, h2, h3, h4⟩
      · exact ⟨0, .inl ⟨rfl, fun t ht => by
          by_cases c : t = n
          · subst c; exact k
          · exact h t (by omega)⟩⟩
      · exact ⟨c, .inr ⟨h2, n, i, by omega, h1, h3, h4, h⟩⟩
    · exact ⟨c, .inr ⟨hc, t, i, by omega, hi, hr, hb, hu⟩⟩
theorem world_ex (d : WorldD) : ∃ X, WldAns d X := by
  unfold WldAns
  refine stair_ex ?_ _
  obtain ⟨c, hc⟩ := recs_ex d.shape d.tapes.2 d.tapes.1
  by_cases h : c = 0
  · subst h
    obtain ⟨x, hx⟩ := stair_ex (K := isZ) ⟨0, rfl⟩ [(CleanP d, 1), (CountP d, 3)]
    exact ⟨x, .inr ⟨hc, hx⟩⟩
  · exact ⟨c, .inl ⟨h, hc⟩⟩
end Go.Proofs.YtbmfndjglndnlaaGreat

namespace Go.Proofs.YtbmfndjglndnlaaGreat
open Go.RowKit F256
set_option linter.unusedVariables false

/-- what is known of an element's type -/
structure ElInfo {α : Type} (E : Lay α) (T e : TypeId) (by_ : Nat) (zs : List Value) : Prop where
  hs : 0 < E.sz
  hzs : zs.length = E.sz
  hu : Tryz.prog.underlying T = some (.slice e)
  hi : (Tryz.prog.info? e).map (fun i => (i.zero.map (·.cells), i.size, i.bytes)) = some (some zs.toArray, E.sz, by_)
  few : by_ ≤ 1000
/-- gathered: n elements x in blocks from lo on -/
def Gat {α : Type} (E : Lay α) (t : TypeId) (w : World) (lo : Nat) (v : Value) (n : Nat) (x : Nat → α) : Prop := ∃ ce Ls, SlG E t w lo v n x ce Ls
section
variable {α : Type} {E : Lay α} {t : TypeId} {w w' : World} {lo n : Nat} {v : Value} {x : Nat → α}
theorem Gat.nil (x : Nat → α) (w : World) (lo : Nat) : Gat E t w lo (.slice none 0 0) 0 x := ⟨_, _, SlG.nil x w lo⟩
theorem Gat.form (h : Gat E t w lo v n x) : ∃ ao cap, v = .slice ao n cap := by
  obtain ⟨ce, Ls, h⟩ := h
  rcases h.row.2 with ⟨hv, hn⟩ | ⟨g, cap, cur, rfl, _⟩
  · exact ⟨none, 0, by rw [hv, hn]⟩
  · exact ⟨_, _, rfl⟩
theorem Gat.below (h : Gat E t w lo v n x) (hb : Below w.heap.size w w') : Gat E t w' lo v n x := by
  obtain ⟨ce, Ls, h⟩ := h
  exact ⟨ce, Ls, h.below hb⟩
theorem Gat.own (h : Gat E t w lo v n x) : OwnT (E.slice t) w lo w.heap.size (n, x) [v] := by
  obtain ⟨ce, Ls, h⟩ := h
  exact h.own
theorem Gat.congr {y : Nat → α} (h : Gat E t w lo v n x) (hy : ∀ i, i < n → x i = y i) : Gat E t w lo v n y := by
  obtain ⟨ce, Ls, h⟩ := h
  exact ⟨ce, Ls, h.row, fun i hi => by rw [← hy i hi]; exact h.each i hi, h.nd, h.low⟩
theorem SlG.mem_low {ce : Nat → List Value} {Ls : Nat → List Nat} (h : SlG E t w lo v n x ce Ls) : ∀ b, b ∈ v.ownBlock.toList ++ catN n Ls → lo ≤ b := fun b hb => by
  rcases List.mem_append.1 hb with h1 | h1
  · exact (h.row.lt b (by simpa using h1)).1
  · exact h.low b h1
/-- a store ahead of what is gathered -/
theorem Gat.set (h : Gat E t w lo v n x) (b j : Nat) (u : Value) (hb : b < lo) : Gat E t (w.setCell ⟨b, j, none⟩ u) lo v n x := by
  obtain ⟨ce, Ls, h⟩ := h
  exact ⟨ce, Ls, h.kept (fun k hk => heap_setCell_other w ⟨b, j, none⟩ k u (by have := h.mem_low k hk; show k ≠ b; omega))⟩
theorem Gat.weaken {lo' : Nat} (h : Gat E t w lo v n x) (hl : lo' ≤ lo) : Gat E t w lo' v n x := by
  obtain ⟨ce, Ls, h⟩ := h
  refine ⟨ce, Ls, ⟨h.row.1, ?_⟩, h.each, h.nd, fun b hb => Nat.le_trans hl (h.low b hb)⟩
  rcases h.row.2 with hn | ⟨g, cap, cur, rfl, hbg, rest⟩
  · exact .inl hn
  · exact .inr ⟨g, cap, cur, rfl, by omega, rest⟩
/-- []E{} -/
theorem gat_lit0 (x : Nat → α) (w : World) : Gat E t (w.alloc (.cells #[] t)) w.heap.size (.slice (some ⟨w.heap.size, 0, none⟩) 0 0) 0 x := by
  have h := World.ownsRow_lit (base := w.heap.size) (e := t) (size := E.sz) w #[] 0 (Nat.le_refl _) (Nat.zero_le _) (by simp)
  exact ⟨fun _ => [], fun _ => [], by simpa [catN_zero] using h, fun i hi => by omega, by simp [Value.ownBlock, catN_zero], fun b hb => by rw [catN_zero] at hb; cases hb⟩
end
theorem cells_new (w : World) (cs : List Value) (t : TypeId) (j : Nat) : (w.alloc (.cells cs.toArray t)).cell? ⟨w.heap.size, j, none⟩ = cs[j]? := by
  simp
/-- append(v, a), a made behind what is gathered and laid into a block of its own -/
theorem run_appendN {α : Type} {E : Lay α} {T e : TypeId} {by_ : Nat} {zs : List Value} (I : ElInfo E T e by_ zs) (ty : TypeId) {w1 w2 W : World} {lo n : Nat} {v : Value} {x : Nat → α} (hG : Gat E e w1 lo v n x)
    (hb : Below w1.heap.size w1 w2) {d : α} {cs : List Value} (ha : OwnT E w2 w1.heap.size w2.heap.size d cs) (hW : Below w2.heap.size w2 W) (b c : Nat) (hcell : ∀ j, j < E.sz → W.cell? ⟨b, j, none⟩ = cs[j]?) (hlo : lo ≤ w1.heap.size) (hn : n ≤ 10000000) :
    ∃ v' w', (Builtin.append_ #[T, T] ty #[v, .slice (some ⟨b, 0, none⟩) 1 c]).run Tryz.prog W = .ok v' w' ∧ Gat E e w' lo v' (n + 1) (upd x n d) ∧ Below lo w1 w' := by
  obtain ⟨hs, hzs, hu, hi, few⟩ := I
  obtain ⟨i0, hi0⟩ : ∃ i0, Tryz.prog.info? e = some i0 := by
    cases h : Tryz.prog.info? e with
    | none => rw [h] at hi; cases hi
    | some i0 => exact ⟨i0, rfl⟩
  rw [hi0] at hi
  simp only [Option.map_some, Option.some.injEq, Prod.mk.injEq] at hi
  obtain ⟨h1, h2, h3⟩ := hi
  obtain ⟨z, hz, hzc⟩ : ∃ z, i0.zero = some z ∧ z.cells = zs.toArray := by
    cases h : i0.zero with
    | none => rw [h] at h1; cases h1
    | some z => rw [h] at h1; exact ⟨z, rfl, by simpa using h1⟩
  obtain ⟨ce, Ls, hG1⟩ := hG
  have hbW : Below w1.heap.size w1 W := hb.trans (hW.mono hb.size)
  have hG2 : SlG E e W lo v n x ce Ls := hG1.below hbW
  obtain ⟨K, a1, a2, a3⟩ := ha
  have ha' : E.own W d cs K := E.own_kept a1 (fun k hk => hW.block k (E.own_lt a1 k hk))
  have hcs := E.own_len a1
  obtain ⟨v', w', hr, r1, r2, r3, r4⟩ := run_append_own_at (P := Tryz.prog) W lo T ty e i0 z E.sz by_ hu hi0 hz h2 h3 (by rw [hzc]; simpa using hzs) hs v n (catN n ce) hG2.row ⟨b, 0, none⟩ 1 c cs (by rw [hcs, Nat.one_mul])
    (fun j u hj => by
      have hlt : j < cs.length := (List.getElem?_eq_some_iff.1 hj).1
      have := hcell j (by omega)
      rw [hj] at this
      rw [add_o]
      exact this) (E.own_one ha') (by unfold maxLen; omega) (by
        have : (n + 1) * by_ ≤ 10000001 * 1000 := Nat.mul_le_mul (by omega) few
        omega) (Nat.le_trans hlo hbW.size)
  refine ⟨v', w', hr, ⟨_, _, hG2.grown ha' a2 (fun k hk => ?_) r1 r2 r4⟩, ?_⟩
  · have h5 := (a3 k hk).1
    exact ⟨by omega, fun hh => by have := hG1.mem_lt k hh; omega⟩
  · exact (hbW.mono hlo).grown r2 (Nat.le_trans hlo hbW.size) (fun k hk => (hG2.row.lt k hk).1)
theorem wp_appendN {α : Type} {E : Lay α} {T e : TypeId} {by_ : Nat} {zs : List Value} (I : ElInfo E T e by_ zs) {w1 w2 W : World} {ops : Array Oper} {rest : List Oper} {o : Oper} {a : Act} {Q : Exit → Act → World → Prop}
    (hg : o.guard = none) (s y : Operand) (hop : o.op = Op.call { callee := Callee.builtin Builtin.append, args := #[s, y], argTypes := #[T, T] })
    {lo n : Nat} {v : Value} {x : Nat → α} (hev : a.eval s = v) (hG : Gat E e w1 lo v n x)
    (hb : Below w1.heap.size w1 w2) {d : α} {cs : List Value} (ha : OwnT E w2 w1.heap.size w2.heap.size d cs) (hW : Below w2.heap.size w2 W) (b c : Nat) (hx : a.eval y = .slice (some ⟨b, 0, none⟩) 1 c) (hcell : ∀ j, j < E.sz → W.cell? ⟨b, j, none⟩ = cs[j]?) (hlo : lo ≤ w1.heap.size) (hn : n ≤ 10000000)
    (hK : ∀ v' w', Gat E e w' lo v' (n + 1) (upd x n d) → Below lo w1 w' → wpList Tryz.prog ops Q rest (a.put o.dst v') w') : wpList Tryz.prog ops Q (o :: rest) a W := by
  refine wpList_plain hg fun K hK' => ?_
  obtain ⟨v', w', hrun, r1, r2⟩ := run_appendN I o.type hG hb ha hW b c hcell hlo hn
  unfold Oper.wp
  simp [execOp, hop, resolve, invoke, builtin, hev, hx, hrun, Result.andThen]
  exact hK' _ _ (hK v' w' r1 r2)
theorem step_appendN {α : Type} {E : Lay α} {T e : TypeId} {by_ : Nat} {zs : List Value} (I : ElInfo E T e by_ zs) {w1 w2 W : World} {ops : Array Oper} {o : Oper} {a : Act} {K : Act → World → Prop} {Q : Exit → Act → World → Prop} {F : Prop}
    (hg : o.guard = none) (s y : Operand) (hop : o.op = Op.call { callee := Callee.builtin Builtin.append, args := #[s, y], argTypes := #[T, T] })
    {lo n : Nat} {v : Value} {x : Nat → α} (hev : a.eval s = v) (hG : Gat E e w1 lo v n x)
    (hb : Below w1.heap.size w1 w2) {d : α} {cs : List Value} (ha : OwnT E w2 w1.heap.size w2.heap.size d cs) (hW : Below w2.heap.size w2 W) (b c : Nat) (hx : a.eval y = .slice (some ⟨b, 0, none⟩) 1 c) (hcell : ∀ j, j < E.sz → W.cell? ⟨b, j, none⟩ = cs[j]?) (hlo : lo ≤ w1.heap.size) (hn : n ≤ 10000000)
    (hK : ∀ v' w', Gat E e w' lo v' (n + 1) (upd x n d) → Below lo w1 w' → K (a.put o.dst v') w') :
    if Region.wanted o (yielded ops a.tmps) = true then Oper.wp Tryz.prog o a W K Q else F := by
  have hw : Region.wanted o (yielded ops a.tmps) = true := by simp [Region.wanted, hg]
  rw [if_pos hw]
  obtain ⟨v', w', hrun, r1, r2⟩ := run_appendN I o.type hG hb ha hW b c hcell hlo hn
  unfold Oper.wp
  simp [execOp, hop, resolve, invoke, builtin, hev, hx, hrun, Result.andThen]
  exact hK v' w' r1 r2
end Go.Proofs.YtbmfndjglndnlaaGreat

namespace Go.Proofs.YtbmfndjglndnlaaGreat
open Go.RowKit F256
set_option linter.unusedVariables false
set_option linter.unusedSimpArgs false

def blankB : BlockD := ⟨0, (4, fun _ => 0)⟩
def freshD (rows : Nat) : DriveD := ⟨false, (rows, fun _ => blankB)⟩
theorem ownB_T {w : World} {lo hi n : Nat} {v : Value} {f : Nat → Nat} (h : Own w lo hi v n f) (hh : hi ≤ w.heap.size) (kf : ∀ i, f i < 256) : OwnT layBytes w lo hi (n, f) [v] := by
  refine ⟨v.ownBlock.toList, ⟨v, rfl, rfl, h.weaken (Nat.zero_le _) hh, kf⟩, ?_, fun b hb => ?_⟩
  · cases v.ownBlock <;> simp
  · have hb' : v.ownBlock = some b := by simpa using hb
    exact ⟨(h.1.lt b hb').1, h.2 b hb'⟩
theorem OwnT.fin1 {α : Type} {A : Lay α} {w : World} {s : Nat} {a : α} {cs : List Value} (h : OwnT A w (s + 1) w.heap.size a cs) (o : Nat) (l : List Value) (w' : World) (e : w' = Go.Proofs.YtbmfndjglndnlaaGreat.stN w s o l) : OwnT A w' s w'.heap.size a cs := by
  subst e
  exact (h.stN s o l (by omega)).weaken (by omega) (by rw [stN_size]; exact Nat.le_refl _)
/-- an element's info -/
theorem el_Block : ElInfo layBlock 82 46 32 [.int .i64 0, .slice none 0 0] := ⟨by decide, rfl, Tryz.underlying82, by kernel_rfl, by decide⟩
theorem el_Drive : ElInfo layDrive 85 84 32 [.bool false, .slice none 0 0] := ⟨by decide, rfl, Tryz.underlying85, by kernel_rfl, by decide⟩
theorem el_DriveS : ElInfo (layDrive.slice 84) 31 85 24 [.slice none 0 0] := ⟨by decide, rfl, Tryz.underlying31, by kernel_rfl, by decide⟩

set_option maxHeartbeats 4000000 in
theorem l5Blank_any (w : World) : Calls Tryz.prog 102 #[] w fun e w' => ∃ cs, e = .returned (.agg cs.toArray) ∧ OwnT layBlock w' w.heap.size w'.heap.size blankB cs ∧ Below w.heap.size w w' := by
  have T0 := one_new w #[.int .i64 0, .slice none 0 0] 46
  go_enter Tryz.func102, Tryz.ntmps102
  go_wp2_with (at_make; refine wp_makeB _ rfl _ _ rfl _ _ 4 rfl rfl rfl rfl (by omega) ?_; intro w1 o1 b1 l1; have T1 := T0.call b1; have z0 : w1.cell? ⟨w.heap.size, 0, none⟩ = some (.int .i64 0) := T1.b1.cell 0; have z1 : w1.cell? ⟨w.heap.size, 1, none⟩ = some (.slice none 0 0) := T1.b1.cell 1; have zf0 : w1.frozen? ⟨w.heap.size, 0, none⟩ = false := T1.b1.frozen 0; have zf1 : w1.frozen? ⟨w.heap.size, 1, none⟩ = false := T1.b1.frozen 1)
  have O1 : OwnT layBytes w1 (w.heap.size + 1) w1.heap.size (4, fun _ => 0) [.slice (some ⟨w.heap.size + 1, 0, none⟩) 4 4] := by
    have := ownB_T o1 (Nat.le_refl _) (fun _ => by decide)
    simpa using this
  have F : OwnT layBlock w1 (w.heap.size + 1) w1.heap.size blankB ([.int .i64 0] ++ [.slice (some ⟨w.heap.size + 1, 0, none⟩) 4 4]) := OwnT.conv (OwnT.pre (A := layI) (a := 0) (c := [.int .i64 0]) ⟨rfl, by omega, rfl⟩ O1)
  refine bodyPost_ret (v := .agg #[.int .i64 0, .slice (some ⟨w.heap.size + 1, 0, none⟩) 4 4]) (by simp [results, Tryz.results102, go_sem, z0, z1]) rfl ?_
  refine ⟨[.int .i64 0, .slice (some ⟨w.heap.size + 1, 0, none⟩) 4 4], rfl, ?_, ?_⟩
  · exact OwnT.fin1 F 0 [.int .i64 0, .slice (some ⟨w.heap.size + 1, 0, none⟩) 4 4] _ rfl
  · exact T1.bel.trans (stN_below (Nat.le_refl _) [.int .i64 0, .slice (some ⟨w.heap.size + 1, 0, none⟩) 4 4] 0)
theorem Three.low {w wc w' : World} {c1 c2 c3 : Array Value} {t1 t2 t3 : TypeId} (h : Three w wc c1 c2 c3 t1 t2 t3) (hb : Below (w.heap.size + 1 + 1 + 1) wc w') : Three w w' c1 c2 c3 t1 t2 t3 :=
  ⟨h.b1.below hb (by omega), h.b2.below hb (by omega), h.b3.below hb (by omega), h.bel.trans (hb.mono (by omega))⟩
set_option maxHeartbeats 8000000 in
set_option maxRecDepth 20000 in
theorem l5Fresh_any (s : Nat → Int) (hok : OkShape s) (w : World) : Calls Tryz.prog 67 #[shapeV s] w fun e w' => ∃ cs, e = .returned (.agg cs.toArray) ∧ OwnT layDrive w' w.heap.size w'.heap.size (freshD (s 4).toNat) cs ∧ Below w.heap.size w w' := by
  obtain ⟨R, hR, hR1⟩ : ∃ R : Nat, s 4 = (R : Int) ∧ R ≤ 6 := by
    obtain ⟨_, _, ⟨h1, h2⟩, _⟩ := hok
    exact ⟨(s 4).toNat, by omega, by omega⟩
  clear hok
  have HR : Hid (s 4 = (R : Int)) := hR
  have hRa : s 4 ≤ (R : Int) := by omega
  have hRb : (R : Int) ≤ s 4 := by omega
  clear hR
  unfold shapeV
  have T0 := three_newb w #[.int .i64 (s 0), .int .i64 (s 1), .int .i64 (s 2), .int .i64 (s 3), .int .i64 (s 4), .int .i64 (s 5), .int .i64 (s 6), .int .i64 (s 7), .int .i64 (s 8)] #[.bool false, .slice none 0 0] #[.bool false, .slice none 0 0] 30 84 84
  go_enter Tryz.func67, Tryz.ntmps67
  go_wp2
  go_loopw [4] (fun i wr => ∃ (k : Nat) (ao : Option Addr) (cap : Nat), k ≤ R ∧ i = .int .i64 k ∧ Three w wr #[.int .i64 (s 0), .int .i64 (s 1), .int .i64 (s 2), .int .i64 (s 3), .int .i64 (s 4), .int .i64 (s 5), .int .i64 (s 6), .int .i64 (s 7), .int .i64 (s 8)] #[.bool false, .slice none 0 0] #[.bool false, .slice ao k cap] 30 84 84 ∧ Gat layBlock 46 wr (w.heap.size + 1 + 1 + 1) (.slice ao k cap) k (fun _ => blankB)) (fun i _ => R - (intOf i).toNat)
  case atStart => exact ⟨0, none, 0, Nat.zero_le _, rfl, T0, Gat.nil _ _ _⟩
  case round =>
    clear T0
    obtain ⟨k, ao, cap, hk, rfl, T1, G1⟩ := hrel
    obtain ⟨wo, rfl⟩ : ∃ x, x = wr := ⟨_, rfl⟩
    have HT1 : Hid (Three w wo #[.int .i64 (s 0), .int .i64 (s 1), .int .i64 (s 2), .int .i64 (s 3), .int .i64 (s 4), .int .i64 (s 5), .int .i64 (s 6), .int .i64 (s 7), .int .i64 (s 8)] #[.bool false, .slice none 0 0] #[.bool false, .slice ao k cap] 30 84 84) := T1
    have HG1 : Hid (Gat layBlock 46 wo (w.heap.size + 1 + 1 + 1) (.slice ao k cap) k (fun _ => blankB)) := G1
    have z1 : w.heap.size + 1 + 1 + 1 ≤ wo.heap.size := T1.lt
    have x4 : wo.cell? ⟨w.heap.size, 4, none⟩ = some (.int .i64 (s 4)) := T1.b1.cell 4
    have y0 : wo.cell? ⟨w.heap.size + 1 + 1, 0, none⟩ = some (.bool false) := T1.b3.cell 0
    have y1 : wo.cell? ⟨w.heap.size + 1 + 1, 1, none⟩ = some (.slice ao k cap) := T1.b3.cell 1
    by_cases hlt : k < R
    · have hd : decide ((k : Int) < s 4) = true := decide_eq_true (by omega)
      clear T1 G1
      go_upto_region 5 with fail
      go_region_law (first | (refine step_call rfl 102 _ _ rfl #[] ?_ Tryz.func102 (by kernel_rfl) (by kernel_rfl) (l5Blank_any _) ?_; (simp [Act.eval, Act.put]); rintro ee w5 ⟨c5, rfl, o5, b5⟩; obtain ⟨bo, bc, rfl⟩ := Block_cells o5; replace b5 : Below wo.heap.size wo w5 := ⟨b5.os, b5.tape, b5.output, b5.size, b5.block⟩; have q1 : w5.cell? ⟨w.heap.size + 1 + 1, 1, none⟩ = some (.slice ao k cap) := (HT1.out.call b5).b3.cell 1; have q3 := (cell_alloc_old w5 (.cells #[.int .i64 blankB.stamp, .slice bo blankB.bytes.1 bc] 46) (w.heap.size + 1 + 1) 1 (by have := b5.size; omega)).trans q1; refine ⟨_, rfl, ?_⟩) | (refine step_appendN el_Block rfl (.tmp 13) (.tmp 15) rfl (lo := w.heap.size + 1 + 1 + 1) (n := k) (v := .slice ao k cap) (x := fun _ => blankB) ?_ HG1.out b5 o5 ?_ w5.heap.size 1 ?_ (fun j _ => cells_new w5 _ _ j) (by omega) (by omega) ?_; (simp [Act.eval, Act.put]); (exact (Below.refl _ _).alloc (Nat.le_refl _) _); (simp [Act.eval, Act.put]); intro v4 w4 g4 b4; obtain ⟨ao4, cap4, rfl⟩ := g4.form; have T4 := HT1.out.low b4; have p1 : w4.cell? ⟨w.heap.size + 1 + 1, 1, none⟩ = some (.slice ao k cap) := T4.b3.cell 1; have p2 : w4.frozen? ⟨w.heap.size + 1 + 1, 1, none⟩ = false := T4.b3.frozen 1))
      all_goals
        go_wp2
        go_roundw
        case rel => exact ⟨k + 1, ao4, cap4, by omega, by go_num, T4.st3 1 [.slice ao4 (k + 1) cap4] rfl, (g4.set _ _ _ (by omega)).congr (fun i _ => by rw [show upd (fun _ => blankB) k blankB = fun _ => blankB from upd_self (fun _ => blankB) k])⟩
        case measure => simp [intOf]; omega
    · obtain rfl : k = R := by omega
      have hd : decide ((k : Int) < s 4) = false := decide_eq_false (by omega)
      have r0 : wo.cell? ⟨w.heap.size + 1, 0, none⟩ = some (.bool false) := T1.b2.cell 0
      have r1 : wo.cell? ⟨w.heap.size + 1, 1, none⟩ = some (.slice none 0 0) := T1.b2.cell 1
      have rf0 : wo.frozen? ⟨w.heap.size + 1, 0, none⟩ = false := T1.b2.frozen 0
      have rf1 : wo.frozen? ⟨w.heap.size + 1, 1, none⟩ = false := T1.b2.frozen 1
      clear T1 G1
      go_wp2
      refine bodyPost_ret (v := .agg #[.bool false, .slice ao k cap]) (by simp [results, Tryz.results67, go_sem, r0, r1]) rfl ?_
      have F : OwnT layDrive wo (w.heap.size + 1 + 1 + 1) wo.heap.size (freshD (s 4).toNat) ([.bool false] ++ [.slice ao k cap]) := by
        have e : (s 4).toNat = k := by have := HR.out; omega
        rw [e]
        exact OwnT.conv (OwnT.pre (A := layB) (a := false) (c := [.bool false]) ⟨rfl, trivial, rfl⟩ HG1.out.own)
      refine ⟨[.bool false, .slice ao k cap], rfl, ?_, ?_⟩
      · exact OwnT.fin1 (F.weaken (by omega) (Nat.le_refl _)) 0 [.bool false, .slice ao k cap] _ rfl |>.weaken (by omega) (Nat.le_refl _)
      · exact HT1.out.bel.trans (stN_below (by omega) [.bool false, .slice ao k cap] 0)
end Go.Proofs.YtbmfndjglndnlaaGreat

namespace Go.Proofs.YtbmfndjglndnlaaGreat
open Go.RowKit F256
set_option linter.unusedVariables false
section
variable {α : Type} {E : Lay α} {t : TypeId} {w w1 : World} {lo g cap n k : Nat} {x : Nat → α} {ce : Nat → List Value} {Ls : Nat → List Nat}
/-- a store into an element that is not laid yet -/
theorem SlP.poke (h : SlP E t w lo g cap n k x ce Ls) {i j : Nat} (hk : k ≤ i) (hi : i < n) (hj : j < E.sz) (u : Value) : SlP E t (w.setCell ⟨g, i * E.sz + j, none⟩ u) lo g cap n k x (upd ce i ((ce i).set j u)) Ls := by
  refine ⟨?_, fun m hm => ?_, fun m hm => ?_, h.nd, h.low⟩
  · have := (h.row.stored (i * E.sz + j) u).1
    rw [catN_set h.lens hi hj] at this
    exact this
  · by_cases c : m = i
    · subst c; rw [upd_at, List.length_set]; exact h.lens m hm
    · rw [upd_ne ce _ c]; exact h.lens m hm
  · rw [upd_ne ce _ (by omega)]
    exact E.own_kept (h.each m hm) (fun b hb => heap_setCell_other w _ b u (fun hh => (List.nodup_cons.1 h.nd).1 (by rw [← show b = g from hh]; exact mem_catN.2 ⟨m, hm, hb⟩)))
/-- the element k is laid now; w1: a world in which the others were there and none of its blocks -/
theorem SlP.count {x1 : Nat → α} {ce1 : Nat → List Value} (h1 : SlP E t w1 lo g cap n k x1 ce1 Ls) (h : SlP E t w lo g cap n k x ce Ls) {a : α} {K : List Nat} (ha : E.own w a (ce k) K) (hnd : K.Nodup) (hK : ∀ b, b ∈ K → w1.heap.size ≤ b) (hlo : lo ≤ w1.heap.size) :
    SlP E t w lo g cap n (k + 1) (upd x k a) ce (upd Ls k K) := by
  have eL : catN (k + 1) (upd Ls k K) = catN k Ls ++ K := by
    rw [catN_succ, upd_at, catN_congr (g := Ls) (fun i hi => upd_ne Ls K (by omega))]
  refine ⟨h.row, h.lens, fun i hi => ?_, ?_, ?_⟩
  · by_cases c : i = k
    · subst c; rw [upd_at, upd_at]; exact ha
    · rw [upd_ne x a c, upd_ne Ls K c]; exact h.each i (by omega)
  · rw [eL]
    refine List.nodup_cons.2 ⟨fun hb => ?_, List.nodup_append.2 ⟨(List.nodup_cons.1 h.nd).2, hnd, fun b hb c hc hh => ?_⟩⟩
    · rcases List.mem_append.1 hb with h3 | h3
      · exact (List.nodup_cons.1 h.nd).1 h3
      · have := hK g h3; have := h1.lt; omega
    · subst hh
      have k1 := h1.mem_lt b hb
      have k2 := hK b hc
      omega
  · rw [eL]
    intro b hb
    rcases List.mem_append.1 hb with h3 | h3
    · exact h.low b h3
    · have := hK b h3; omega
/-- a store into the element k, which lays it -/
theorem SlP.fill (h1 : SlP E t w1 lo g cap n k x ce Ls) (hb : Below w1.heap.size w1 w) (hk : k < n) {j : Nat} (hj : j < E.sz) (u : Value) {a : α} {cs : List Value} (hcs : (ce k).set j u = cs) (ha : OwnT E w w1.heap.size w.heap.size a cs) (hlo : lo ≤ w1.heap.size) :
    ∃ ce' Ls', SlP E t (w.setCell ⟨g, k * E.sz + j, none⟩ u) lo g cap n (k + 1) (upd x k a) ce' Ls' ∧ ∀ i, k < i → ce' i = ce i := by
  subst hcs
  obtain ⟨K, a1, a2, a3⟩ := ha
  have hg := h1.lt
  refine ⟨_, _, h1.count ((h1.below hb).poke (Nat.le_refl k) hk hj u) (K := K) ?_ a2 (fun b hb => (a3 b hb).1) hlo, fun i hi => upd_ne ce _ (by omega)⟩
  rw [upd_at]
  exact E.own_kept a1 (fun b hb => heap_setCell_other w _ b u (fun hh => by have := (a3 b hb).1; have h5 : b = g := hh; omega))
theorem SlP.congr {y : Nat → α} (h : SlP E t w lo g cap n k x ce Ls) (hy : ∀ i, i < k → x i = y i) : SlP E t w lo g cap n k y ce Ls := ⟨h.row, h.lens, fun i hi => by rw [← hy i hi]; exact h.each i hi, h.nd, h.low⟩
/-- all elements zero and without memory -/
theorem SlP.zero {zs : List Value} {a : α} (h : SlP E t w lo g cap n 0 x (fun _ => zs) Ls) (hz : E.own w a zs []) (hg : lo ≤ g) : OwnT (E.slice t) w lo w.heap.size (n, fun _ => a) [.slice (Option.some ⟨g, 0, none⟩) n cap] := by
  have e : ∀ m, catN m (fun _ => ([] : List Nat)) = [] := fun m => by
    induction m with
    | zero => rfl
    | succ m ih => rw [catN_succ, ih]; rfl
  have h2 : SlP E t w lo g cap n n (fun _ => a) (fun _ => zs) (fun _ => []) := ⟨h.row, h.lens, fun i _ => hz, by rw [e]; simp, fun b hb => by rw [e] at hb; cases hb⟩
  exact h2.done hg
end
/-- make([]E, n), as it runs -/
theorem run_makeT {α : Type} {E : Lay α} {T e : TypeId} {by_ : Nat} {zs : List Value} (I : ElInfo E T e by_ zs) (x : Nat → α) (Ls : Nat → List Nat) (w : World) (n : Nat) (hn : n ≤ 10000000) :
    ∃ w', (Instr.makeSlice T (.int .i64 (n : Int)) (.int .i64 (n : Int))).run Tryz.prog w = .ok (.slice (some ⟨w.heap.size, 0, none⟩) n n) w' ∧ SlP E e w' w.heap.size w.heap.size n n 0 x (fun _ => zs) Ls ∧ Below w.heap.size w w' := by
  obtain ⟨hs, hzs, hu, hi, few⟩ := I
  obtain ⟨i0, hi0⟩ : ∃ i0, Tryz.prog.info? e = some i0 := by
    cases h : Tryz.prog.info? e with
    | none => rw [h] at hi; cases hi
    | some i0 => exact ⟨i0, rfl⟩
  rw [hi0] at hi
  simp only [Option.map_some, Option.some.injEq, Prod.mk.injEq] at hi
  obtain ⟨h1, h2, h3⟩ := hi
  obtain ⟨z, hz, hzc⟩ : ∃ z, i0.zero = some z ∧ z.cells = zs.toArray := by
    cases h : i0.zero with
    | none => rw [h] at h1; cases h1
    | some z => rw [h] at h1; exact ⟨z, rfl, by simpa using h1⟩
  obtain ⟨w', hrun, hown, hgrow⟩ := run_make_full (P := Tryz.prog) w w.heap.size T e i0 z E.sz hu hi0 hz h2 .i64 .i64 n (by
    rw [h3]
    have : by_ * n ≤ 1000 * 10000000 := Nat.mul_le_mul few hn
    omega) (by unfold maxLen; omega) (Nat.le_refl _)
  rw [hzc, ← hzs, catN_made zs (by omega)] at hown
  rw [hzs] at hown
  exact ⟨w', hrun, ⟨hown, fun _ _ => hzs, fun i hi => by omega, by simp [catN_zero], fun b hb => by rw [catN_zero] at hb; cases hb⟩, below_of_grown hgrow⟩
end Go.Proofs.YtbmfndjglndnlaaGreat

namespace Go.Proofs.YtbmfndjglndnlaaGreat
open Go.RowKit F256
set_option linter.unusedVariables false
def noRec : RecD := ⟨0, 0, ByteArray.empty, 0, 0, 0, (0, fun _ => 0), (0, fun _ => 0), (0, fun _ => 0)⟩
def zeroT : TapeD := ⟨false, (0, fun _ => noRec)⟩
def zeroW : WorldD := ⟨fun _ => 0, (0, fun _ => (0, fun _ => freshD 0)), (0, fun _ => 0), (0, fun _ => zeroT), 0, 0, false⟩
def newW (s : Nat → Int) : WorldD := ⟨s, ((s 0 + s 1).toNat, fun _ => ((s 2 + s 3).toNat, fun _ => freshD (s 4).toNat)), (0, fun _ => 0), (2, fun _ => zeroT), 0, -1, false⟩
def NewAns (s : Nat → Int) (d : WorldResultD) : Prop := (¬ OkShape s ∧ d = ⟨3, zeroW⟩) ∨ (OkShape s ∧ d = ⟨0, newW s⟩)
theorem NewAns.one {s : Nat → Int} {d e : WorldResultD} (h : NewAns s d) (k : NewAns s e) : d = e := by
  rcases h with ⟨h1, h2⟩ | ⟨h1, h2⟩ <;> rcases k with ⟨k1, k2⟩ | ⟨k1, k2⟩
  · rw [h2, k2]
  · exact absurd k1 h1
  · exact absurd h1 k1
  · rw [h2, k2]
theorem new_ex (s : Nat → Int) : ∃ d, NewAns s d := by
  by_cases h : OkShape s
  · exact ⟨_, .inr ⟨h, rfl⟩⟩
  · exact ⟨_, .inl ⟨h, rfl⟩⟩
/-- a world's result is told: memory of its own -/
def ResPost (P : WorldResultD → Prop) (w : World) (e : Ending) (w' : World) : Prop := ∃ d cs, e = .returned (.agg cs.toArray) ∧ P d ∧ OwnT layWorldResult w' w.heap.size w'.heap.size d cs ∧ Below w.heap.size w w'
theorem el_Tape : ElInfo layTape 32 94 32 [.bool false, .slice none 0 0] := ⟨by decide, rfl, Tryz.underlying32, by kernel_rfl, by decide⟩
theorem own_noInts (w : World) (f : Nat → Int) (h : ∀ i, -9223372036854775808 ≤ f i ∧ f i ≤ 9223372036854775807) : layInts.own w (0, f) [.slice none 0 0] [] := ⟨_, rfl, rfl, ⟨⟨rfl, .inl ⟨rfl, rfl⟩⟩, fun k hk => by cases hk⟩, h⟩
theorem own_noSl {α : Type} {E : Lay α} {t : TypeId} (w : World) (x : Nat → α) : (E.slice t).own w (0, x) [.slice none 0 0] [] := ⟨_, fun _ => [], fun _ => [], rfl, rfl, World.ownsRow_nil w 0 t E.sz, fun i hi => by omega⟩
theorem own_zeroT (w : World) : layTape.own w zeroT [.bool false, .slice none 0 0] [] := ⟨_, _, [], [], rfl, rfl, ⟨rfl, trivial, rfl⟩, own_noSl w _⟩
theorem own_zeroW (w : World) : layWorld.own w zeroW [.int .i64 0, .int .i64 0, .int .i64 0, .int .i64 0, .int .i64 0, .int .i64 0, .int .i64 0, .int .i64 0, .int .i64 0, .slice none 0 0, .slice none 0 0, .slice none 0 0, .int .i64 0, .int .i64 0, .bool false] [] := by
  have h := World_mk (w := w) zeroW (ao1 := none) (ao2 := none) (ao3 := none) (cap1 := 0) (cap2 := 0) (cap3 := 0) (own_noSl w _) (own_noInts w _ (fun _ => by decide)) (own_noSl w _) (fun i => show (-9223372036854775808 : Int) ≤ 0 ∧ (0 : Int) ≤ 9223372036854775807 by decide) (show (-9223372036854775808 : Int) ≤ 0 ∧ (0 : Int) ≤ 9223372036854775807 by decide) (show (-9223372036854775808 : Int) ≤ 0 ∧ (0 : Int) ≤ 9223372036854775807 by decide)
  exact h
theorem own_resOf {w : World} {lo hi : Nat} {d : WorldD} {cs : List Value} (c : Int) (hc : -9223372036854775808 ≤ c ∧ c ≤ 9223372036854775807) (h : OwnT layWorld w lo hi d cs) : OwnT layWorldResult w lo hi ⟨c, d⟩ (.int .i64 c :: cs) :=
  OwnT.conv (OwnT.pre (A := layI) (a := c) (c := [.int .i64 c]) ⟨rfl, hc, rfl⟩ h)
theorem own_resCode (w : World) (c : Int) (hc : -9223372036854775808 ≤ c ∧ c ≤ 9223372036854775807) (lo hi : Nat) : OwnT layWorldResult w lo hi ⟨c, zeroW⟩ (.int .i64 c :: [.int .i64 0, .int .i64 0, .int .i64 0, .int .i64 0, .int .i64 0, .int .i64 0, .int .i64 0, .int .i64 0, .int .i64 0, .slice none 0 0, .slice none 0 0, .slice none 0 0, .int .i64 0, .int .i64 0, .bool false]) := own_resOf c hc (OwnT.nil (own_zeroW w) lo hi)
theorem Box.chgl {w w' : World} {b : Nat} {cs : Array Value} {t : TypeId} {K : List Nat} (h : Box w b cs t) (hc : ChgL K w w') (hb : b ∉ K) : Box w' b cs t := (hc.block b h.lt hb).trans h
theorem ChgL.bel {K : List Nat} {w w' : World} {B : Nat} (hc : ChgL K w w') (hK : ∀ b, b ∈ K → B ≤ b) (hB : B ≤ w.heap.size) : Below B w w' := ⟨hc.os, hc.tape, hc.output, hc.size, fun k hk => hc.block k (by omega) (fun h => by have := hK k h; omega)⟩
theorem ChgL.after {K : List Nat} {a b c : World} (h : ChgL K a b) (k : Below a.heap.size b c) : ChgL K a c := ⟨k.os.trans h.os, k.tape.trans h.tape, k.output.trans h.output, Nat.le_trans h.size k.size, fun i hi hn => (k.block i hi).trans (h.block i hi hn)⟩
theorem Two.chgl {w wc w' : World} {c1 c2 : Array Value} {t1 t2 : TypeId} {P : Nat} (h : Two w wc c1 c2 t1 t2) (hc : ChgL [P] wc w') (hP : w.heap.size + 1 < P) : Two w w' c1 c2 t1 t2 :=
  ⟨h.b1.chgl hc (by simp; omega), h.b2.chgl hc (by simp; omega), h.bel.trans (hc.bel (fun b hb => by simp at hb; omega) h.bel.size)⟩
theorem own_st {α : Type} {A : Lay α} {w : World} {a : α} {cs : List Value} {K : List Nat} {g off : Nat} {l : List Value} (h : A.own w a cs K) (hg : g ∉ K) : A.own (Go.Proofs.YtbmfndjglndnlaaGreat.stN w g off l) a cs K := A.own_kept h (fun b hb => stN_heap g b (fun hh => hg (by rw [← hh]; exact hb)) l w off)
theorem OwnT.finb {α : Type} {A : Lay α} {w : World} {lo b : Nat} {a : α} {cs : List Value} (h : OwnT A w lo w.heap.size a cs) (hb : b < lo) {lo' : Nat} (hl : lo' ≤ lo) (o : Nat) (l : List Value) (w' : World) (e : w' = Go.Proofs.YtbmfndjglndnlaaGreat.stN w b o l) : OwnT A w' lo' w'.heap.size a cs := by
  subst e
  exact (h.stN b o l hb).weaken hl (by rw [stN_size]; exact Nat.le_refl _)
/-- a world's box and its two tapes, new -/
structure NewBx (cs : Array Value) (w1 wx : World) (P t : Nat) : Prop where
  box : Box wx P cs 34
  tp : (layTape.slice 94).own wx (2, fun _ => zeroT) [.slice (some ⟨t, 0, none⟩) 2 2] [t]
  p1 : w1.heap.size ≤ P
  t1 : w1.heap.size ≤ t
  ne : t ≠ P
  bel : Below w1.heap.size w1 wx
theorem tape_own {wx : World} {lo hi t : Nat} (h : OwnT (layTape.slice 94) wx lo hi (2, fun _ => zeroT) [.slice (some ⟨t, 0, none⟩) 2 2]) (hz : ∀ L, (layTape.slice 94).own wx (2, fun _ => zeroT) [.slice (some ⟨t, 0, none⟩) 2 2] L → L = [t]) : (layTape.slice 94).own wx (2, fun _ => zeroT) [.slice (some ⟨t, 0, none⟩) 2 2] [t] := by
  obtain ⟨L, h1, _⟩ := h
  have := hz L h1
  subst this
  exact h1
theorem SlP.two {w : World} {lo t cap : Nat} {x : Nat → TapeD} {Ls : Nat → List Nat} (h : SlP layTape 94 w lo t cap 2 0 x (fun _ => [.bool false, .slice none 0 0]) Ls) : (layTape.slice 94).own w (2, fun _ => zeroT) [.slice (Option.some ⟨t, 0, none⟩) 2 cap] [t] := by
  refine ⟨_, fun _ => [.bool false, .slice none 0 0], fun _ => [], rfl, rfl, ⟨h.row.1, ?_⟩, fun i _ => own_zeroT w⟩
  rcases h.row.2 with ⟨hn, _⟩ | ⟨g', cap', cur, he, hbg, rest⟩
  · cases hn
  · exact .inr ⟨g', cap', cur, he, Nat.zero_le _, rest⟩
end Go.Proofs.YtbmfndjglndnlaaGreat

namespace Go.Proofs.YtbmfndjglndnlaaGreat
open Go.RowKit F256
set_option linter.unusedVariables false
theorem mark_T {α : Type} {A : Lay α} {c : α → Nat} {mk : Nat → α → α} {fn : Nat} (hm : MkV A c mk fn) {w : World} {lo hi : Nat} {d : α} {cs : List Value} (h : OwnT A w lo hi d cs) (j : Nat) (hj : j + c d ≤ 100000000) :
    Calls Tryz.prog fn #[.agg cs.toArray, .int .i64 j] w fun e w' => e = .returned (.int .i64 ((j + c d : Nat) : Int)) ∧ OwnT A w' lo hi (mk j d) cs ∧ Chg lo hi w w' := by
  obtain ⟨L, h1, h2, h3⟩ := h
  exact (hm cs d L j w h1 h2 hj).mono fun e w' ⟨he, ho, hc⟩ => ⟨he, ⟨L, ho, h2, h3⟩, hc.chg h3⟩
theorem Chg.bel {lo hi B : Nat} {w w' : World} (h : Chg lo hi w w') (hl : B ≤ lo) (hB : B ≤ w.heap.size) : Below B w w' := ⟨h.os, h.tape, h.output, h.size, fun k hk => h.block k (by omega) (.inl (by omega))⟩
theorem sumN_mono2 {f g : Nat → Nat} : ∀ {n : Nat}, (∀ i, i < n → f i ≤ g i) → sumN f n ≤ sumN g n
  | 0, _ => Nat.le_refl _
  | n + 1, h => by
    rw [sumN_succ, sumN_succ]
    exact Nat.add_le_add (sumN_mono2 (fun i hi => h i (by omega))) (h n (by omega))
theorem sumN_const (c : Nat) : ∀ n : Nat, sumN (fun _ => c) n = n * c
  | 0 => by simp [sumN]
  | n + 1 => by rw [sumN_succ, sumN_const c n, Nat.succ_mul]
theorem sumN_plus (f : Nat → Nat) (c k : Nat) : ∀ n : Nat, sumN (fun i => c + k * f i) n = n * c + k * sumN f n
  | 0 => by simp [sumN]
  | n + 1 => by rw [sumN_succ, sumN_plus f c k n, sumN_succ, Nat.succ_mul, Nat.mul_add]; omega
/-- marks of a slice: at most k times its measure -/
theorem cSl_le {α : Type} {c s : α → Nat} {k : Nat} (h : ∀ a, c a ≤ k + k * s a) (p : Nat × (Nat → α)) : cSl c p ≤ k * szSl s p := by
  unfold cSl szSl
  have h1 : sumN (fun i => c (p.2 i)) p.1 ≤ sumN (fun i => k + k * s (p.2 i)) p.1 := sumN_mono2 (fun i _ => h (p.2 i))
  rw [sumN_plus (fun i => s (p.2 i)) k k p.1] at h1
  rw [Nat.mul_add]
  have : p.1 * k = k * p.1 := Nat.mul_comm _ _
  omega
theorem cBlock_le (d : BlockD) : cBlockD d ≤ 6 + 6 * szBlockD d := by unfold cBlockD szBlockD; omega
theorem cDrive_le (d : DriveD) : cDriveD d ≤ 6 + 6 * szDriveD d := by
  have := cSl_le (k := 6) cBlock_le d.blocks
  unfold cDriveD szDriveD
  omega
theorem cRec_le (d : RecD) : cRecD d ≤ 6 + 6 * szRecD d := by unfold cRecD szRecD; omega
theorem cTape_le (d : TapeD) : cTapeD d ≤ 6 + 6 * szTapeD d := by
  have := cSl_le (k := 6) cRec_le d.recs
  unfold cTapeD szTapeD
  omega
theorem cvWorld_le (d : WorldD) : cvWorldD d ≤ 6 * szWorldD d := by
  have h1 := cSl_le (c := cSl cDriveD) (s := szSl szDriveD) (k := 6) (fun p => Nat.le_trans (cSl_le (k := 6) cDrive_le p) (by omega)) d.groups
  have h3 := cSl_le (k := 6) cTape_le d.tapes
  unfold cvWorldD szWorldD
  omega
theorem szFresh (R : Nat) : szDriveD (freshD R) = R + R * 4 := by
  show R + sumN (fun _ => 4) R = _
  rw [sumN_const]
theorem szNew (s : Nat → Int) (h : OkShape s) : szWorldD (newW s) ≤ 10000 := by
  obtain ⟨h1, h2, h3, _⟩ := h
  unfold Shp3 at h1
  unfold Shp at h2
  obtain ⟨G, hG⟩ : ∃ G, (s 0 + s 1).toNat = G := ⟨_, rfl⟩
  obtain ⟨D, hD⟩ : ∃ D, (s 2 + s 3).toNat = D := ⟨_, rfl⟩
  obtain ⟨R, hR⟩ : ∃ R, (s 4).toNat = R := ⟨_, rfl⟩
  have e1 : szSl szDriveD (D, fun _ => freshD R) = D + D * (R + R * 4) := by
    show D + sumN (fun _ => szDriveD (freshD R)) D = _
    rw [sumN_const, szFresh]
  have e2 : szWorldD (newW s) = (G + G * (D + D * (R + R * 4))) + 0 + (2 + 2 * 0) := by
    unfold szWorldD newW
    simp only [hG, hD, hR]
    have a : szSl (szSl szDriveD) (G, fun _ => (D, fun _ => freshD R)) = G + G * (D + D * (R + R * 4)) := by
      show G + sumN (fun _ => szSl szDriveD (D, fun _ => freshD R)) G = _
      rw [sumN_const, e1]
    have b : szSl szTapeD (2, fun _ => zeroT) = 2 + 2 * 0 := by
      show 2 + sumN (fun _ => szTapeD zeroT) 2 = _
      rw [sumN_const]
      rfl
    rw [a, b]
    rfl
  rw [e2]
  have k1 : D * (R + R * 4) ≤ 6 * 30 := Nat.mul_le_mul (by omega) (by omega)
  have k2 : G * (D + D * (R + R * 4)) ≤ 6 * 186 := Nat.mul_le_mul (by omega) (by omega)
  omega
theorem cvNew (s : Nat → Int) {d : WorldResultD} (h : NewAns s d) : cvWorldResultD d ≤ 90000 := by
  rcases h with ⟨_, rfl⟩ | ⟨h, rfl⟩
  · show cvWorldD zeroW ≤ _
    have : cvWorldD zeroW = 0 := rfl
    omega
  · show cvWorldD (newW s) ≤ _
    have := cvWorld_le (newW s)
    have := szNew s h
    omega
end Go.Proofs.YtbmfndjglndnlaaGreat

namespace Go.Proofs.YtbmfndjglndnlaaGreat
open Go.RowKit F256
set_option linter.unusedVariables false
theorem OwnT.one {α : Type} {A : Lay α} {w : World} {lo hi : Nat} {a : α} {cs : List Value} (h : OwnT A w lo hi a cs) : ∀ v, v ∈ cs → v.oneCell' = true := by
  obtain ⟨L, h1, _⟩ := h
  exact fun v hv => A.own_one h1 v hv
theorem wp_allocStore {ops : Array Oper} {rest : List Oper} {o1 o2 : Oper} {a : Act} {w : World} {Q : Exit → Act → World → Prop} (T : TypeId) (k : Nat) (x : Operand) (cs : List Value) (zs : Array Value) (n : Nat)
    (hop1 : o1.op = Op.alloc T) (hop2 : o2.op = Op.store T (.tmp k) x) (hg1 : o1.guard = none) (hg2 : o2.guard = none) (hd1 : o1.dst = some k) (hd2 : o2.dst = none)
    (hp : (a.put (some k) (.pointer (some ⟨w.heap.size, 0, none⟩))).eval (.tmp k) = .pointer (some ⟨w.heap.size, 0, none⟩)) (hx : (a.put (some k) (.pointer (some ⟨w.heap.size, 0, none⟩))).eval x = .agg cs.toArray)
    (hi : (Tryz.prog.info? T).map (fun i => (i.zero.map (·.cells), i.size)) = some (some zs, n)) (hz : zs.size = n) (hl : cs.length = n) (h1 : ∀ v, v ∈ cs → v.oneCell' = true)
    (h : wpList Tryz.prog ops Q rest (a.put (some k) (.pointer (some ⟨w.heap.size, 0, none⟩))) (w.alloc (.cells cs.toArray T))) : wpList Tryz.prog ops Q (o1 :: o2 :: rest) a w := by
  obtain ⟨i0, hi0⟩ : ∃ i0, Tryz.prog.info? T = some i0 := by
    cases h : Tryz.prog.info? T with
    | none => rw [h] at hi; cases hi
    | some i0 => exact ⟨i0, rfl⟩
  rw [hi0] at hi
  simp only [Option.map_some, Option.some.injEq, Prod.mk.injEq] at hi
  obtain ⟨h2, h3⟩ := hi
  obtain ⟨z, hzz, hzc⟩ : ∃ z, i0.zero = some z ∧ z.cells = zs := by
    cases h : i0.zero with
    | none => rw [h] at h2; cases h2
    | some z => rw [h] at h2; exact ⟨z, rfl, by simpa using h2⟩
  have hr : (Instr.alloc T true (.tuple #[])).run Tryz.prog w = .ok (.pointer (some ⟨w.heap.size, 0, none⟩)) (w.alloc (.cells zs T)) := by
    simp [Instr.alloc, zeroValue, typeInfo, hi0, hzz, hzc, newVar, newRow]
  have hw : (w.alloc (.cells zs T)).setRow w.heap.size cs.toArray = w.alloc (.cells cs.toArray T) := by
    have hh : ((w.alloc (.cells zs T)).setRow w.heap.size cs.toArray).heap = w.heap.push (.cells cs.toArray T) := by
      apply Array.ext_getElem?
      intro i
      by_cases c : i = w.heap.size
      · subst c
        rw [setRow_heap (w.alloc (.cells zs T)) w.heap.size zs cs.toArray T (0, 0) (box_new w zs T), Array.getElem?_push, if_pos rfl]
      · rw [setRow_other _ _ _ _ c, Array.getElem?_push, if_neg c]
        show (w.heap.push _)[i]? = _
        rw [Array.getElem?_push, if_neg c]
    show ({ w with heap := ((w.alloc (.cells zs T)).setRow w.heap.size cs.toArray).heap } : World) = _
    rw [hh]
    rfl
  refine wpList_plain hg1 fun K hK => ?_
  unfold Oper.wp execOp
  simp only [hop1, Sem.run_bind, hr, Result.andThen_ok]
  refine hK _ _ ?_
  rw [hd1]
  refine wpList_store_row hg2 T (.tmp k) x hop2 w.heap.size cs.toArray hp hx T zs (box_new w zs T) (by rw [hi0]; simp [h3, hl]) (by simp [hz, hl]) (by simp; exact h1) ?_
  rw [hw, hd2]
  exact h
/-- a whole struct loaded -/
theorem wp_loadBox {ops : Array Oper} {rest : List Oper} {o : Oper} {a : Act} {w : World} {Q : Exit → Act → World → Prop} (T : TypeId) (x : Operand) (ho : o.op = .load T x) (hgd : o.guard = none) (b : Nat) (hx : a.eval x = .pointer (some ⟨b, 0, none⟩)) {cs : List Value} (hB : Box w b cs.toArray T) {fs : Array Field} (hu : Tryz.prog.underlying T = some (.struct fs)) {n : Nat} (hi : (Tryz.prog.info? T).map (·.size) = some n) (hl : cs.length = n)
    (h : wpList Tryz.prog ops Q rest (a.put o.dst (.agg cs.toArray)) w) : wpList Tryz.prog ops Q (o :: rest) a w :=
  wpList_load_row hgd T x ho b hx T cs.toArray (0, 0) (.struct fs) hB hu rfl (by rw [hi]; simp [hl]) h
theorem OwnT.len {α : Type} {A : Lay α} {w : World} {lo hi : Nat} {a : α} {cs : List Value} (h : OwnT A w lo hi a cs) : cs.length = A.sz := by
  obtain ⟨L, h1, _⟩ := h
  exact A.own_len h1
theorem size_WR : (Tryz.prog.info? 36).map (·.size) = some 16 := by kernel_rfl
theorem size_W : (Tryz.prog.info? 34).map (·.size) = some 15 := by kernel_rfl
theorem size_LW : (Tryz.prog.info? 28).map (·.size) = some 15 := by kernel_rfl
theorem size_LS : (Tryz.prog.info? 23).map (·.size) = some 9 := by kernel_rfl
theorem info_WR : (Tryz.prog.info? 36).map (fun i => (i.zero.map (·.cells), i.size)) = some (some #[.int .i64 0, .int .i64 0, .int .i64 0, .int .i64 0, .int .i64 0, .int .i64 0, .int .i64 0, .int .i64 0, .int .i64 0, .int .i64 0, .slice none 0 0, .slice none 0 0, .slice none 0 0, .int .i64 0, .int .i64 0, .bool false], 16) := by kernel_rfl
theorem info_W : (Tryz.prog.info? 34).map (fun i => (i.zero.map (·.cells), i.size)) = some (some #[.int .i64 0, .int .i64 0, .int .i64 0, .int .i64 0, .int .i64 0, .int .i64 0, .int .i64 0, .int .i64 0, .int .i64 0, .slice none 0 0, .slice none 0 0, .slice none 0 0, .int .i64 0, .int .i64 0, .bool false], 15) := by kernel_rfl
theorem info_BR : (Tryz.prog.info? 48).map (fun i => (i.zero.map (·.cells), i.size)) = some (some #[.int .i64 0, .int .i64 0, .slice none 0 0], 3) := by kernel_rfl
end Go.Proofs.YtbmfndjglndnlaaGreat

namespace Go.Proofs.YtbmfndjglndnlaaGreat
open Go.RowKit F256
set_option linter.unusedVariables false
theorem chgL_setRow {w : World} (b : Nat) (cs : Array Value) : ChgL [b] w (w.setRow b cs) :=
  ⟨rfl, rfl, rfl, by simp, fun k _ hn => setRow_other w b k cs (fun h => hn (by simp [h]))⟩
/-- a whole struct is stored -/
theorem wp_storeBox {ops : Array Oper} {rest : List Oper} {o : Oper} {a : Act} {w : World} {Q : Exit → Act → World → Prop} (T : TypeId) (x y : Operand) (ho : o.op = .store T x y) (hgd : o.guard = none) (b : Nat) (hx : a.eval x = .pointer (some ⟨b, 0, none⟩)) {cs old : List Value} (hy : a.eval y = .agg cs.toArray) (hB : Box w b old.toArray T) {n : Nat} (hi : (Tryz.prog.info? T).map (·.size) = some n) (hl : cs.length = n) (hol : old.length = n) (h1 : ∀ v, v ∈ cs → v.oneCell' = true)
    (h : ∀ w', Box w' b cs.toArray T → ChgL [b] w w' → w'.heap.size = w.heap.size → wpList Tryz.prog ops Q rest (a.put o.dst undef) w') : wpList Tryz.prog ops Q (o :: rest) a w := by
  refine wpList_store_row hgd T x y ho b cs.toArray hx hy T old.toArray hB (by rw [hi]; simp [hl]) (by simp [hl, hol]) (by simp; exact h1) ?_
  exact h _ (setRow_heap w b _ cs.toArray T (0, 0) hB) (chgL_setRow b _) (by simp)
/-- a struct's block is told -/
theorem ret_box {fn : Func} {R : Ending → World → Prop} {a : Act} {w : World} {p : Tmp} {ty : TypeId} (h : fn.results = #[.cell p ty]) {b : Nat} {cs : List Value} (hp : a.tmps.getD p undef = .pointer (some ⟨b, 0, none⟩)) (hB : Box w b cs.toArray ty) {fs : Array Field} (hu : Tryz.prog.underlying ty = some (.struct fs)) {n : Nat} (hi : (Tryz.prog.info? ty).map (·.size) = some n) (hl : cs.length = n) (hd : a.defers = []) (hR : R (.returned (.agg cs.toArray)) w) : bodyPost Tryz.prog fn R .ret a w :=
  bodyPost_ret (results_cell_row h a.tmps w b ty cs.toArray (0, 0) (.struct fs) hp hB hu rfl (by rw [hi]; simp [hl])) hd hR
theorem wres16 {w : World} {hi : Nat} {d : WorldResultD} {cs : List Value} (h : layWorldResult.rd w hi d cs) : ∃ vc v0 v1 v2 v3 v4 v5 v6 v7 v8 vp0 vl0 vq0 vp1 vl1 vq1 vp2 vl2 vq2 v9 v10 vb, cs = [.int .i64 vc, .int .i64 v0, .int .i64 v1, .int .i64 v2, .int .i64 v3, .int .i64 v4, .int .i64 v5, .int .i64 v6, .int .i64 v7, .int .i64 v8, .slice vp0 vl0 vq0, .slice vp1 vl1 vq1, .slice vp2 vl2 vq2, .int .i64 v9, .int .i64 v10, .bool vb] := by
  obtain ⟨p1, pc1, p2, pc2, p3, pc3, rfl, -⟩ := WorldResult_rd h
  exact ⟨_, _, _, _, _, _, _, _, _, _, _, _, _, _, _, _, _, _, _, _, _, _, rfl⟩
theorem code_one (x : Int) (hx : -9223372036854775808 ≤ x ∧ x ≤ 9223372036854775807) (w : World) : ∀ v, v ∈ ([.int .i64 x, .int .i64 0, .int .i64 0, .int .i64 0, .int .i64 0, .int .i64 0, .int .i64 0, .int .i64 0, .int .i64 0, .int .i64 0, .slice none 0 0, .slice none 0 0, .slice none 0 0, .int .i64 0, .int .i64 0, .bool false] : List Value) → v.oneCell' = true := (own_resCode w x hx 0 0).one
theorem OwnT.chgk {α : Type} {A : Lay α} {w w' : World} {lo hi : Nat} {a : α} {cs : List Value} {K : List Nat} (h : OwnT A w lo hi a cs) (hc : ChgL K w w') (hK : ∀ b, b ∈ K → b < lo ∨ hi ≤ b) : OwnT A w' lo hi a cs := by
  obtain ⟨M, h1, h2, h3⟩ := h
  exact ⟨M, A.own_kept h1 (fun b hb => hc.block b (A.own_lt h1 b hb) (fun hh => by have := hK b hh; have := h3 b hb; omega)), h2, h3⟩
/-- a code is told, with nothing beside it -/
theorem post_code {P : WorldResultD → Prop} {w wc w9 : World} {x : Int} (hx : -9223372036854775808 ≤ x ∧ x ≤ 9223372036854775807) (hb : Below w.heap.size w wc) (hc : ChgL [w.heap.size + 1] wc w9) (hP : P ⟨x, zeroW⟩) : ResPost P w (.returned (.agg #[.int .i64 x, .int .i64 0, .int .i64 0, .int .i64 0, .int .i64 0, .int .i64 0, .int .i64 0, .int .i64 0, .int .i64 0, .int .i64 0, .slice none 0 0, .slice none 0 0, .slice none 0 0, .int .i64 0, .int .i64 0, .bool false])) w9 :=
  ⟨⟨x, zeroW⟩, [.int .i64 x, .int .i64 0, .int .i64 0, .int .i64 0, .int .i64 0, .int .i64 0, .int .i64 0, .int .i64 0, .int .i64 0, .int .i64 0, .slice none 0 0, .slice none 0 0, .slice none 0 0, .int .i64 0, .int .i64 0, .bool false], rfl, hP, own_resCode _ x hx _ _, hb.trans (hc.bel (fun b hb => by simp at hb; omega) hb.size)⟩
/-- a world is told, with a code beside it -/
theorem post_world {P : WorldResultD → Prop} {w wc w9 : World} {c : Int} {d : WorldD} {cs : List Value} {lo hi : Nat} (hx : -9223372036854775808 ≤ c ∧ c ≤ 9223372036854775807) (hb : Below w.heap.size w wc) (hc : ChgL [w.heap.size + 1] wc w9) (ho : OwnT layWorld wc lo hi d cs) (hlo : w.heap.size + 1 < lo) (hhi : hi ≤ wc.heap.size) (hP : P ⟨c, d⟩) : ResPost P w (.returned (.agg (.int .i64 c :: cs).toArray)) w9 :=
  ⟨⟨c, d⟩, .int .i64 c :: cs, rfl, hP, (own_resOf c hx (ho.chgk hc (fun b hb => by simp at hb; omega))).weaken (by omega) (Nat.le_trans hhi hc.size), hb.trans (hc.bel (fun b hb => by simp at hb; omega) hb.size)⟩
end Go.Proofs.YtbmfndjglndnlaaGreat
