/- Slices of slices of bytes in memory: what can be read (RdM), what the call owns (OwnM: the outer row and each inner row in a block of its own, no two alike). -/
import Derived.Test.YtkijpgfmjogagaaGreatZPgroupaa
import Derived.Deep.Matrix
import Derived.Test.YtkijpgfmjogagaaGreatProg
import Derived.ChangeSame
import Derived.ChangeMaps5
import Derived.Maps.AppendAt
import Derived.Laws.BytesArg
import Derived.BigQuiet
import Derived.Deep.QuietTactic
set_option linter.unusedVariables false
set_option linter.unusedSimpArgs false
namespace Go.Proofs.YtkijpgfmjogagaaGreat
open Go.RowKit F256
def valsOf (n : Nat) (e : Nat → Value) : List Value := (List.range n).map e
theorem valsOf_length (n : Nat) (e : Nat → Value) : (valsOf n e).length = n := by simp [valsOf]
theorem valsOf_get (n : Nat) (e : Nat → Value) (i : Nat) (h : i < n) : (valsOf n e)[i]? = some (e i) := by simp [valsOf, h]
theorem valsOf_eq {n : Nat} {e g : Nat → Value} (h : ∀ i, i < n → e i = g i) : valsOf n e = valsOf n g := by
  apply List.map_congr_left
  intro i hi
  rw [h i (List.mem_range.mp hi)]
theorem valsOf_set (n : Nat) (e g : Nat → Value) (k : Nat) (x : Value) (hk : k < n) (h : ∀ i, i < n → g i = if i = k then x else e i) : (valsOf n e).set k x = valsOf n g := by
  apply List.ext_getElem?
  intro i
  by_cases hi : i < n
  · rw [valsOf_get n g i hi, h i hi, List.getElem?_set]
    by_cases c : k = i
    · subst c; simp [valsOf_length, hk]
    · rw [if_neg c, if_neg (fun h => c h.symm), valsOf_get n e i hi]
  · rw [List.getElem?_eq_none (by rw [List.length_set, valsOf_length]; omega), List.getElem?_eq_none (by rw [valsOf_length]; omega)]
theorem valsOf_snoc (n : Nat) (e : Nat → Value) : valsOf n e ++ [e n] = valsOf (n + 1) e := by
  simp [valsOf, List.range_succ]
abbrev nilS : Value := .slice none 0 0
theorem valsOf_made (n : Nat) : (madeCells #[nilS] n).toList = valsOf n fun _ => nilS := by
  rw [toList_madeCells_one]
  apply List.ext_getElem?
  intro i
  by_cases hi : i < n
  · rw [valsOf_get _ _ _ hi]; simp [hi]
  · rw [List.getElem?_eq_none (by simp; omega), List.getElem?_eq_none (by rw [valsOf_length]; omega)]
def RdM (w : World) (hi : Nat) (v : Value) (R : Nat) (n : Nat → Nat) (f : Nat → Nat → Nat) : Prop :=
  ∃ (ao : Option Addr) (cap : Nat) (e : Nat → Value), v = .slice ao R cap ∧ R ≤ maxLen ∧ (R ≠ 0 → ∃ b off, ao = some ⟨b, off, none⟩ ∧ b < hi ∧ ∀ i, i < R → w.cell? ⟨b, off + i, none⟩ = some (e i)) ∧
    ∀ i, i < R → Rd w hi (e i) (n i) (f i)
def Apart (g R : Nat) (e : Nat → Value) : Prop := (∀ i, i < R → (e i).ownBlock ≠ some g) ∧ ∀ i j, i < R → j < R → i ≠ j → ∀ k, (e i).ownBlock = some k → (e j).ownBlock ≠ some k
structure OwnE (w : World) (lo hi : Nat) (v : Value) (R : Nat) (n : Nat → Nat) (f : Nat → Nat → Nat) (g cap : Nat) (e : Nat → Value) : Prop where
  val : v = .slice (some ⟨g, 0, none⟩) R cap
  low : lo ≤ g
  high : g < hi
  row : w.ownsRow lo 91 1 v R (valsOf R e)
  each : ∀ i, i < R → Own w lo hi (e i) (n i) (f i)
  apart : Apart g R e
def OwnM (w : World) (lo hi : Nat) (v : Value) (R : Nat) (n : Nat → Nat) (f : Nat → Nat → Nat) : Prop := ∃ g cap e, OwnE w lo hi v R n f g cap e
theorem RdM.below {w w' : World} {hi B : Nat} {v : Value} {R : Nat} {n : Nat → Nat} {f : Nat → Nat → Nat} (h : RdM w hi v R n f) (hb : Below B w w') (hB : hi ≤ B) : RdM w' hi v R n f := by
  obtain ⟨ao, cap, e, rfl, hm, hc, he⟩ := h
  refine ⟨ao, cap, e, rfl, hm, fun h0 => ?_, fun i hi => (he i hi).below hb hB⟩
  obtain ⟨b, off, rfl, hlt, hcell⟩ := hc h0
  exact ⟨b, off, rfl, hlt, fun i hi => (hb.cell (p := ⟨b, off + i, none⟩) (by show b < B; omega)).trans (hcell i hi)⟩
theorem RdM.chg {w w' : World} {hi lo' hi' : Nat} {v : Value} {R : Nat} {n : Nat → Nat} {f : Nat → Nat → Nat} (h : RdM w hi v R n f) (hb : Chg lo' hi' w w') (hB : hi ≤ lo') (hB2 : hi ≤ w.heap.size) : RdM w' hi v R n f := h.below (hb.below hB hB2) (Nat.le_refl _)
theorem row_kept {w w' : World} {lo : Nat} {t : TypeId} {v : Value} {R : Nat} {xs : List Value} (h : w.ownsRow lo t 1 v R xs) (hk : ∀ g, v.ownBlock = some g → w'.heap[g]? = w.heap[g]?) : w'.ownsRow lo t 1 v R xs := by
  refine ⟨h.1, ?_⟩
  rcases h.2 with hn | ⟨g, cap, cur, rfl, hbg, hgg, rest⟩
  · exact .inl hn
  · exact .inr ⟨g, cap, cur, rfl, hbg, (hk g rfl).trans hgg, rest⟩
theorem Own.kept {w w' : World} {lo hi : Nat} {v : Value} {n : Nat} {f : Nat → Nat} (h : Own w lo hi v n f) (hk : ∀ g, v.ownBlock = some g → w'.heap[g]? = w.heap[g]?) : Own w' lo hi v n f := ⟨row_kept h.1 hk, h.2⟩
theorem OwnE.below {w w' : World} {lo hi B : Nat} {v : Value} {R : Nat} {n : Nat → Nat} {f : Nat → Nat → Nat} {g cap : Nat} {e : Nat → Value} (h : OwnE w lo hi v R n f g cap e) (hb : Below B w w') (hB : hi ≤ B) : OwnE w' lo hi v R n f g cap e := by
  refine ⟨h.val, h.low, h.high, row_kept h.row fun k hk => hb.block k ?_, fun i hi => (h.each i hi).below hb hB, h.apart⟩
  rw [h.val] at hk
  simp [Value.ownBlock] at hk
  have := h.high
  omega
theorem OwnM.below {w w' : World} {lo hi B : Nat} {v : Value} {R : Nat} {n : Nat → Nat} {f : Nat → Nat → Nat} (h : OwnM w lo hi v R n f) (hb : Below B w w') (hB : hi ≤ B) : OwnM w' lo hi v R n f := by
  obtain ⟨g, cap, e, h⟩ := h
  exact ⟨g, cap, e, h.below hb hB⟩
theorem OwnM.chg {w w' : World} {lo hi lo' hi' : Nat} {v : Value} {R : Nat} {n : Nat → Nat} {f : Nat → Nat → Nat} (h : OwnM w lo hi v R n f) (hb : Chg lo' hi' w w') (hB : hi ≤ lo' ∨ hi' ≤ lo) : OwnM w' lo hi v R n f := by
  obtain ⟨g, cap, e, h⟩ := h
  refine ⟨g, cap, e, h.val, h.low, h.high, row_kept h.row fun k hk => ?_, fun i hi => (h.each i hi).chg hb hB, h.apart⟩
  have hlt := (h.row.lt k hk).2
  rw [h.val] at hk
  simp [Value.ownBlock] at hk
  have h1 := h.high
  have h2 := h.low
  exact hb.block k hlt (by omega)
theorem OwnE.cell {w : World} {lo hi : Nat} {v : Value} {R : Nat} {n : Nat → Nat} {f : Nat → Nat → Nat} {g cap : Nat} {e : Nat → Value} (h : OwnE w lo hi v R n f g cap e) (i : Nat) (hi : i < R) : w.cell? ⟨g, i, none⟩ = some (e i) := by
  have hr := h.row
  rw [h.val] at hr
  rw [hr.cellAt i (by omega), valsOf_get R e i hi]
theorem OwnE.rd {w : World} {lo hi : Nat} {v : Value} {R : Nat} {n : Nat → Nat} {f : Nat → Nat → Nat} {g cap : Nat} {e : Nat → Value} (h : OwnE w lo hi v R n f g cap e) : RdM w hi v R n f := by
  have hle : R ≤ maxLen := by
    rcases h.row.2 with ⟨h1, h2⟩ | ⟨g', cap', cur, h1, _, _, hnc, hcm, _⟩
    · rw [h2]; exact Nat.zero_le _
    · omega
  exact ⟨_, cap, e, h.val, hle, fun _ => ⟨g, 0, rfl, h.high, fun i hi => by rw [Nat.zero_add]; exact h.cell i hi⟩, fun i hi => (h.each i hi).rd⟩
theorem OwnM.rd {w : World} {lo hi : Nat} {v : Value} {R : Nat} {n : Nat → Nat} {f : Nat → Nat → Nat} (h : OwnM w lo hi v R n f) : RdM w hi v R n f := by
  obtain ⟨g, cap, e, h⟩ := h
  exact h.rd
theorem OwnM.alloc {w : World} {lo hi : Nat} {v : Value} {R : Nat} {n : Nat → Nat} {f : Nat → Nat → Nat} (h : OwnM w lo hi v R n f) (o : Obj) : OwnM (w.alloc o) lo hi v R n f := by
  obtain ⟨g, cap, e, h⟩ := h
  exact ⟨g, cap, e, h.val, h.low, h.high, h.row.alloc o, fun i hi => (h.each i hi).alloc o, h.apart⟩
theorem OwnM.weaken {w : World} {lo hi lo' hi' : Nat} {v : Value} {R : Nat} {n : Nat → Nat} {f : Nat → Nat → Nat} (h : OwnM w lo hi v R n f) (h1 : lo' ≤ lo) (h2 : hi ≤ hi') : OwnM w lo' hi' v R n f := by
  obtain ⟨g, cap, e, h⟩ := h
  have hr : w.ownsRow lo' 91 1 v R (valsOf R e) := by
    refine ⟨h.row.1, ?_⟩
    rcases h.row.2 with hn | ⟨g, cap, cur, hv, hbg, rest⟩
    · exact .inl hn
    · exact .inr ⟨g, cap, cur, hv, by omega, rest⟩
  exact ⟨g, cap, e, h.val, Nat.le_trans h1 h.low, Nat.lt_of_lt_of_le h.high h2, hr, fun i hi => (h.each i hi).weaken h1 h2, h.apart⟩
def tlo (v : Value) (lo : Nat) : Nat := match v.ownBlock with | some k => k | none => lo
def thi (v : Value) (lo : Nat) : Nat := match v.ownBlock with | some k => k + 1 | none => lo
theorem Own.tight {w : World} {lo hi : Nat} {v : Value} {n : Nat} {f : Nat → Nat} (h : Own w lo hi v n f) : Own w (tlo v lo) (thi v lo) v n f := by
  rcases h.1.2 with ⟨rfl, rfl⟩ | ⟨g, cap, cur, rfl, hbg, rest⟩
  · exact own_nil _ _ _ _
  · exact ⟨⟨h.1.1, .inr ⟨g, cap, cur, rfl, Nat.le_refl _, rest⟩⟩, fun k hk => by simp [Value.ownBlock] at hk; subst hk; simp [thi, Value.ownBlock]⟩
theorem Own.untight {w : World} {lo hi : Nat} {v : Value} {n : Nat} {f : Nat → Nat} {n' : Nat} {f' : Nat → Nat} {w' : World} (h : Own w lo hi v n f) (h' : Own w' (tlo v lo) (thi v lo) v n' f') : Own w' lo hi v n' f' := by
  refine ⟨⟨h'.1.1, ?_⟩, h.2⟩
  rcases h'.1.2 with hn | ⟨g, cap, cur, rfl, hbg, rest⟩
  · exact .inl hn
  · refine .inr ⟨g, cap, cur, rfl, ?_, rest⟩
    exact (h.1.lt g rfl).1
theorem tight_sub {w : World} {lo hi : Nat} {v : Value} {n : Nat} {f : Nat → Nat} (h : Own w lo hi v n f) (hlh : lo ≤ hi) : lo ≤ tlo v lo ∧ thi v lo ≤ hi := by
  cases hv : v.ownBlock with
  | none => simp [tlo, thi, hv, hlh]
  | some k =>
    have h1 := (h.1.lt k hv).1
    have h2 := h.2 k hv
    simp [tlo, thi, hv]
    omega
theorem not_in_tight {v : Value} {lo k : Nat} (h : ∀ g, v.ownBlock = some g → k ≠ g) : k < tlo v lo ∨ thi v lo ≤ k := by
  cases hv : v.ownBlock with
  | none => simp [tlo, thi, hv]; omega
  | some g =>
    have := h g hv
    simp [tlo, thi, hv]
    omega
theorem Chg.widen {lo hi lo' hi' : Nat} {w w' : World} (h : Chg lo hi w w') (h1 : lo' ≤ lo) (h2 : hi ≤ hi') : Chg lo' hi' w w' := ⟨h.os, h.tape, h.output, h.size, fun k hk ho => h.block k hk (by omega)⟩
def sumN (n : Nat → Nat) : Nat → Nat
  | 0 => 0
  | k + 1 => sumN n k + n k
theorem sumN_mono (n : Nat → Nat) : ∀ {a b : Nat}, a ≤ b → sumN n a ≤ sumN n b
  | a, 0, h => by have : a = 0 := by omega
                  subst this; exact Nat.le_refl _
  | a, b + 1, h => by
    by_cases e : a = b + 1
    · subst e; exact Nat.le_refl _
    · have := sumN_mono n (show a ≤ b by omega)
      simp only [sumN]
      omega
theorem info_sl : (Tryz.prog.info? 91).map (fun i => (i.zero, i.size, i.bytes)) = some (some nilS, 1, 24) := by kernel_rfl
theorem Chg.refl' (lo hi : Nat) (w : World) : Chg lo hi w w := ⟨rfl, rfl, rfl, Nat.le_refl _, fun _ _ _ => rfl⟩
end Go.Proofs.YtkijpgfmjogagaaGreat
namespace Go.Proofs.YtkijpgfmjogagaaGreat
open Go.ChangeShapes Go.WideShapes Go.ChangeAt Go.RowKit Go.Deep F256
end Go.Proofs.YtkijpgfmjogagaaGreat
namespace Go.Proofs.YtkijpgfmjogagaaGreat
def shapeV (s : Nat → Int) : Value := .agg #[.int .i64 (s 0), .int .i64 (s 1), .int .i64 (s 2), .int .i64 (s 3), .int .i64 (s 4), .int .i64 (s 5), .int .i64 (s 6), .int .i64 (s 7), .int .i64 (s 8)]
end Go.Proofs.YtkijpgfmjogagaaGreat
namespace Go.Proofs.YtkijpgfmjogagaaGreat
open Go.ChangeShapes Go.WideShapes Go.ChangeAt Go.RowKit
end Go.Proofs.YtkijpgfmjogagaaGreat
namespace Go.Proofs.YtkijpgfmjogagaaGreat
open Go.ChangeShapes Go.WideShapes Go.ChangeAt Go.RowKit Go.Deep
theorem opensRec : Opens layRec 134 :=
  opens_as (A := layI.two (layI.two (layS.two (layI.two (layI.two (layI.two (layInts.two (layBytes.two layBytes)))))))) (fun p => ⟨p.1, p.2.1, p.2.2.1, p.2.2.2.1, p.2.2.2.2.1, p.2.2.2.2.2.1, p.2.2.2.2.2.2.1, p.2.2.2.2.2.2.2.1, p.2.2.2.2.2.2.2.2⟩) (fun _ => rfl)
    (opens_struct Tryz.underlying134 (show _ = 9 by kernel_rfl)
      (opens_more ⟨_, rfl, rfl, rfl⟩ (opensI Tryz.underlying2 (by kernel_rfl))
      (opens_more ⟨_, rfl, rfl, rfl⟩ (opensI Tryz.underlying2 (by kernel_rfl))
      (opens_more ⟨_, rfl, rfl, rfl⟩ (opensS Tryz.underlying9 (by kernel_rfl))
      (opens_more ⟨_, rfl, rfl, rfl⟩ (opensI Tryz.underlying2 (by kernel_rfl))
      (opens_more ⟨_, rfl, rfl, rfl⟩ (opensI Tryz.underlying2 (by kernel_rfl))
      (opens_more ⟨_, rfl, rfl, rfl⟩ (opensI Tryz.underlying2 (by kernel_rfl))
      (opens_more ⟨_, rfl, rfl, rfl⟩ (opensInts Tryz.underlying25 Tryz.underlying2 (by kernel_rfl) (by kernel_rfl))
      (opens_more ⟨_, rfl, rfl, rfl⟩ (opensBytes Tryz.underlying91 Tryz.underlying5 (by kernel_rfl) (by kernel_rfl))
      (opens_last ⟨_, rfl, rfl, rfl⟩ (opensBytes Tryz.underlying91 Tryz.underlying5 (by kernel_rfl) (by kernel_rfl)) rfl))))))))))
set_option maxRecDepth 20000 in
theorem struct_of_trod {α : Type} {A : Lay α} {fs : Array Field} {H : Type} {enc : TypeId × Value → H} {W : World} {r : Reach} {b0 : Nat} {v : Value} {d : DataW H} {ps : List MemPlace} {t : TypeId}
    (hO : Opens A t) (hu : Tryz.prog.underlying t = some (.struct fs)) (hval : Value.okWide Tryz.prog W r b0 t v) (h : DataW.Trod enc Tryz.prog W 0 (fun _ => true) true t v d ps) :
    ∃ cs a, v = .agg cs.toArray ∧ A.rd W W.heap.size a cs := by
  obtain ⟨cs, rfl, hsz⟩ := okWide_struct hu hval
  obtain ⟨fuel, hfu⟩ := h
  have hfu' : DataW.trod enc Tryz.prog W 0 (fun _ => true) true fuel t cs.toList = some (d, ps) := hfu
  obtain ⟨a, ha⟩ := hO.opens hfu'
  exact ⟨cs.toList, a, by simp, ha⟩
end Go.Proofs.YtkijpgfmjogagaaGreat
namespace Go.Proofs.YtkijpgfmjogagaaGreat
open Go.ChangeShapes Go.WideShapes Go.ChangeAt Go.RowKit Go.Deep
theorem opens_map {α β : Type} {A : Lay α} {B : Lay β} {t : TypeId} (h : Opens A t) (hs : A.sz = B.sz) (hi : ∃ b : β, True) (f : ∀ W hi a cs, A.rd W hi a cs → ∃ b, B.rd W hi b cs) : Opens B t :=
  ⟨h.size.trans hs, hi, fun h1 => by
    obtain ⟨a, ha⟩ := h.opens h1
    exact f _ _ _ _ ha⟩
def nine (a0 a1 a2 a3 a4 a5 a6 a7 a8 : Int) : Nat → Int
  | 0 => a0 | 1 => a1 | 2 => a2 | 3 => a3 | 4 => a4 | 5 => a5 | 6 => a6 | 7 => a7 | 8 => a8 | _ => 0
theorem opensShape9 : Opens (layNums 9) 23 := by
  refine opens_map (A := layI.two (layI.two (layI.two (layI.two (layI.two (layI.two (layI.two (layI.two layI)))))))) ?_ rfl ⟨fun _ => 0, trivial⟩ ?_
  · exact opens_struct Tryz.underlying23 (show _ = 9 by kernel_rfl)
      (opens_more ⟨_, rfl, rfl, rfl⟩ (opensI Tryz.underlying2 (by kernel_rfl))
      (opens_more ⟨_, rfl, rfl, rfl⟩ (opensI Tryz.underlying2 (by kernel_rfl))
      (opens_more ⟨_, rfl, rfl, rfl⟩ (opensI Tryz.underlying2 (by kernel_rfl))
      (opens_more ⟨_, rfl, rfl, rfl⟩ (opensI Tryz.underlying2 (by kernel_rfl))
      (opens_more ⟨_, rfl, rfl, rfl⟩ (opensI Tryz.underlying2 (by kernel_rfl))
      (opens_more ⟨_, rfl, rfl, rfl⟩ (opensI Tryz.underlying2 (by kernel_rfl))
      (opens_more ⟨_, rfl, rfl, rfl⟩ (opensI Tryz.underlying2 (by kernel_rfl))
      (opens_more ⟨_, rfl, rfl, rfl⟩ (opensI Tryz.underlying2 (by kernel_rfl))
      (opens_last ⟨_, rfl, rfl, rfl⟩ (opensI Tryz.underlying2 (by kernel_rfl)) rfl)))))))))
  · intro W hi a cs h
    obtain ⟨a0, a1, a2, a3, a4, a5, a6, a7, a8⟩ := a
    obtain ⟨_, _, rfl, ⟨rfl, k0⟩, _, _, rfl, ⟨rfl, k1⟩, _, _, rfl, ⟨rfl, k2⟩, _, _, rfl, ⟨rfl, k3⟩, _, _, rfl, ⟨rfl, k4⟩, _, _, rfl, ⟨rfl, k5⟩, _, _, rfl, ⟨rfl, k6⟩, _, _, rfl, ⟨rfl, k7⟩, ⟨rfl, k8⟩⟩ := h
    refine ⟨nine a0 a1 a2 a3 a4 a5 a6 a7 a8, rfl, fun i => ?_⟩
    match i with
    | 0 => exact k0
    | 1 => exact k1
    | 2 => exact k2
    | 3 => exact k3
    | 4 => exact k4
    | 5 => exact k5
    | 6 => exact k6
    | 7 => exact k7
    | 8 => exact k8
    | n + 9 => exact ⟨show (-9223372036854775808 : Int) ≤ 0 by decide, show (0 : Int) ≤ 9223372036854775807 by decide⟩
theorem opensBlock : Opens layBlock 154 :=
  opens_as (A := layI.two layBytes) (fun p => ⟨p.1, p.2⟩) (fun _ => rfl)
    (opens_struct Tryz.underlying154 (show _ = 2 by kernel_rfl)
      (opens_more ⟨_, rfl, rfl, rfl⟩ (opensI Tryz.underlying2 (by kernel_rfl))
      (opens_last ⟨_, rfl, rfl, rfl⟩ (opensBytes Tryz.underlying91 Tryz.underlying5 (by kernel_rfl) (by kernel_rfl)) rfl)))
theorem opensDrive : Opens layDrive 106 :=
  opens_as (A := layB.two (layBlock.slice 101)) (fun p => ⟨p.1, p.2⟩) (fun _ => rfl)
    (opens_struct Tryz.underlying106 (show _ = 2 by kernel_rfl)
      (opens_more ⟨_, rfl, rfl, rfl⟩ (opensB Tryz.underlying4 (by kernel_rfl))
      (opens_last ⟨_, rfl, rfl, rfl⟩ (opens_slice (by decide) Tryz.underlying104 (by kernel_rfl) opensBlock) rfl)))
theorem opensTape : Opens layTape 72 :=
  opens_as (A := layB.two (layRec.slice 93)) (fun p => ⟨p.1, p.2⟩) (fun _ => rfl)
    (opens_struct Tryz.underlying72 (show _ = 2 by kernel_rfl)
      (opens_more ⟨_, rfl, rfl, rfl⟩ (opensB Tryz.underlying4 (by kernel_rfl))
      (opens_last ⟨_, rfl, rfl, rfl⟩ (opens_slice (by decide) Tryz.underlying70 (by kernel_rfl) opensRec) rfl)))
theorem opensWorld : Opens layWorld 28 :=
  opens_as (A := (layNums 9).two (((layDrive.slice 76).slice 73).two (layInts.two ((layTape.slice 80).two (layI.two (layI.two layB)))))) (fun p => ⟨p.1, p.2.1, p.2.2.1, p.2.2.2.1, p.2.2.2.2.1, p.2.2.2.2.2.1, p.2.2.2.2.2.2⟩) (fun _ => rfl)
    (opens_struct Tryz.underlying28 (show _ = 15 by kernel_rfl)
      (opens_more ⟨_, rfl, rfl, rfl⟩ opensShape9
      (opens_more ⟨_, rfl, rfl, rfl⟩ (opens_slice (by decide) Tryz.underlying24 (by kernel_rfl) (opens_slice (by decide) Tryz.underlying68 (by kernel_rfl) opensDrive))
      (opens_more ⟨_, rfl, rfl, rfl⟩ (opensInts Tryz.underlying25 Tryz.underlying2 (by kernel_rfl) (by kernel_rfl))
      (opens_more ⟨_, rfl, rfl, rfl⟩ (opens_slice (by decide) Tryz.underlying26 (by kernel_rfl) opensTape)
      (opens_more ⟨_, rfl, rfl, rfl⟩ (opensI Tryz.underlying2 (by kernel_rfl))
      (opens_more ⟨_, rfl, rfl, rfl⟩ (opensI Tryz.underlying2 (by kernel_rfl))
      (opens_last ⟨_, rfl, rfl, rfl⟩ (opensB Tryz.underlying4 (by kernel_rfl)) rfl))))))))
end Go.Proofs.YtkijpgfmjogagaaGreat
namespace Go.Proofs.YtkijpgfmjogagaaGreat
open Go.RowKit
theorem catN_made (zs : List Value) (hz : 0 < zs.length) (n : Nat) : (madeCells zs.toArray (n * zs.length)).toList = catN n (fun _ => zs) := by
  have hl : ∀ i, i < n → ((fun _ => zs : Nat → List Value) i).length = zs.length := fun _ _ => rfl
  apply List.ext_getElem?
  intro i
  by_cases hi : i < n * zs.length
  · have e : i / zs.length * zs.length + i % zs.length = i := by rw [Nat.mul_comm]; exact Nat.div_add_mod i zs.length
    have hq : i / zs.length < n := (Nat.div_lt_iff_lt_mul hz).2 hi
    have hr := Nat.mod_lt i hz
    have g1 := catN_get hl hq hr
    rw [e] at g1
    rw [g1]
    simp only [madeCells, Array.toList_map, Array.toList_range, List.getElem?_map, List.getElem?_range hi, Option.map_some]
    simp [hr]
  · rw [List.getElem?_eq_none (by simp [size_madeCells]; omega), List.getElem?_eq_none (by rw [catN_len hl]; omega)]
theorem wp_makeT {α : Type} (E : Lay α) (zs : List Value) (T e : TypeId) (by_ : Nat) (hs : 0 < E.sz) (hzs : zs.length = E.sz) (hu : Tryz.prog.underlying T = some (.slice e)) (hi : (Tryz.prog.info? e).map (fun i => (i.zero.map (·.cells), i.size, i.bytes)) = some (some zs.toArray, E.sz, by_))
    (x : Nat → α) (Ls : Nat → List Nat) (w : World) {ops : Array Oper} {rest : List Oper} {o : Oper} {a : Act} {Q : Exit → Act → World → Prop}
    (hg : o.guard = none) (l c : Operand) (hop : o.op = Op.makeSlice T l c) (L C : Int) (n : Nat) (hl : a.eval l = .int .i64 L) (hc : a.eval c = .int .i64 C) (hL : L = (n : Int)) (hC : C = (n : Int)) (hn : by_ * n ≤ 281474976710656) (hm : n ≤ maxLen)
    (hK : ∀ w', SlP E e w' w.heap.size w.heap.size n n 0 x (fun _ => zs) Ls → Below w.heap.size w w' → wpList Tryz.prog ops Q rest (a.put o.dst (.slice (some ⟨w.heap.size, 0, none⟩) n n)) w') :
    wpList Tryz.prog ops Q (o :: rest) a w := by
  obtain ⟨i0, hi0⟩ : ∃ i0, Tryz.prog.info? e = some i0 := by
    cases h : Tryz.prog.info? e with
    | none => rw [h] at hi; cases hi
    | some i0 => exact ⟨i0, rfl⟩
  rw [hi0] at hi
  simp only [Option.map_some, Option.some.injEq, Prod.mk.injEq] at hi
  obtain ⟨h1, h2, h3⟩ := hi
  obtain ⟨z, hz, hzc⟩ : ∃ z, i0.zero = some z ∧ z.cells = zs.toArray := by
    cases h : i0.zero with
    | none => rw [h] at h1; cases h1
    | some z => rw [h] at h1; exact ⟨z, rfl, by simpa using h1⟩
  refine wpList_make_full w hg l c T hop w.heap.size e i0 z E.sz hu hi0 hz h2 .i64 .i64 L C n hl hc hL hC (by rw [h3]; exact hn) hm (Nat.le_refl _) ?_
  intro w' hown hgrow
  rw [hzc, ← hzs, catN_made zs (by omega)] at hown
  rw [hzs] at hown
  exact hK w' ⟨hown, fun _ _ => hzs, fun i hi => by omega, by simp [catN_zero], fun b hb => by rw [catN_zero] at hb; cases hb⟩ (below_of_grown hgrow)
end Go.Proofs.YtkijpgfmjogagaaGreat
namespace Go.Proofs.YtkijpgfmjogagaaGreat
open Go.RowKit
structure SlG {α : Type} (E : Lay α) (t : TypeId) (w : World) (lo : Nat) (v : Value) (n : Nat) (x : Nat → α) (ce : Nat → List Value) (Ls : Nat → List Nat) : Prop where
  row : w.ownsRow lo t E.sz v n (catN n ce)
  each : ∀ i, i < n → E.own w (x i) (ce i) (Ls i)
  nd : (v.ownBlock.toList ++ catN n Ls).Nodup
  low : ∀ b, b ∈ catN n Ls → lo ≤ b
section
variable {α : Type} {E : Lay α} {t : TypeId} {w w' : World} {lo n : Nat} {v : Value} {x : Nat → α} {ce : Nat → List Value} {Ls : Nat → List Nat}
theorem SlG.nil (x : Nat → α) (w : World) (lo : Nat) : SlG E t w lo (.slice none 0 0) 0 x (fun _ => []) (fun _ => []) := ⟨World.ownsRow_nil w lo t E.sz, fun i hi => by omega, by simp [Value.ownBlock, catN_zero], fun b hb => by rw [catN_zero] at hb; cases hb⟩
theorem SlG.mem_lt (h : SlG E t w lo v n x ce Ls) : ∀ b, b ∈ v.ownBlock.toList ++ catN n Ls → b < w.heap.size := fun b hb => by
  rcases List.mem_append.1 hb with h1 | h1
  · exact (h.row.lt b (by simpa using h1)).2
  · obtain ⟨i, hi, hbi⟩ := mem_catN.1 h1
    exact E.own_lt (h.each i hi) b hbi
theorem SlG.kept (h : SlG E t w lo v n x ce Ls) (hk : ∀ b, b ∈ v.ownBlock.toList ++ catN n Ls → w'.heap[b]? = w.heap[b]?) : SlG E t w' lo v n x ce Ls := by
  refine ⟨⟨h.row.1, ?_⟩, fun i hi => E.own_kept (h.each i hi) (fun b hb => hk b (List.mem_append_right _ (mem_catN.2 ⟨i, hi, hb⟩))), h.nd, h.low⟩
  rcases h.row.2 with hn | ⟨g, cap, cur, rfl, hbg, hgg, rest⟩
  · exact .inl hn
  · exact .inr ⟨g, cap, cur, rfl, hbg, (hk g (by simp [Value.ownBlock])).trans hgg, rest⟩
theorem SlG.below (h : SlG E t w lo v n x ce Ls) (hb : Below w.heap.size w w') : SlG E t w' lo v n x ce Ls := h.kept (fun b hb' => hb.block b (h.mem_lt b hb'))
theorem SlG.own (h : SlG E t w lo v n x ce Ls) : OwnT (E.slice t) w lo w.heap.size (n, x) [v] := by
  refine ⟨v.ownBlock.toList ++ catN n Ls, ⟨v, ce, Ls, rfl, rfl, ⟨h.row.1, ?_⟩, h.each⟩, h.nd, fun b hb => ⟨?_, h.mem_lt b hb⟩⟩
  · rcases h.row.2 with hn | ⟨g, cap, cur, rfl, hbg, rest⟩
    · exact .inl hn
    · exact .inr ⟨g, cap, cur, rfl, Nat.zero_le _, rest⟩
  · rcases List.mem_append.1 hb with h1 | h1
    · exact (h.row.lt b (by simpa using h1)).1
    · exact h.low b h1
theorem SlG.grown (h : SlG E t w lo v n x ce Ls) {a : α} {cs : List Value} {K : List Nat} (ha : E.own w a cs K) (hnd : K.Nodup) (hK : ∀ b, b ∈ K → lo ≤ b ∧ b ∉ v.ownBlock.toList ++ catN n Ls) {v' : Value}
    (hr : w'.ownsRow lo t E.sz v' (n + 1) (catN n ce ++ cs)) (hg : w.grownBy w' v.ownBlock) (h5 : v'.ownBlock = v.ownBlock ∨ v'.ownBlock = some w.heap.size) :
    SlG E t w' lo v' (n + 1) (upd x n a) (upd ce n cs) (upd Ls n K) := by
  have eL : catN (n + 1) (upd Ls n K) = catN n Ls ++ K := by
    rw [catN_succ, upd_at, catN_congr (g := Ls) (fun i hi => upd_ne Ls K (by omega))]
  have eC : catN (n + 1) (upd ce n cs) = catN n ce ++ cs := by
    rw [catN_succ, upd_at, catN_congr (g := ce) (fun i hi => upd_ne ce cs (by omega))]
  have nd1 := List.nodup_append.1 h.nd
  have hall : ∀ b, b ∈ catN n Ls ++ K → b < w.heap.size ∧ some b ≠ v.ownBlock := fun b hb => by
    rcases List.mem_append.1 hb with h1 | h1
    · exact ⟨h.mem_lt b (List.mem_append_right _ h1), fun hh => nd1.2.2 b (by rw [← hh]; simp) b h1 rfl⟩
    · exact ⟨E.own_lt ha b h1, fun hh => (hK b h1).2 (List.mem_append_left _ (by rw [← hh]; simp))⟩
  refine ⟨by rw [eC]; exact hr, fun i hi => ?_, ?_, ?_⟩
  · by_cases c : i = n
    · subst c
      rw [upd_at, upd_at, upd_at]
      exact E.own_kept ha (fun b hb => by
        have := hall b (List.mem_append_right _ hb)
        exact hg.block b this.1 this.2)
    · rw [upd_ne x a c, upd_ne ce cs c, upd_ne Ls K c]
      exact E.own_kept (h.each i (by omega)) (fun b hb => by
        have := hall b (List.mem_append_left _ (mem_catN.2 ⟨i, by omega, hb⟩))
        exact hg.block b this.1 this.2)
  · rw [eL]
    refine List.nodup_append.2 ⟨?_, List.nodup_append.2 ⟨nd1.2.1, hnd, fun b hb c hc hh => ?_⟩, fun b hb c hc hh => ?_⟩
    · cases hv : v'.ownBlock with
      | none => simp
      | some g => simp
    · subst hh
      exact (hK b hc).2 (List.mem_append_right _ hb)
    · subst hh
      have h3 := hall b hc
      have h4 : v'.ownBlock = some b := by simpa using hb
      rcases h5 with h5 | h5
      · exact h3.2 (by rw [← h5, h4])
      · rw [h5] at h4
        simp at h4
        omega
  · rw [eL]
    intro b hb
    rcases List.mem_append.1 hb with h1 | h1
    · exact h.low b h1
    · exact (hK b h1).1
end
end Go.Proofs.YtkijpgfmjogagaaGreat
namespace Go.Proofs.YtkijpgfmjogagaaGreat
open Go.RowKit F256
set_option maxHeartbeats 400000 in
theorem toInt64S_any (v : Value) (n : Nat) (f : Nat → Int) (hi : Nat) (w : World) (h : RdI w hi v n f) (hhi : hi ≤ w.heap.size) (hn : n ≤ 1000000000) :
    Calls Tryz.prog 23 #[v] w fun e w' => ∃ v', e = .returned v' ∧ OwnI w' w.heap.size w'.heap.size v' n f ∧ Below w.heap.size w w' := by
  obtain ⟨ao, cap, rfl, hm, hc⟩ := h
  go_enter Tryz.func23, Tryz.ntmps23
  go_wp2_with (at_make; refine wp_makeI _ rfl _ _ rfl _ _ n rfl rfl rfl rfl hn ?_; intro w1 hown1 hb1 hz1)
  go_loopw [4] (fun i wr => ∃ k : Nat, k ≤ n ∧ i = .int .i64 k ∧ OwnI wr w.heap.size w1.heap.size (.slice (some ⟨w.heap.size, 0, none⟩) n n) n (fun i => if i < k then f i else 0) ∧ Below w.heap.size w wr ∧ wr.heap.size = w1.heap.size) (fun i _ => n - (intOf i).toNat)
  case atStart => exact ⟨0, Nat.zero_le _, rfl, hown1, hb1, rfl⟩
  case round =>
    obtain ⟨k, hk, rfl, hown, hb, hz⟩ := hrel
    by_cases hlt : k < n
    · obtain ⟨b, off, rfl, hblt, hcell⟩ := hc (by omega)
      have hck : wr.cell? ⟨b, off + k, none⟩ = some (.int .i64 (f k)) := (hb.cell (p := ⟨b, off + k, none⟩) (by show b < w.heap.size; omega)).trans (hcell k hlt)
      have hco : wr.cell? ⟨w.heap.size, k, none⟩ = some (.int .i64 0) := by
        have := hown.1.cellAt k (by omega)
        rw [this, intsOf_get _ _ _ hlt, if_neg (Nat.lt_irrefl k)]
      have hfo : wr.frozen? ⟨w.heap.size, k, none⟩ = false := hown.1.frozenAt k
      have R : OwnI (wr.setCell ⟨w.heap.size, k, none⟩ (.int .i64 (f k))) w.heap.size w1.heap.size (.slice (some ⟨w.heap.size, 0, none⟩) n n) n (fun i => if i < k + 1 then f i else 0) :=
        hown.store k (f k) hlt (fun i _ => by by_cases e : i = k <;> simp [e] <;> by_cases e' : i < k <;> simp [e'] <;> omega)
      have R2 : Below w.heap.size w (wr.setCell ⟨w.heap.size, k, none⟩ (.int .i64 (f k))) := hb.setCell (Nat.le_refl _) _
      clear hown hb hc hcell
      go_wp2
      go_roundw
      case rel => exact ⟨k + 1, by omega, by go_num, R, R2, by simpa using hz⟩
      case measure => simp [intOf]; omega
    · have hkn : k = n := by omega
      subst hkn
      go_wp2
      go_ret
      exact ⟨_, rfl, (hown.congr (fun i hi => by simp [hi])).mono (by omega), hb⟩
set_option maxHeartbeats 400000 in
theorem eqInt64S_same (v1 v2 : Value) (n : Nat) (f : Nat → Int) (h1 h2 : Nat) (w : World) (r1 : RdI w h1 v1 n f) (r2 : RdI w h2 v2 n f) :
    Calls Tryz.prog 27 #[v1, v2] w fun e w' => e = .returned (.bool true) ∧ Below w.heap.size w w' := by
  obtain ⟨ao, cap, rfl, hm, hc⟩ := r1
  obtain ⟨ao2, cap2, rfl, _, hc2⟩ := r2
  unfold maxLen at hm
  go_enter Tryz.func27, Tryz.ntmps27
  go_wp2
  go_loopw [5] (fun i wr => ∃ k : Nat, k ≤ n ∧ i = .int .i64 k ∧ ∃ m, wr = w.drewN m) (fun i _ => n - (intOf i).toNat)
  case atStart => exact ⟨0, Nat.zero_le _, rfl, 0, rfl⟩
  case round =>
    obtain ⟨k, hk, rfl, m, rfl⟩ := hrel
    by_cases hlt : k < n
    · obtain ⟨b, off, rfl, hblt, hcell⟩ := hc (by omega)
      obtain ⟨b2, off2, rfl, hblt2, hcell2⟩ := hc2 (by omega)
      have hck : w.cell? ⟨b, off + k, none⟩ = some (.int .i64 (f k)) := hcell k hlt
      have hck2 : w.cell? ⟨b2, off2 + k, none⟩ = some (.int .i64 (f k)) := hcell2 k hlt
      clear hc hc2 hcell hcell2
      go_wp2
      go_quiet (fail)
      go_wp2
      go_roundw
      case rel => exact ⟨k + 1, by omega, by go_num, _, rfl⟩
      case measure => simp [intOf]; omega
    · have hkn : k = n := by omega
      subst hkn
      go_wp2
      go_ret
      exact ⟨rfl, below_drewN (Below.refl _ _) _⟩
end Go.Proofs.YtkijpgfmjogagaaGreat
namespace Go.Proofs.YtkijpgfmjogagaaGreat
open Go.RowKit F256
def ToS {α : Type} (A : Lay α) (sz : α → Nat) (fn : Nat) : Prop := ∀ (v : Value) (d : α) (hi : Nat) (w : World), A.rd w hi d [v] → hi ≤ w.heap.size → sz d ≤ 1048576 →
  Calls Tryz.prog fn #[v] w fun e w' => ∃ v', e = .returned v' ∧ OwnT A w' w.heap.size w'.heap.size d [v'] ∧ Below w.heap.size w w'
def ToV {α : Type} (A : Lay α) (sz : α → Nat) (fn : Nat) : Prop := ∀ (cs : List Value) (d : α) (hi : Nat) (w : World), A.rd w hi d cs → hi ≤ w.heap.size → sz d ≤ 1048576 →
  Calls Tryz.prog fn #[.agg cs.toArray] w fun e w' => ∃ cs', e = .returned (.agg cs'.toArray) ∧ OwnT A w' w.heap.size w'.heap.size d cs' ∧ Below w.heap.size w w'
def EqS {α : Type} (A : Lay α) (fn : Nat) : Prop := ∀ (v1 v2 : Value) (d : α) (h1 h2 : Nat) (w : World), A.rd w h1 d [v1] → A.rd w h2 d [v2] → h1 ≤ w.heap.size → h2 ≤ w.heap.size →
  Calls Tryz.prog fn #[v1, v2] w fun e w' => e = .returned (.bool true) ∧ Below w.heap.size w w'
def EqV {α : Type} (A : Lay α) (fn : Nat) : Prop := ∀ (c1 c2 : List Value) (d : α) (h1 h2 : Nat) (w : World), A.rd w h1 d c1 → A.rd w h2 d c2 → h1 ≤ w.heap.size → h2 ≤ w.heap.size →
  Calls Tryz.prog fn #[.agg c1.toArray, .agg c2.toArray] w fun e w' => e = .returned (.bool true) ∧ Below w.heap.size w w'
def SzP (n L : Nat) (x : Int) : Prop := x = -1 ∨ (n ≤ L ∧ x = (L : Int) - (n : Int))
def SzS {α : Type} (A : Lay α) (sz : α → Nat) (fn : Nat) : Prop := ∀ (v : Value) (d : α) (hi L : Nat) (w : World), A.rd w hi d [v] → hi ≤ w.heap.size → L ≤ 1048576 →
  Calls Tryz.prog fn #[v, .int .i64 L] w fun e w' => ∃ x, e = .returned (.int .i64 x) ∧ SzP (sz d) L x ∧ Below w.heap.size w w'
def SzV {α : Type} (A : Lay α) (sz : α → Nat) (fn : Nat) : Prop := ∀ (cs : List Value) (d : α) (hi L : Nat) (w : World), A.rd w hi d cs → hi ≤ w.heap.size → L ≤ 1048576 →
  Calls Tryz.prog fn #[.agg cs.toArray, .int .i64 L] w fun e w' => ∃ x, e = .returned (.int .i64 x) ∧ SzP (sz d) L x ∧ Below w.heap.size w w'
def szSl {α : Type} (s : α → Nat) (p : Nat × (Nat → α)) : Nat := p.1 + sumN (fun i => s (p.2 i)) p.1
def lenD {α : Type} (p : Nat × (Nat → α)) : Nat := p.1
theorem sumN_succ (f : Nat → Nat) (k : Nat) : sumN f (k + 1) = sumN f k + f k := rfl
theorem sumN_le (f : Nat → Nat) {i n : Nat} (h : i < n) : f i ≤ sumN f n := by
  have := sumN_mono f (show i + 1 ≤ n from h)
  rw [sumN_succ] at this
  omega
theorem szSl_n {α : Type} {s : α → Nat} {p : Nat × (Nat → α)} {B : Nat} (h : szSl s p ≤ B) : p.1 ≤ B := by unfold szSl at h; omega
theorem szSl_at {α : Type} {s : α → Nat} {p : Nat × (Nat → α)} {B : Nat} (h : szSl s p ≤ B) {i : Nat} (hi : i < p.1) : s (p.2 i) ≤ B := by
  unfold szSl at h
  have := sumN_le (fun i => s (p.2 i)) hi
  omega
theorem toBytes_is : ToS layBytes lenD 128 := fun v d hi w h hhi hn => by
  obtain ⟨v', e1, h1, h2⟩ := h
  cases e1
  refine (toByteS_any v d.1 d.2 hi w h1 hhi (by unfold lenD at hn; omega)).mono ?_
  rintro e w' ⟨v', rfl, o, b⟩
  refine ⟨v', rfl, ⟨v'.ownBlock.toList, ⟨v', rfl, rfl, o.weaken (Nat.zero_le _) (Nat.le_refl _), h2⟩, by cases v'.ownBlock <;> simp, fun b hb => o.1.lt b (by simpa using hb)⟩, b⟩
theorem eqBytes_is : EqS layBytes 136 := fun v1 v2 d h1 h2 w r1 r2 _ _ => by
  obtain ⟨_, e1, k1, _⟩ := r1
  obtain ⟨_, e2, k2, _⟩ := r2
  cases e1
  cases e2
  exact eqByteS_same v1 v2 d.1 d.2 h1 h2 w k1 k2
theorem toInts_is : ToS layInts lenD 23 := fun v d hi w h hhi hn => by
  obtain ⟨v', e1, h1, h2⟩ := h
  cases e1
  refine (toInt64S_any v d.1 d.2 hi w h1.1 hhi (by unfold lenD at hn; omega)).mono ?_
  rintro e w' ⟨v', rfl, o, b⟩
  refine ⟨v', rfl, ⟨v'.ownBlock.toList, ⟨v', rfl, rfl, o.weaken (Nat.zero_le _) (Nat.le_refl _), h2⟩, by cases v'.ownBlock <;> simp, fun b hb => o.1.lt b (by simpa using hb)⟩, b⟩
theorem eqInts_is : EqS layInts 27 := fun v1 v2 d h1 h2 w r1 r2 _ _ => by
  obtain ⟨_, e1, k1, _⟩ := r1
  obtain ⟨_, e2, k2, _⟩ := r2
  cases e1
  cases e2
  exact eqInt64S_same v1 v2 d.1 d.2 h1 h2 w k1.1 k2.1
theorem szBytes_is : SzS layBytes lenD 126 := fun v d hi L w h hhi hL => by
  obtain ⟨v', e1, o, k⟩ := h
  cases e1
  unfold lenD
  obtain ⟨n, f⟩ := d
  obtain ⟨ao, cap, rfl, hm, hc⟩ := o
  simp only at hm hc ⊢
  unfold maxLen at hm
  clear hc k hhi
  by_cases c : n ≤ L
  · have c' : ¬ (L : Int) - (n : Int) < 0 := by omega
    go_enter Tryz.func126, Tryz.ntmps126
    go_wp2
    go_ret
    exact ⟨_, rfl, .inr ⟨c, rfl⟩, Below.refl _ _⟩
  · have c' : (L : Int) - (n : Int) < 0 := by omega
    go_enter Tryz.func126, Tryz.ntmps126
    go_wp2
    go_ret
    exact ⟨_, rfl, .inl rfl, Below.refl _ _⟩
theorem szInts_is : SzS layInts lenD 17 := fun v d hi L w h hhi hL => by
  obtain ⟨v', e1, o, k⟩ := h
  cases e1
  unfold lenD
  obtain ⟨n, f⟩ := d
  obtain ⟨ao, cap, rfl, hm, hc⟩ := o.1
  simp only at hm hc ⊢
  unfold maxLen at hm
  clear hc k hhi
  by_cases c : n ≤ L
  · have c' : ¬ (L : Int) - (n : Int) < 0 := by omega
    go_enter Tryz.func17, Tryz.ntmps17
    go_wp2
    go_ret
    exact ⟨_, rfl, .inr ⟨c, rfl⟩, Below.refl _ _⟩
  · have c' : (L : Int) - (n : Int) < 0 := by omega
    go_enter Tryz.func17, Tryz.ntmps17
    go_wp2
    go_ret
    exact ⟨_, rfl, .inl rfl, Below.refl _ _⟩
end Go.Proofs.YtkijpgfmjogagaaGreat
namespace Go.Proofs.YtkijpgfmjogagaaGreat
open Go.RowKit F256
theorem bytes_form {w : World} {hi : Nat} {p : Nat × (Nat → Nat)} {c : List Value} (h : layBytes.rd w hi p c) : ∃ ao cap, c = [.slice ao p.1 cap] := by
  obtain ⟨v, rfl, ⟨ao, cap, rfl, _⟩, _⟩ := h
  exact ⟨ao, cap, rfl⟩
theorem ints_form {w : World} {hi : Nat} {p : Nat × (Nat → Int)} {c : List Value} (h : layInts.rd w hi p c) : ∃ ao cap, c = [.slice ao p.1 cap] := by
  obtain ⟨v, rfl, ⟨⟨ao, cap, rfl, _⟩, _⟩, _⟩ := h
  exact ⟨ao, cap, rfl⟩
theorem sl_form {α : Type} {E : Lay α} {t : TypeId} {w : World} {hi : Nat} {p : Nat × (Nat → α)} {c : List Value} (h : (E.slice t).rd w hi p c) : ∃ ao cap, c = [.slice ao p.1 cap] := by
  obtain ⟨ao, cap, rfl, _⟩ := h
  exact ⟨ao, cap, rfl⟩
theorem bytes_formO {w : World} {p : Nat × (Nat → Nat)} {c : List Value} {L : List Nat} (h : layBytes.own w p c L) : ∃ ao cap, c = [.slice ao p.1 cap] := bytes_form (layBytes.own_rd (hi := w.heap.size) h (layBytes.own_lt h))
theorem ints_formO {w : World} {p : Nat × (Nat → Int)} {c : List Value} {L : List Nat} (h : layInts.own w p c L) : ∃ ao cap, c = [.slice ao p.1 cap] := ints_form (layInts.own_rd (hi := w.heap.size) h (layInts.own_lt h))
theorem sl_formO {α : Type} {E : Lay α} {t : TypeId} {w : World} {p : Nat × (Nat → α)} {c : List Value} {L : List Nat} (h : (E.slice t).own w p c L) : ∃ ao cap, c = [.slice ao p.1 cap] := sl_form ((E.slice t).own_rd (hi := w.heap.size) h ((E.slice t).own_lt h))
theorem bytes_formT {w : World} {lo hi : Nat} {p : Nat × (Nat → Nat)} {c : List Value} (h : OwnT layBytes w lo hi p c) : ∃ ao cap, c = [.slice ao p.1 cap] := bytes_form h.rd
theorem ints_formT {w : World} {lo hi : Nat} {p : Nat × (Nat → Int)} {c : List Value} (h : OwnT layInts w lo hi p c) : ∃ ao cap, c = [.slice ao p.1 cap] := ints_form h.rd
theorem sl_formT {α : Type} {E : Lay α} {t : TypeId} {w : World} {lo hi : Nat} {p : Nat × (Nat → α)} {c : List Value} (h : OwnT (E.slice t) w lo hi p c) : ∃ ao cap, c = [.slice ao p.1 cap] := sl_form h.rd
theorem one_eq {v : Value} {u : Value} (h : [v] = [u]) : v = u := by simpa using h
theorem OwnT.two {α β : Type} {A : Lay α} {B : Lay β} {w : World} {l1 e1 l2 e2 : Nat} {a : α} {b : β} {c d : List Value} (h1 : OwnT A w l1 e1 a c) (h2 : OwnT B w l2 e2 b d) (h : e1 ≤ l2) (h3 : l1 ≤ l2) (h4 : e1 ≤ e2) : OwnT (A.two B) w l1 e2 (a, b) (c ++ d) := by
  obtain ⟨K, a1, a2, a3⟩ := h1
  obtain ⟨M, b1, b2, b3⟩ := h2
  refine ⟨K ++ M, ⟨c, d, K, M, rfl, rfl, a1, b1⟩, List.nodup_append.2 ⟨a2, b2, fun x hx y hy hh => ?_⟩, fun x hx => ?_⟩
  · subst hh
    have := a3 x hx
    have := b3 x hy
    omega
  · rcases List.mem_append.1 hx with h | h
    · have := a3 x h; omega
    · have := b3 x h; omega
theorem OwnT.pre {α β : Type} {A : Lay α} {B : Lay β} {w : World} {l e : Nat} {a : α} {b : β} {c d : List Value} (h1 : A.own w a c []) (h2 : OwnT B w l e b d) : OwnT (A.two B) w l e (a, b) (c ++ d) := by
  obtain ⟨M, b1, b2, b3⟩ := h2
  exact ⟨M, ⟨c, d, [], M, rfl, rfl, h1, b1⟩, b2, b3⟩
theorem OwnT.nil {α : Type} {A : Lay α} {w : World} {a : α} {c : List Value} (h : A.own w a c []) (l e : Nat) : OwnT A w l e a c := ⟨[], h, List.nodup_nil, fun b hb => by cases hb⟩
theorem OwnT.set {α : Type} {A : Lay α} {w : World} {lo hi b j : Nat} {u : Value} {a : α} {cs : List Value} (h : OwnT A w lo hi a cs) (hb : b < lo) : OwnT A (w.setCell ⟨b, j, none⟩ u) lo hi a cs :=
  h.chg (out_store w b (b + 1) b j u (Nat.le_refl _) (Nat.lt_succ_self _)).chg (.inr hb)
theorem OwnT.call {α : Type} {A : Lay α} {w w' : World} {lo hi : Nat} {a : α} {cs : List Value} (h : OwnT A w lo hi a cs) (hb : Below w.heap.size w w') : OwnT A w' lo hi a cs := by
  obtain ⟨L, h1, h2, h3⟩ := h
  exact ⟨L, A.own_kept h1 (fun b hb' => hb.block b (A.own_lt h1 b hb')), h2, h3⟩
theorem OwnT.conv {α β : Type} {A : Lay α} {to : β → α} {w : World} {lo hi : Nat} {b : β} {cs : List Value} (h : OwnT A w lo hi (to b) cs) : OwnT (A.as to) w lo hi b cs := h
theorem OwnT.stN {α : Type} {A : Lay α} {w : World} {lo hi : Nat} {a : α} {cs : List Value} (h : OwnT A w lo hi a cs) (b off : Nat) (l : List Value) (hb : b < lo) : OwnT A (stN w b off l) lo hi a cs := by
  obtain ⟨L, h1, h2, h3⟩ := h
  exact ⟨L, A.own_kept h1 (fun k hk => stN_heap b k (by have := h3 k hk; omega) l w off), h2, h3⟩
theorem OwnT.fin {α : Type} {A : Lay α} {w : World} {s : Nat} {a : α} {cs : List Value} (h : OwnT A w (s + 1 + 1 + 1) w.heap.size a cs) (o1 o2 : Nat) (l1 l2 : List Value) (w' : World) (e : w' = Go.Proofs.YtkijpgfmjogagaaGreat.stN (Go.Proofs.YtkijpgfmjogagaaGreat.stN w (s + 1 + 1) o1 l1) (s + 1) o2 l2) : OwnT A w' s w'.heap.size a cs := by
  subst e
  exact ((h.stN (s + 1 + 1) o1 l1 (by omega)).stN (s + 1) o2 l2 (by omega)).weaken (by omega) (by rw [stN_size, stN_size]; exact Nat.le_refl _)
theorem below_fin {w0 w : World} {s : Nat} (h : Below s w0 w) (o1 o2 : Nat) (l1 l2 : List Value) (w' : World) (e : w' = Go.Proofs.YtkijpgfmjogagaaGreat.stN (Go.Proofs.YtkijpgfmjogagaaGreat.stN w (s + 1 + 1) o1 l1) (s + 1) o2 l2) : Below s w0 w' := by
  subst e
  exact (h.trans (stN_below (by omega) _ _)).trans (stN_below (by omega) _ _)
theorem below_set {B b j : Nat} {a w : World} {u : Value} (h : Below B a w) (hb : B ≤ b) : Below B a (w.setCell ⟨b, j, none⟩ u) := h.setCell hb _
theorem Box.setc {w : World} {b : Nat} {cs : Array Value} {t : TypeId} (h : Box w b cs t) (j : Nat) (u : Value) : Box (w.setCell ⟨b, j, none⟩ u) b (cs.setIfInBounds j u) t := by
  unfold Box at h ⊢
  have hlt := (Array.getElem?_eq_some_iff.1 h).1
  have he := (Array.getElem?_eq_some_iff.1 h).2
  simp [World.setCell, hlt, Array.getElem_modify, he]
theorem Box.stL : ∀ (l : List Value) {w : World} {b : Nat} {cs : Array Value} {t : TypeId} (off : Nat), Box w b cs t → Box (Go.Proofs.YtkijpgfmjogagaaGreat.stN w b off l) b (setL cs.toList off l).toArray t
  | [], w, b, cs, t, off, h => by simpa [Go.Proofs.YtkijpgfmjogagaaGreat.stN, setL] using h
  | c :: l, w, b, cs, t, off, h => by
    have h1 := Box.stL l (off + 1) (h.setc off c)
    rw [Array.toList_setIfInBounds] at h1
    exact h1
theorem Box.call {w w' : World} {b : Nat} {cs : Array Value} {t : TypeId} (h : Box w b cs t) (hb : Below w.heap.size w w') : Box w' b cs t := h.below hb h.lt
structure One (w wc : World) (c1 : Array Value) (t1 : TypeId) : Prop where
  b1 : Box wc w.heap.size c1 t1
  bel : Below w.heap.size w wc
theorem one_new (w : World) (c1 : Array Value) (t1 : TypeId) : One w (w.alloc (.cells c1 t1)) c1 t1 := ⟨box_new _ _ _, (Below.refl _ _).alloc (Nat.le_refl _) _⟩
theorem One.call {w wc w' : World} {c1 : Array Value} {t1 : TypeId} (h : One w wc c1 t1) (hb : Below wc.heap.size wc w') : One w w' c1 t1 := ⟨h.b1.call hb, h.bel.trans (hb.mono h.bel.size)⟩
structure Two (w wc : World) (c1 c2 : Array Value) (t1 t2 : TypeId) : Prop where
  b1 : Box wc w.heap.size c1 t1
  b2 : Box wc (w.heap.size + 1) c2 t2
  bel : Below w.heap.size w wc
theorem two_newb (w : World) (c1 c2 : Array Value) (t1 t2 : TypeId) : Two w ((w.alloc (.cells c1 t1)).alloc (.cells c2 t2)) c1 c2 t1 t2 := by
  have h := box_new (w.alloc (.cells c1 t1)) c2 t2
  have e : (w.alloc (.cells c1 t1)).heap.size = w.heap.size + 1 := by simp
  rw [e] at h
  exact ⟨((box_new w c1 t1).below (B := w.heap.size + 1) ((Below.refl _ _).alloc (by simp) _) (by omega)), h, ((Below.refl _ _).alloc (Nat.le_refl _) _).alloc (by simp) _⟩
theorem Two.call {w wc w' : World} {c1 c2 : Array Value} {t1 t2 : TypeId} (h : Two w wc c1 c2 t1 t2) (hb : Below wc.heap.size wc w') : Two w w' c1 c2 t1 t2 := ⟨h.b1.call hb, h.b2.call hb, h.bel.trans (hb.mono h.bel.size)⟩
structure Three (w wc : World) (c1 c2 c3 : Array Value) (t1 t2 t3 : TypeId) : Prop where
  b1 : Box wc w.heap.size c1 t1
  b2 : Box wc (w.heap.size + 1) c2 t2
  b3 : Box wc (w.heap.size + 1 + 1) c3 t3
  bel : Below w.heap.size w wc
theorem three_newb (w : World) (c1 c2 c3 : Array Value) (t1 t2 t3 : TypeId) : Three w (((w.alloc (.cells c1 t1)).alloc (.cells c2 t2)).alloc (.cells c3 t3)) c1 c2 c3 t1 t2 t3 := by
  have e1 : (w.alloc (.cells c1 t1)).heap.size = w.heap.size + 1 := by simp
  have e2 : ((w.alloc (.cells c1 t1)).alloc (.cells c2 t2)).heap.size = w.heap.size + 1 + 1 := by simp
  have k1 := box_new w c1 t1
  have k2 := box_new (w.alloc (.cells c1 t1)) c2 t2
  have k3 := box_new ((w.alloc (.cells c1 t1)).alloc (.cells c2 t2)) c3 t3
  rw [e1] at k2
  rw [e2] at k3
  have a2 : Below (w.heap.size + 1) (w.alloc (.cells c1 t1)) ((w.alloc (.cells c1 t1)).alloc (.cells c2 t2)) := (Below.refl _ _).alloc (by simp) _
  have a3 : Below (w.heap.size + 1 + 1) ((w.alloc (.cells c1 t1)).alloc (.cells c2 t2)) (((w.alloc (.cells c1 t1)).alloc (.cells c2 t2)).alloc (.cells c3 t3)) := (Below.refl _ _).alloc (by simp) _
  exact ⟨(k1.below a2 (by omega)).below a3 (by omega), k2.below a3 (by omega), k3, (((Below.refl _ _).alloc (Nat.le_refl _) _).alloc (by simp) _).alloc (by simp <;> omega) _⟩
section
variable {w wc w' : World} {c1 c2 c3 : Array Value} {t1 t2 t3 : TypeId}
theorem Three.call (h : Three w wc c1 c2 c3 t1 t2 t3) (hb : Below wc.heap.size wc w') : Three w w' c1 c2 c3 t1 t2 t3 := ⟨h.b1.call hb, h.b2.call hb, h.b3.call hb, h.bel.trans (hb.mono h.bel.size)⟩
theorem Three.st3 (h : Three w wc c1 c2 c3 t1 t2 t3) (off : Nat) (l : List Value) {c3' : List Value} (e : setL c3.toList off l = c3') : Three w (Go.Proofs.YtkijpgfmjogagaaGreat.stN wc (w.heap.size + 1 + 1) off l) c1 c2 c3'.toArray t1 t2 t3 := by
  subst e
  refine ⟨?_, ?_, h.b3.stL l off, h.bel.trans (stN_below (by omega) _ _)⟩
  · exact (stN_heap _ _ (by omega) l wc off).trans h.b1
  · exact (stN_heap _ _ (by omega) l wc off).trans h.b2
theorem Three.lt (h : Three w wc c1 c2 c3 t1 t2 t3) : w.heap.size + 1 + 1 + 1 ≤ wc.heap.size := h.b3.lt
end
def SlK {α : Type} (E : Lay α) (t : TypeId) (w : World) (g cap n : Nat) (x : Nat → α) (ce : Nat → List Value) (Ls : Nat → List Nat) (k : Nat) (a : α) (cs : List Value) : Prop := SlO E t w g cap n (upd x k a) (upd ce k cs) Ls
theorem upd_self {β : Type} (f : Nat → β) (i : Nat) : upd f i (f i) = f := by
  funext k
  by_cases c : k = i
  · subst c; rw [upd_at]
  · rw [upd_ne f _ c]
theorem upd_upd {β : Type} (f : Nat → β) (i : Nat) (a b : β) : upd (upd f i a) i b = upd f i b := by
  funext k
  by_cases c : k = i
  · subst c; rw [upd_at, upd_at]
  · rw [upd_ne _ _ c, upd_ne _ _ c, upd_ne _ _ c]
section
variable {α : Type} {E : Lay α} {t : TypeId} {w w' : World} {g cap n : Nat} {x : Nat → α} {ce : Nat → List Value} {Ls : Nat → List Nat} {k : Nat} {a a' : α} {cs : List Value}
theorem SlK.cell (h : SlK E t w g cap n x ce Ls k a cs) (hk : k < n) {j : Nat} (hj : j < E.sz) : w.cell? ⟨g, k * E.sz + j, none⟩ = cs[j]? := by
  have := SlO.cell h hk hj
  rw [upd_at] at this
  exact this
theorem SlK.frozen (h : SlK E t w g cap n x ce Ls k a cs) (j : Nat) : w.frozen? ⟨g, j, none⟩ = false := SlO.frozen h j
theorem SlK.own (h : SlK E t w g cap n x ce Ls k a cs) (hk : k < n) : E.own w a cs (Ls k) := by
  have := SlO.each h k hk
  rw [upd_at, upd_at] at this
  exact this
theorem SlK.store (h : SlK E t w g cap n x ce Ls k a cs) (nd : (g :: catN n Ls).Nodup) (hk : k < n) {j : Nat} (hj : j < E.sz) (u : Value) (ha : E.own w a' (cs.set j u) (Ls k)) :
    SlK E t (w.setCell ⟨g, k * E.sz + j, none⟩ u) g cap n x ce Ls k a' (cs.set j u) := by
  have := SlO.store (a' := a') h nd hk hj u (by rw [upd_at]; exact ha)
  rw [upd_at, upd_upd, upd_upd] at this
  exact this
theorem SlK.into (h : SlK E t w g cap n x ce Ls k a cs) (nd : (g :: catN n Ls).Nodup) (hk : k < n) (hc : ChgL (Ls k) w w') (ha : E.own w' a' cs (Ls k)) : SlK E t w' g cap n x ce Ls k a' cs := by
  have := SlO.into (a' := a') h nd hk hc (by rw [upd_at]; exact ha)
  rw [upd_upd] at this
  exact this
theorem SlO.congr {y : Nat → α} (h : SlO E t w g cap n x ce Ls) (hx : ∀ i, i < n → x i = y i) : SlO E t w g cap n y ce Ls := ⟨h.row, fun i hi => by rw [← hx i hi]; exact h.each i hi⟩
end
theorem SlP.some {α : Type} {E : Lay α} {t : TypeId} {w w' : World} {lo g cap n k : Nat} {x : Nat → α} {ce : Nat → List Value} {Ls : Nat → List Nat} (h : SlP E t w lo g cap n k x ce Ls) (hb : Below w.heap.size w w') {i j : Nat} (hi : i < n) (hj : j < E.sz) : ∃ u, w'.cell? ⟨g, i * E.sz + j, none⟩ = some u := by
  have h' := h.below hb
  rw [h'.cell hi hj]
  exact ⟨_, List.getElem?_eq_getElem (by rw [h'.lens i hi]; exact hj)⟩
theorem SlP.next {α : Type} {E : Lay α} {t : TypeId} {w1 w : World} {lo g cap n k : Nat} {x : Nat → α} {ce : Nat → List Value} {Ls : Nat → List Nat} (h1 : SlP E t w1 lo g cap n k x ce Ls) (hb : Below w1.heap.size w1 w) (hk : k < n) {cs : List Value} (ha : OwnT E w w1.heap.size w.heap.size (x k) cs) (hlo : lo ≤ w1.heap.size) :
    ∃ ce' Ls', SlP E t (stN w g (k * E.sz) cs) lo g cap n (k + 1) x ce' Ls' := by
  obtain ⟨K, a1, a2, a3⟩ := ha
  have := h1.lay hb hk a1 a2 (fun b hb => (a3 b hb).1) hlo
  rw [upd_self] at this
  exact ⟨_, _, this⟩
theorem elem_rd {α : Type} {E : Lay α} {t : TypeId} {w wr : World} {hi n : Nat} {x : Nat → α} {b off : Nat} (hel : ∀ i, i < n → ∃ ce, E.rd w hi (x i) ce ∧ ∀ j, j < E.sz → w.cell? ⟨b, off + (i * E.sz + j), none⟩ = ce[j]?) (hb : Below w.heap.size w wr) (hhi : hi ≤ w.heap.size) (hbh : b < hi) {k : Nat} (hk : k < n) :
    ∃ ce, E.rd wr hi (x k) ce ∧ ∀ j, j < E.sz → wr.cell? ⟨b, off + (k * E.sz + j), none⟩ = ce[j]? := by
  obtain ⟨ce, h1, h2⟩ := hel k hk
  exact ⟨ce, E.rd_below h1 hb hhi, fun j hj => (hb.cell (p := ⟨b, off + (k * E.sz + j), none⟩) (by show b < w.heap.size; omega)).trans (h2 j hj)⟩
theorem SlO.mem_lt {α : Type} {E : Lay α} {t : TypeId} {w : World} {g cap n : Nat} {x : Nat → α} {ce : Nat → List Value} {Ls : Nat → List Nat} (h : SlO E t w g cap n x ce Ls) : ∀ b, b ∈ g :: catN n Ls → b < w.heap.size := fun b hb => by
  rcases List.mem_cons.1 hb with rfl | hb
  · exact h.lt
  · obtain ⟨i, hi, hbi⟩ := mem_catN.1 hb
    exact E.own_lt (h.each i hi) b hbi
end Go.Proofs.YtkijpgfmjogagaaGreat
namespace Go.Proofs.YtkijpgfmjogagaaGreat
open Go.RowKit F256
end Go.Proofs.YtkijpgfmjogagaaGreat
namespace Go.Proofs.YtkijpgfmjogagaaGreat
open Go.RowKit F256
theorem Block_rd {w : World} {hi : Nat} {d : BlockD} {cs : List Value} (h : layBlock.rd w hi d cs) : ∃ ao1 cap1, cs = [.int .i64 d.stamp, .slice ao1 d.bytes.1 cap1] ∧ layBytes.rd w hi d.bytes [.slice ao1 d.bytes.1 cap1] ∧ (-9223372036854775808 ≤ d.stamp ∧ d.stamp ≤ 9223372036854775807) := by
  obtain ⟨c0, r0, rfl, h0, h1⟩ := h
  obtain ⟨rfl, k0⟩ := h0
  obtain ⟨ao1, cap1, rfl⟩ := bytes_form h1
  exact ⟨ao1, cap1, rfl, h1, k0⟩
theorem Block_own {w : World} {d : BlockD} {cs : List Value} {L : List Nat} (h : layBlock.own w d cs L) : ∃ ao1 cap1 K1, cs = [.int .i64 d.stamp, .slice ao1 d.bytes.1 cap1] ∧ L = K1 ∧ layBytes.own w d.bytes [.slice ao1 d.bytes.1 cap1] K1 ∧ (-9223372036854775808 ≤ d.stamp ∧ d.stamp ≤ 9223372036854775807) := by
  obtain ⟨c0, r0, L0, M0, rfl, rfl, h0, h1⟩ := h
  obtain ⟨rfl, k0, rfl⟩ := h0
  obtain ⟨ao1, cap1, rfl⟩ := bytes_formO h1
  exact ⟨ao1, cap1, _, rfl, rfl, h1, k0⟩
theorem Block_cellsO {w : World} {d : BlockD} {cs : List Value} {L : List Nat} (h : layBlock.own w d cs L) : ∃ ao1 cap1, cs = [.int .i64 d.stamp, .slice ao1 d.bytes.1 cap1] := by
  obtain ⟨ao1, cap1, K1, rfl, -⟩ := Block_own h
  exact ⟨ao1, cap1, rfl⟩
theorem Block_cells {w : World} {lo hi : Nat} {d : BlockD} {cs : List Value} (h : OwnT layBlock w lo hi d cs) : ∃ ao1 cap1, cs = [.int .i64 d.stamp, .slice ao1 d.bytes.1 cap1] := by
  obtain ⟨L, h1, -⟩ := h
  exact Block_cellsO h1
def szBlockD (d : BlockD) : Nat := lenD d.bytes
theorem Drive_rd {w : World} {hi : Nat} {d : DriveD} {cs : List Value} (h : layDrive.rd w hi d cs) : ∃ ao1 cap1, cs = [.bool d.wiped, .slice ao1 d.blocks.1 cap1] ∧ (layBlock.slice 101).rd w hi d.blocks [.slice ao1 d.blocks.1 cap1] := by
  obtain ⟨c0, r0, rfl, h0, h1⟩ := h
  obtain ⟨rfl, k0⟩ := h0
  obtain ⟨ao1, cap1, rfl⟩ := sl_form h1
  exact ⟨ao1, cap1, rfl, h1⟩
theorem Drive_own {w : World} {d : DriveD} {cs : List Value} {L : List Nat} (h : layDrive.own w d cs L) : ∃ ao1 cap1 K1, cs = [.bool d.wiped, .slice ao1 d.blocks.1 cap1] ∧ L = K1 ∧ (layBlock.slice 101).own w d.blocks [.slice ao1 d.blocks.1 cap1] K1 := by
  obtain ⟨c0, r0, L0, M0, rfl, rfl, h0, h1⟩ := h
  obtain ⟨rfl, k0, rfl⟩ := h0
  obtain ⟨ao1, cap1, rfl⟩ := sl_formO h1
  exact ⟨ao1, cap1, _, rfl, rfl, h1⟩
theorem Drive_cellsO {w : World} {d : DriveD} {cs : List Value} {L : List Nat} (h : layDrive.own w d cs L) : ∃ ao1 cap1, cs = [.bool d.wiped, .slice ao1 d.blocks.1 cap1] := by
  obtain ⟨ao1, cap1, K1, rfl, -⟩ := Drive_own h
  exact ⟨ao1, cap1, rfl⟩
theorem Drive_cells {w : World} {lo hi : Nat} {d : DriveD} {cs : List Value} (h : OwnT layDrive w lo hi d cs) : ∃ ao1 cap1, cs = [.bool d.wiped, .slice ao1 d.blocks.1 cap1] := by
  obtain ⟨L, h1, -⟩ := h
  exact Drive_cellsO h1
def szDriveD (d : DriveD) : Nat := (szSl szBlockD) d.blocks
theorem Rec_rd {w : World} {hi : Nat} {d : RecD} {cs : List Value} (h : layRec.rd w hi d cs) : ∃ ao6 cap6 ao7 cap7 ao8 cap8, cs = [.int .i64 d.kind, .int .i64 d.seq, .string d.name, .int .i64 d.length, .int .i64 d.group, .int .i64 d.row, .slice ao6 d.rows.1 cap6, .slice ao7 d.data.1 cap7, .slice ao8 d.delta.1 cap8] ∧ layInts.rd w hi d.rows [.slice ao6 d.rows.1 cap6] ∧ layBytes.rd w hi d.data [.slice ao7 d.data.1 cap7] ∧ layBytes.rd w hi d.delta [.slice ao8 d.delta.1 cap8] ∧ (-9223372036854775808 ≤ d.kind ∧ d.kind ≤ 9223372036854775807) ∧ (-9223372036854775808 ≤ d.seq ∧ d.seq ≤ 9223372036854775807) ∧ d.name.size ≤ maxLen ∧ (-9223372036854775808 ≤ d.length ∧ d.length ≤ 9223372036854775807) ∧ (-9223372036854775808 ≤ d.group ∧ d.group ≤ 9223372036854775807) ∧ (-9223372036854775808 ≤ d.row ∧ d.row ≤ 9223372036854775807) := by
  obtain ⟨c0, r0, rfl, h0, c1, r1, rfl, h1, c2, r2, rfl, h2, c3, r3, rfl, h3, c4, r4, rfl, h4, c5, r5, rfl, h5, c6, r6, rfl, h6, c7, r7, rfl, h7, h8⟩ := h
  obtain ⟨rfl, k0⟩ := h0
  obtain ⟨rfl, k1⟩ := h1
  obtain ⟨rfl, k2⟩ := h2
  obtain ⟨rfl, k3⟩ := h3
  obtain ⟨rfl, k4⟩ := h4
  obtain ⟨rfl, k5⟩ := h5
  obtain ⟨ao6, cap6, rfl⟩ := ints_form h6
  obtain ⟨ao7, cap7, rfl⟩ := bytes_form h7
  obtain ⟨ao8, cap8, rfl⟩ := bytes_form h8
  exact ⟨ao6, cap6, ao7, cap7, ao8, cap8, rfl, h6, h7, h8, k0, k1, k2, k3, k4, k5⟩
theorem Rec_own {w : World} {d : RecD} {cs : List Value} {L : List Nat} (h : layRec.own w d cs L) : ∃ ao6 cap6 ao7 cap7 ao8 cap8 K6 K7 K8, cs = [.int .i64 d.kind, .int .i64 d.seq, .string d.name, .int .i64 d.length, .int .i64 d.group, .int .i64 d.row, .slice ao6 d.rows.1 cap6, .slice ao7 d.data.1 cap7, .slice ao8 d.delta.1 cap8] ∧ L = K6 ++ (K7 ++ K8) ∧ layInts.own w d.rows [.slice ao6 d.rows.1 cap6] K6 ∧ layBytes.own w d.data [.slice ao7 d.data.1 cap7] K7 ∧ layBytes.own w d.delta [.slice ao8 d.delta.1 cap8] K8 ∧ (-9223372036854775808 ≤ d.kind ∧ d.kind ≤ 9223372036854775807) ∧ (-9223372036854775808 ≤ d.seq ∧ d.seq ≤ 9223372036854775807) ∧ d.name.size ≤ maxLen ∧ (-9223372036854775808 ≤ d.length ∧ d.length ≤ 9223372036854775807) ∧ (-9223372036854775808 ≤ d.group ∧ d.group ≤ 9223372036854775807) ∧ (-9223372036854775808 ≤ d.row ∧ d.row ≤ 9223372036854775807) := by
  obtain ⟨c0, r0, L0, M0, rfl, rfl, h0, c1, r1, L1, M1, rfl, rfl, h1, c2, r2, L2, M2, rfl, rfl, h2, c3, r3, L3, M3, rfl, rfl, h3, c4, r4, L4, M4, rfl, rfl, h4, c5, r5, L5, M5, rfl, rfl, h5, c6, r6, L6, M6, rfl, rfl, h6, c7, r7, L7, M7, rfl, rfl, h7, h8⟩ := h
  obtain ⟨rfl, k0, rfl⟩ := h0
  obtain ⟨rfl, k1, rfl⟩ := h1
  obtain ⟨rfl, k2, rfl⟩ := h2
  obtain ⟨rfl, k3, rfl⟩ := h3
  obtain ⟨rfl, k4, rfl⟩ := h4
  obtain ⟨rfl, k5, rfl⟩ := h5
  obtain ⟨ao6, cap6, rfl⟩ := ints_formO h6
  obtain ⟨ao7, cap7, rfl⟩ := bytes_formO h7
  obtain ⟨ao8, cap8, rfl⟩ := bytes_formO h8
  exact ⟨ao6, cap6, ao7, cap7, ao8, cap8, L6, L7, _, rfl, rfl, h6, h7, h8, k0, k1, k2, k3, k4, k5⟩
theorem Rec_cellsO {w : World} {d : RecD} {cs : List Value} {L : List Nat} (h : layRec.own w d cs L) : ∃ ao6 cap6 ao7 cap7 ao8 cap8, cs = [.int .i64 d.kind, .int .i64 d.seq, .string d.name, .int .i64 d.length, .int .i64 d.group, .int .i64 d.row, .slice ao6 d.rows.1 cap6, .slice ao7 d.data.1 cap7, .slice ao8 d.delta.1 cap8] := by
  obtain ⟨ao6, cap6, ao7, cap7, ao8, cap8, K6, K7, K8, rfl, -⟩ := Rec_own h
  exact ⟨ao6, cap6, ao7, cap7, ao8, cap8, rfl⟩
theorem Rec_cells {w : World} {lo hi : Nat} {d : RecD} {cs : List Value} (h : OwnT layRec w lo hi d cs) : ∃ ao6 cap6 ao7 cap7 ao8 cap8, cs = [.int .i64 d.kind, .int .i64 d.seq, .string d.name, .int .i64 d.length, .int .i64 d.group, .int .i64 d.row, .slice ao6 d.rows.1 cap6, .slice ao7 d.data.1 cap7, .slice ao8 d.delta.1 cap8] := by
  obtain ⟨L, h1, -⟩ := h
  exact Rec_cellsO h1
def szRecD (d : RecD) : Nat := d.name.size + lenD d.rows + lenD d.data + lenD d.delta
theorem Tape_rd {w : World} {hi : Nat} {d : TapeD} {cs : List Value} (h : layTape.rd w hi d cs) : ∃ ao1 cap1, cs = [.bool d.wiped, .slice ao1 d.recs.1 cap1] ∧ (layRec.slice 93).rd w hi d.recs [.slice ao1 d.recs.1 cap1] := by
  obtain ⟨c0, r0, rfl, h0, h1⟩ := h
  obtain ⟨rfl, k0⟩ := h0
  obtain ⟨ao1, cap1, rfl⟩ := sl_form h1
  exact ⟨ao1, cap1, rfl, h1⟩
theorem Tape_own {w : World} {d : TapeD} {cs : List Value} {L : List Nat} (h : layTape.own w d cs L) : ∃ ao1 cap1 K1, cs = [.bool d.wiped, .slice ao1 d.recs.1 cap1] ∧ L = K1 ∧ (layRec.slice 93).own w d.recs [.slice ao1 d.recs.1 cap1] K1 := by
  obtain ⟨c0, r0, L0, M0, rfl, rfl, h0, h1⟩ := h
  obtain ⟨rfl, k0, rfl⟩ := h0
  obtain ⟨ao1, cap1, rfl⟩ := sl_formO h1
  exact ⟨ao1, cap1, _, rfl, rfl, h1⟩
theorem Tape_cellsO {w : World} {d : TapeD} {cs : List Value} {L : List Nat} (h : layTape.own w d cs L) : ∃ ao1 cap1, cs = [.bool d.wiped, .slice ao1 d.recs.1 cap1] := by
  obtain ⟨ao1, cap1, K1, rfl, -⟩ := Tape_own h
  exact ⟨ao1, cap1, rfl⟩
theorem Tape_cells {w : World} {lo hi : Nat} {d : TapeD} {cs : List Value} (h : OwnT layTape w lo hi d cs) : ∃ ao1 cap1, cs = [.bool d.wiped, .slice ao1 d.recs.1 cap1] := by
  obtain ⟨L, h1, -⟩ := h
  exact Tape_cellsO h1
def szTapeD (d : TapeD) : Nat := (szSl szRecD) d.recs
theorem World_rd {w : World} {hi : Nat} {d : WorldD} {cs : List Value} (h : layWorld.rd w hi d cs) : ∃ ao1 cap1 ao2 cap2 ao3 cap3, cs = [.int .i64 (d.shape 0), .int .i64 (d.shape 1), .int .i64 (d.shape 2), .int .i64 (d.shape 3), .int .i64 (d.shape 4), .int .i64 (d.shape 5), .int .i64 (d.shape 6), .int .i64 (d.shape 7), .int .i64 (d.shape 8), .slice ao1 d.groups.1 cap1, .slice ao2 d.on.1 cap2, .slice ao3 d.tapes.1 cap3, .int .i64 d.writes, .int .i64 d.stop, .bool d.down] ∧ ((layDrive.slice 76).slice 73).rd w hi d.groups [.slice ao1 d.groups.1 cap1] ∧ layInts.rd w hi d.on [.slice ao2 d.on.1 cap2] ∧ (layTape.slice 80).rd w hi d.tapes [.slice ao3 d.tapes.1 cap3] ∧ (∀ i, -9223372036854775808 ≤ d.shape i ∧ d.shape i ≤ 9223372036854775807) ∧ (-9223372036854775808 ≤ d.writes ∧ d.writes ≤ 9223372036854775807) ∧ (-9223372036854775808 ≤ d.stop ∧ d.stop ≤ 9223372036854775807) := by
  obtain ⟨c0, r0, rfl, h0, c1, r1, rfl, h1, c2, r2, rfl, h2, c3, r3, rfl, h3, c4, r4, rfl, h4, c5, r5, rfl, h5, h6⟩ := h
  obtain ⟨rfl, k0⟩ := h0
  obtain ⟨ao1, cap1, rfl⟩ := sl_form h1
  obtain ⟨ao2, cap2, rfl⟩ := ints_form h2
  obtain ⟨ao3, cap3, rfl⟩ := sl_form h3
  obtain ⟨rfl, k4⟩ := h4
  obtain ⟨rfl, k5⟩ := h5
  obtain ⟨rfl, k6⟩ := h6
  exact ⟨ao1, cap1, ao2, cap2, ao3, cap3, rfl, h1, h2, h3, k0, k4, k5⟩
def szWorldD (d : WorldD) : Nat := (szSl (szSl szDriveD)) d.groups + lenD d.on + (szSl szTapeD) d.tapes
structure WorldResultD where
  code : Int
  world : WorldD
structure BlockResultD where
  code : Int
  block : BlockD
end Go.Proofs.YtkijpgfmjogagaaGreat