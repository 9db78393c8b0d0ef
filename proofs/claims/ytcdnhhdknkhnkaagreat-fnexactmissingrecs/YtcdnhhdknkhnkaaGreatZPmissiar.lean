/- Owned memory changed in place: what is owned turns into something else that is owned, only its own blocks are touched, only new ones come. -/
import Derived.Test.YtcdnhhdknkhnkaaGreatZPmissian
import Derived.Test.YtcdnhhdknkhnkaaGreatZPmissiaq
import Derived.Test.YtcdnhhdknkhnkaaGreatZPmissiah
import Derived.Test.YtcdnhhdknkhnkaaGreatZPmissiai
import Derived.Test.YtcdnhhdknkhnkaaGreatZPmissiam
import Derived.Deep.DeepCutAuto
import Derived.Deep.RegionLaw
set_option linter.unusedVariables false
set_option linter.unusedSimpArgs false
namespace Go.Proofs.YtcdnhhdknkhnkaaGreat
open Go.RowKit F256
structure Turn {α : Type} (A : Lay α) (w : World) (K : List Nat) (w' : World) (a : α) (cs : List Value) (K' : List Nat) : Prop where
  own : A.own w' a cs K'
  nd : K'.Nodup
  sub : ∀ b, b ∈ K' → b ∈ K ∨ (w.heap.size ≤ b ∧ b < w'.heap.size)
  chg : ChgL K w w'
theorem catN_nodup {n : Nat} {F : Nat → List Nat} (h1 : ∀ k, k < n → (F k).Nodup) (h2 : ∀ k j, k < n → j < n → k ≠ j → ∀ b, b ∈ F k → b ∉ F j) : (catN n F).Nodup := by
  induction n with
  | zero => simp [catN]
  | succ n ih =>
    rw [catN_succ]
    refine List.nodup_append.2 ⟨ih (fun k hk => h1 k (by omega)) (fun k j hk hj => h2 k j (by omega) (by omega)), h1 n (by omega), fun b hb c hc hh => ?_⟩
    subst hh
    obtain ⟨k, hk, hbk⟩ := mem_catN.1 hb
    exact h2 k n (by omega) (by omega) (by omega) b hbk hc
theorem catN_each {n : Nat} {F : Nat → List Nat} (h : (catN n F).Nodup) {k : Nat} (hk : k < n) : (F k).Nodup := by
  induction n with
  | zero => omega
  | succ n ih =>
    rw [catN_succ] at h
    obtain ⟨h1, h2, _⟩ := List.nodup_append.1 h
    by_cases c : k = n
    · subst c; exact h2
    · exact ih h1 (by omega)
section
variable {α : Type} {E : Lay α} {t : TypeId} {w w' : World} {g cap n : Nat} {x : Nat → α} {ce : Nat → List Value} {Ls : Nat → List Nat}
theorem cat_swap {i : Nat} (hi : i < n) {K' : List Nat} {N M : Nat} (nd : (g :: catN n Ls).Nodup) (hN : ∀ b, b ∈ g :: catN n Ls → b < N) (hn : K'.Nodup) (hs : ∀ b, b ∈ K' → b ∈ Ls i ∨ (N ≤ b ∧ b < M)) : (g :: catN n (upd Ls i K')).Nodup := by
  obtain ⟨n1, n2⟩ := List.nodup_cons.1 nd
  have ne : ∀ k, k < n → k ≠ i → ∀ b, b ∈ Ls k → b ∉ K' := fun k hk hne b hb hbK => by
    rcases hs b hbK with h | h
    · exact cat_apart n2 hi hk hne hb h
    · have := hN b (List.mem_cons_of_mem _ (mem_catN.2 ⟨k, hk, hb⟩)); omega
  refine List.nodup_cons.2 ⟨fun hg => ?_, catN_nodup (fun k hk => ?_) (fun k j hk hj hne b hb => ?_)⟩
  · obtain ⟨k, hk, hb⟩ := mem_catN.1 hg
    by_cases c : k = i
    · subst c
      rw [upd_at] at hb
      rcases hs g hb with h | h
      · exact n1 (mem_catN.2 ⟨k, hk, h⟩)
      · have := hN g (List.mem_cons_self ..); omega
    · rw [upd_ne Ls K' c] at hb
      exact n1 (mem_catN.2 ⟨k, hk, hb⟩)
  · by_cases c : k = i
    · subst c; rw [upd_at]; exact hn
    · rw [upd_ne Ls K' c]; exact catN_each n2 hk
  · by_cases c : k = i
    · subst c
      rw [upd_at] at hb
      rw [upd_ne Ls K' (fun h => hne h.symm)]
      exact fun hbj => ne j hj (fun h => hne h.symm) b hbj hb
    · rw [upd_ne Ls K' c] at hb
      by_cases c2 : j = i
      · subst c2
        rw [upd_at]
        exact ne k hk c b hb
      · rw [upd_ne Ls K' c2]
        exact cat_apart n2 hj hk hne hb
theorem cat_sub {i : Nat} (hi : i < n) {K' : List Nat} {N M : Nat} (hs : ∀ b, b ∈ K' → b ∈ Ls i ∨ (N ≤ b ∧ b < M)) : ∀ b, b ∈ g :: catN n (upd Ls i K') → b ∈ g :: catN n Ls ∨ (N ≤ b ∧ b < M) := fun b hb => by
  rcases List.mem_cons.1 hb with rfl | hb
  · exact .inl (List.mem_cons_self ..)
  · obtain ⟨k, hk, hb⟩ := mem_catN.1 hb
    by_cases c : k = i
    · subst c
      rw [upd_at] at hb
      rcases hs b hb with h | h
      · exact .inl (List.mem_cons_of_mem _ (mem_catN.2 ⟨k, hk, h⟩))
      · exact .inr h
    · rw [upd_ne Ls K' c] at hb
      exact .inl (List.mem_cons_of_mem _ (mem_catN.2 ⟨k, hk, hb⟩))
theorem SlO.turn_in (h : SlO E t w g cap n x ce Ls) (nd : (g :: catN n Ls).Nodup) {i : Nat} (hi : i < n) {a' : α} {K' : List Nat} (ht : Turn E w (Ls i) w' a' (ce i) K') :
    Turn (E.slice t) w (g :: catN n Ls) w' (n, upd x i a') [.slice (some ⟨g, 0, none⟩) n cap] (g :: catN n (upd Ls i K')) := by
  have hgi : g ∉ Ls i := fun hb => (List.nodup_cons.1 nd).1 (mem_catN.2 ⟨i, hi, hb⟩)
  have hO : SlO E t w' g cap n (upd x i a') ce (upd Ls i K') := by
    refine ⟨⟨h.row.1, ?_⟩, fun k hk => ?_⟩
    · rcases h.row.2 with ⟨hn, _⟩ | ⟨g', cap', cur, he, hbg, hgg, rest⟩
      · cases hn
      · cases he
        exact .inr ⟨g, cap, cur, rfl, hbg, (ht.chg.block g h.lt hgi).trans hgg, rest⟩
    · by_cases c : k = i
      · subst c; rw [upd_at, upd_at]; exact ht.own
      · rw [upd_ne x a' c, upd_ne Ls K' c]
        exact E.own_chgL (h.each k hk) ht.chg (fun b hb => cat_apart (List.nodup_cons.1 nd).2 hi hk c hb)
  exact ⟨hO.own, cat_swap hi nd h.mem_lt ht.nd ht.sub, cat_sub hi ht.sub, ht.chg.mono (SlO.sub i hi)⟩
end
theorem Turn.fresh {α : Type} {A : Lay α} {w w1 : World} {K : List Nat} {a : α} {cs : List Value} {lo : Nat} (h : OwnT A w1 lo w1.heap.size a cs) (hlo : w.heap.size ≤ lo) (hc : ChgL K w w1) : ∃ K', Turn A w K w1 a cs K' := by
  obtain ⟨L, h1, h2, h3⟩ := h
  exact ⟨L, h1, h2, fun b hb => .inr ⟨by have := (h3 b hb).1; omega, (h3 b hb).2⟩, hc⟩
structure WOpen (w : World) (lo hi : Nat) (d : WorldD) (v1 v2 v3 : Value) (K1 K2 K3 : List Nat) : Prop where
  g : ((layDrive.slice 120).slice 96).own w d.groups [v1] K1
  o : layInts.own w d.on [v2] K2
  t : (layTape.slice 88).own w d.tapes [v3] K3
  nd : (K1 ++ (K2 ++ K3)).Nodup
  inn : ∀ b, b ∈ K1 ++ (K2 ++ K3) → lo ≤ b ∧ b < hi
  k0 : ∀ i, -9223372036854775808 ≤ d.shape i ∧ d.shape i ≤ 9223372036854775807
  k4 : -9223372036854775808 ≤ d.writes ∧ d.writes ≤ 9223372036854775807
  k5 : -9223372036854775808 ≤ d.stop ∧ d.stop ≤ 9223372036854775807
theorem WOpen.own {w : World} {lo hi : Nat} {d : WorldD} {p1 p2 p3 : Option Addr} {c1 c2 c3 : Nat} {K1 K2 K3 : List Nat} (h : WOpen w lo hi d (.slice p1 d.groups.1 c1) (.slice p2 d.on.1 c2) (.slice p3 d.tapes.1 c3) K1 K2 K3) : OwnT layWorld w lo hi d [.int .i64 (d.shape 0), .int .i64 (d.shape 1), .int .i64 (d.shape 2), .int .i64 (d.shape 3), .int .i64 (d.shape 4), .int .i64 (d.shape 5), .int .i64 (d.shape 6), .int .i64 (d.shape 7), .int .i64 (d.shape 8), .slice p1 d.groups.1 c1, .slice p2 d.on.1 c2, .slice p3 d.tapes.1 c3, .int .i64 d.writes, .int .i64 d.stop, .bool d.down] :=
  ⟨K1 ++ (K2 ++ (K3 ++ [])), World_mk d h.g h.o h.t h.k0 h.k4 h.k5, by simpa using h.nd, by simpa using h.inn⟩
theorem nodup_mid {A B C B' : List Nat} {N M : Nat} (nd : (A ++ (B ++ C)).Nodup) (hN : ∀ b, b ∈ A ++ (B ++ C) → b < N) (hn : B'.Nodup) (hs : ∀ b, b ∈ B' → b ∈ B ∨ (N ≤ b ∧ b < M)) : (A ++ (B' ++ C)).Nodup := by
  obtain ⟨a1, a2, a3⟩ := List.nodup_append.1 nd
  obtain ⟨b1, b2, b3⟩ := List.nodup_append.1 a2
  refine List.nodup_append.2 ⟨a1, List.nodup_append.2 ⟨hn, b2, fun b hb c hc hh => ?_⟩, fun b hb c hc hh => ?_⟩
  · subst hh
    rcases hs b hb with h | h
    · exact b3 b h b hc rfl
    · have := hN b (List.mem_append_right _ (List.mem_append_right _ hc)); omega
  · subst hh
    rcases List.mem_append.1 hc with hc | hc
    · rcases hs b hc with h | h
      · exact a3 b hb b (List.mem_append_left _ h) rfl
      · have := hN b (List.mem_append_left _ hb); omega
    · exact a3 b hb b (List.mem_append_right _ hc) rfl
section
variable {w w' : World} {lo hi : Nat} {d : WorldD} {v1 v2 v3 : Value} {K1 K2 K3 : List Nat}
theorem WOpen.ap12 (h : WOpen w lo hi d v1 v2 v3 K1 K2 K3) {b : Nat} (hb : b ∈ K1) : b ∉ K2 := fun h2 => (List.nodup_append.1 h.nd).2.2 b hb b (List.mem_append_left _ h2) rfl
theorem WOpen.ap13 (h : WOpen w lo hi d v1 v2 v3 K1 K2 K3) {b : Nat} (hb : b ∈ K1) : b ∉ K3 := fun h2 => (List.nodup_append.1 h.nd).2.2 b hb b (List.mem_append_right _ h2) rfl
theorem WOpen.ap23 (h : WOpen w lo hi d v1 v2 v3 K1 K2 K3) {b : Nat} (hb : b ∈ K2) : b ∉ K3 := fun h2 => (List.nodup_append.1 (List.nodup_append.1 h.nd).2.1).2.2 b hb b h2 rfl
theorem WOpen.on (h : WOpen w lo hi d v1 v2 v3 K1 K2 K3) (hhi : hi ≤ w.heap.size) (hlo : lo ≤ w.heap.size) {o' : Nat × (Nat → Int)} {v' : Value} {K' : List Nat} (ht : Turn layInts w K2 w' o' [v'] K') : WOpen w' lo w'.heap.size { d with on := o' } v1 v' v3 K1 K' K3 := by
  have hN : ∀ b, b ∈ K1 ++ (K2 ++ K3) → b < w.heap.size := fun b hb => by have := (h.inn b hb).2; omega
  refine ⟨Lay.own_chgL _ h.g ht.chg (fun b hb => h.ap12 hb), ht.own, Lay.own_chgL _ h.t ht.chg (fun b hb hb2 => h.ap23 hb2 hb), nodup_mid h.nd hN ht.nd ht.sub, fun b hb => ?_, h.k0, h.k4, h.k5⟩
  have hz := ht.chg.size
  rcases List.mem_append.1 hb with hb | hb
  · have := h.inn b (List.mem_append_left _ hb); omega
  · rcases List.mem_append.1 hb with hb | hb
    · rcases ht.sub b hb with hb | hb
      · have := h.inn b (List.mem_append_right _ (List.mem_append_left _ hb)); omega
      · omega
    · have := h.inn b (List.mem_append_right _ (List.mem_append_right _ hb)); omega
theorem WOpen.tapes (h : WOpen w lo hi d v1 v2 v3 K1 K2 K3) (hhi : hi ≤ w.heap.size) (hlo : lo ≤ w.heap.size) {o' : Nat × (Nat → TapeD)} {v' : Value} {K' : List Nat} (ht : Turn (layTape.slice 88) w K3 w' o' [v'] K') : WOpen w' lo w'.heap.size { d with tapes := o' } v1 v2 v' K1 K2 K' := by
  have hN : ∀ b, b ∈ (K1 ++ K2) ++ (K3 ++ []) → b < w.heap.size := fun b hb => by have := (h.inn b (by simpa using hb)).2; omega
  have hnd : ((K1 ++ K2) ++ (K3 ++ [])).Nodup := by simpa using h.nd
  have n2 := nodup_mid hnd hN ht.nd ht.sub
  refine ⟨Lay.own_chgL _ h.g ht.chg (fun b hb => h.ap13 hb), Lay.own_chgL _ h.o ht.chg (fun b hb => h.ap23 hb), ht.own, by simpa using n2, fun b hb => ?_, h.k0, h.k4, h.k5⟩
  have hz := ht.chg.size
  rcases List.mem_append.1 hb with hb | hb
  · have := h.inn b (List.mem_append_left _ hb); omega
  · rcases List.mem_append.1 hb with hb | hb
    · have := h.inn b (List.mem_append_right _ (List.mem_append_left _ hb)); omega
    · rcases ht.sub b hb with hb | hb
      · have := h.inn b (List.mem_append_right _ (List.mem_append_right _ hb)); omega
      · omega
theorem WOpen.groups (h : WOpen w lo hi d v1 v2 v3 K1 K2 K3) (hhi : hi ≤ w.heap.size) (hlo : lo ≤ w.heap.size) {o' : Nat × (Nat → Nat × (Nat → DriveD))} {v' : Value} {K' : List Nat} (ht : Turn ((layDrive.slice 120).slice 96) w K1 w' o' [v'] K') : WOpen w' lo w'.heap.size { d with groups := o' } v' v2 v3 K' K2 K3 := by
  have hN : ∀ b, b ∈ [] ++ (K1 ++ (K2 ++ K3)) → b < w.heap.size := fun b hb => by have := (h.inn b (by simpa using hb)).2; omega
  have hnd : ([] ++ (K1 ++ (K2 ++ K3))).Nodup := by simpa using h.nd
  have n2 := nodup_mid hnd hN ht.nd ht.sub
  refine ⟨ht.own, Lay.own_chgL _ h.o ht.chg (fun b hb hb1 => h.ap12 hb1 hb), Lay.own_chgL _ h.t ht.chg (fun b hb hb1 => h.ap13 hb1 hb), by simpa using n2, fun b hb => ?_, h.k0, h.k4, h.k5⟩
  have hz := ht.chg.size
  rcases List.mem_append.1 hb with hb | hb
  · rcases ht.sub b hb with hb | hb
    · have := h.inn b (List.mem_append_left _ hb); omega
    · omega
  · have := h.inn b (List.mem_append_right _ hb); omega
theorem WOpen.below (h : WOpen w lo hi d v1 v2 v3 K1 K2 K3) {B : Nat} (hb : Below B w w') (hB : hi ≤ B) : WOpen w' lo hi d v1 v2 v3 K1 K2 K3 :=
  ⟨Lay.own_kept _ h.g (fun b hb' => hb.block b (by have := h.inn b (List.mem_append_left _ hb'); omega)), Lay.own_kept _ h.o (fun b hb' => hb.block b (by have := h.inn b (List.mem_append_right _ (List.mem_append_left _ hb')); omega)), Lay.own_kept _ h.t (fun b hb' => hb.block b (by have := h.inn b (List.mem_append_right _ (List.mem_append_right _ hb')); omega)), h.nd, h.inn, h.k0, h.k4, h.k5⟩
end
end Go.Proofs.YtcdnhhdknkhnkaaGreat
namespace Go.Proofs.YtcdnhhdknkhnkaaGreat
open Go.RowKit F256
end Go.Proofs.YtcdnhhdknkhnkaaGreat
namespace Go.Proofs.YtcdnhhdknkhnkaaGreat
open Go.RowKit F256
def wipedT : TapeD := ⟨true, (0, fun _ => noRec)⟩
def wipeW (d : WorldD) (t : Int) : WorldD := { d with tapes := (d.tapes.1, upd d.tapes.2 t.toNat wipedT) }
def WipeTAns (d : WorldD) (t : Int) (r : WorldResultD) : Prop := (∃ x, x ≠ 0 ∧ WldAns d x ∧ r = ⟨x, zeroW⟩) ∨ (WldAns d 0 ∧ ((¬ InP t 0 1 ∧ r = ⟨3, zeroW⟩) ∨ (InP t 0 1 ∧ r = ⟨0, wipeW d t⟩)))
theorem WipeTAns.one {d : WorldD} {t : Int} {r q : WorldResultD} (h : WipeTAns d t r) (k : WipeTAns d t q) : r = q := by
  rcases h with ⟨x, h1, h2, rfl⟩ | ⟨h1, h⟩ <;> rcases k with ⟨y, k1, k2, rfl⟩ | ⟨k1, k⟩
  · rw [h2.one k2]
  · exact absurd (h2.one k1) h1
  · exact absurd (k2.one h1) k1
  · rcases h with ⟨h2, rfl⟩ | ⟨h2, rfl⟩ <;> rcases k with ⟨k2, rfl⟩ | ⟨k2, rfl⟩
    · rfl
    · exact absurd k2 h2
    · exact absurd h2 k2
    · rfl
end Go.Proofs.YtcdnhhdknkhnkaaGreat
namespace Go.Proofs.YtcdnhhdknkhnkaaGreat
open Go.RowKit F256
theorem Turn.trans {α β : Type} {A : Lay α} {B : Lay β} {w w1 w2 : World} {K K1 K2 : List Nat} {a : α} {b : β} {cs c2 : List Value} (h : Turn A w K w1 a cs K1) (k : Turn B w1 K1 w2 b c2 K2) : Turn B w K w2 b c2 K2 := by
  have z := h.chg.size
  refine ⟨k.own, k.nd, fun x hx => ?_, ?_⟩
  · rcases k.sub x hx with hx | hx
    · rcases h.sub x hx with hx | hx
      · exact .inl hx
      · exact .inr ⟨hx.1, by have := k.chg.size; omega⟩
    · exact .inr ⟨by omega, hx.2⟩
  · refine ⟨k.chg.os.trans h.chg.os, k.chg.tape.trans h.chg.tape, k.chg.output.trans h.chg.output, Nat.le_trans z k.chg.size, fun x hx hn => ?_⟩
    refine (k.chg.block x (by omega) (fun hx1 => ?_)).trans (h.chg.block x hx hn)
    rcases h.sub x hx1 with h2 | h2
    · exact hn h2
    · omega
section
variable {α : Type} {E : Lay α} {t : TypeId} {w w' : World} {g cap n : Nat} {x : Nat → α} {ce : Nat → List Value} {Ls : Nat → List Nat}
end
theorem WOpen.drives {w : World} {lo hi : Nat} {d : WorldD} {v1 v2 v3 : Value} {K1 K2 K3 : List Nat} (h : WOpen w lo hi d v1 v2 v3 K1 K2 K3) (hhi : hi ≤ w.heap.size) (hlo : lo ≤ w.heap.size) {G : Nat} (hG : G < d.groups.1) (hD : (d.groups.2 G).1 ≠ 0) :
    ∃ g1 c1 g cap ce Ls, v1 = .slice (some ⟨g1, 0, none⟩) d.groups.1 c1 ∧ w.cell? ⟨g1, G, none⟩ = some (.slice (some ⟨g, 0, none⟩) (d.groups.2 G).1 cap) ∧ SlO layDrive 120 w g cap (d.groups.2 G).1 (d.groups.2 G).2 ce Ls ∧ (g :: catN (d.groups.2 G).1 Ls).Nodup ∧ (∀ b, b ∈ g :: catN (d.groups.2 G).1 Ls → lo ≤ b ∧ b < hi) ∧ (lo ≤ g1 ∧ g1 < hi) ∧ g1 ∉ g :: catN (d.groups.2 G).1 Ls ∧
      ∀ (w' : World) (p : Nat × (Nat → DriveD)) (K' : List Nat), Turn (layDrive.slice 120) w (g :: catN (d.groups.2 G).1 Ls) w' p [.slice (some ⟨g, 0, none⟩) (d.groups.2 G).1 cap] K' → ∃ K1', WOpen w' lo w'.heap.size { d with groups := (d.groups.1, upd d.groups.2 G p) } v1 v2 v3 K1' K2 K3 := by
  obtain ⟨g1, c1, ce1, Ls1, e1, eL1, S1⟩ := slice_form h.g (by omega)
  cases e1
  subst eL1
  have nd1 : (g1 :: catN d.groups.1 Ls1).Nodup := (List.nodup_append.1 h.nd).1
  have in1 : ∀ b, b ∈ g1 :: catN d.groups.1 Ls1 → lo ≤ b ∧ b < hi := fun b hb => h.inn b (List.mem_append_left _ hb)
  obtain ⟨g, cap, ce, Ls, e2, eL2, S2⟩ := slice_form (S1.each G hG) hD
  have nd2 : (g :: catN (d.groups.2 G).1 Ls).Nodup := by rw [← eL2]; exact catN_each (List.nodup_cons.1 nd1).2 hG
  have sub2 : ∀ b, b ∈ g :: catN (d.groups.2 G).1 Ls → b ∈ g1 :: catN d.groups.1 Ls1 := fun b hb => SlO.sub G hG b (by rw [eL2]; exact hb)
  refine ⟨g1, c1, g, cap, ce, Ls, rfl, ?_, S2, nd2, fun b hb => in1 b (sub2 b hb), in1 g1 (List.mem_cons_self ..), fun hb => (List.nodup_cons.1 nd1).1 (mem_catN.2 ⟨G, hG, by rw [eL2]; exact hb⟩), fun w' p K' ht => ?_⟩
  · have := S1.cell hG (j := 0) (by decide)
    have e : G * (layDrive.slice 120).sz + 0 = G := by show G * 1 + 0 = G; omega
    rw [e, e2] at this
    exact this
  · rw [← eL2, ← e2] at ht
    have T1 := S1.turn_in nd1 hG ht
    exact ⟨_, h.groups hhi hlo T1⟩
end Go.Proofs.YtcdnhhdknkhnkaaGreat
namespace Go.Proofs.YtcdnhhdknkhnkaaGreat
open Go.RowKit F256
def keptI (p : Nat → Bool) (n : Nat) : List Nat := (List.range n).filter p
theorem kept_succ (p : Nat → Bool) (n : Nat) : keptI p (n + 1) = keptI p n ++ (if p n then [n] else []) := by
  unfold keptI
  rw [List.range_succ, List.filter_append]
  cases h : p n <;> simp [h]
theorem kept_lt {p : Nat → Bool} {n i : Nat} (h : i ∈ keptI p n) : i < n := by
  unfold keptI at h
  exact List.mem_range.1 (List.mem_filter.1 h).1
theorem kept_le (p : Nat → Bool) (n : Nat) : (keptI p n).length ≤ n := by
  have := List.length_filter_le p (List.range n)
  unfold keptI
  simpa using this
theorem kept_nodup (p : Nat → Bool) (n : Nat) : (keptI p n).Nodup := List.Pairwise.filter _ List.nodup_range
def selF (p : Nat → Bool) (n : Nat) : Nat → Nat := fun m => (keptI p n).getD m 0
theorem selF_mem {p : Nat → Bool} {n m : Nat} (h : m < (keptI p n).length) : selF p n m ∈ keptI p n := by
  unfold selF
  rw [List.getD_eq_getElem?_getD, List.getElem?_eq_getElem h]
  exact List.getElem_mem h
theorem selF_lt {p : Nat → Bool} {n m : Nat} (h : m < (keptI p n).length) : selF p n m < n := kept_lt (selF_mem h)
theorem selF_inj {p : Nat → Bool} {n a b : Nat} (ha : a < (keptI p n).length) (hb : b < (keptI p n).length) (h : selF p n a = selF p n b) : a = b := by
  unfold selF at h
  rw [List.getD_eq_getElem?_getD, List.getD_eq_getElem?_getD, List.getElem?_eq_getElem ha, List.getElem?_eq_getElem hb] at h
  have hp := List.pairwise_iff_getElem.1 (kept_nodup p n)
  rcases Nat.lt_trichotomy a b with c | c | c
  · exact absurd h (hp a b ha hb c)
  · exact c
  · exact absurd h.symm (hp b a hb ha c)
theorem selF_more {p : Nat → Bool} {n m : Nat} (h : m < (keptI p n).length) : selF p (n + 1) m = selF p n m := by
  unfold selF
  rw [kept_succ, List.getD_eq_getElem?_getD, List.getD_eq_getElem?_getD, List.getElem?_append_left h]
theorem selF_last {p : Nat → Bool} {n : Nat} (h : p n = true) : selF p (n + 1) (keptI p n).length = n := by
  unfold selF
  rw [kept_succ, List.getD_eq_getElem?_getD, List.getElem?_append_right (Nat.le_refl _), Nat.sub_self, if_pos h]
  rfl
theorem kept_skip {p : Nat → Bool} {n : Nat} (h : p n = false) : keptI p (n + 1) = keptI p n := by rw [kept_succ, if_neg (by simp [h])]; simp
section
variable {α : Type} {E : Lay α} {t : TypeId} {w w' : World} {g cap n : Nat} {x : Nat → α} {ce : Nat → List Value} {Ls : Nat → List Nat}
theorem SlO.select (h : SlO E t w g cap n x ce Ls) (nd : (g :: catN n Ls).Nodup) {p : Nat → Bool} {v : Value} (hr : w'.ownsRow 0 t E.sz v (keptI p n).length (catN (keptI p n).length (fun i => ce (selF p n i)))) (hv : ∀ b, v.ownBlock = some b → b = g ∨ w.heap.size ≤ b) (hk : ∀ b, b ∈ catN n Ls → w'.heap[b]? = w.heap[b]?) :
    (E.slice t).own w' ((keptI p n).length, fun i => x (selF p n i)) [v] (v.ownBlock.toList ++ catN (keptI p n).length (fun i => Ls (selF p n i))) ∧ (v.ownBlock.toList ++ catN (keptI p n).length (fun i => Ls (selF p n i))).Nodup ∧ ∀ b, b ∈ v.ownBlock.toList ++ catN (keptI p n).length (fun i => Ls (selF p n i)) → b ∈ g :: catN n Ls ∨ (w.heap.size ≤ b ∧ b < w'.heap.size) := by
  obtain ⟨n1, n2⟩ := List.nodup_cons.1 nd
  have hin : ∀ b, b ∈ catN (keptI p n).length (fun i => Ls (selF p n i)) → b ∈ catN n Ls := fun b hb => by
    obtain ⟨i, hi, hb⟩ := mem_catN.1 hb
    exact mem_catN.2 ⟨selF p n i, selF_lt hi, hb⟩
  refine ⟨⟨v, fun i => ce (selF p n i), fun i => Ls (selF p n i), rfl, rfl, hr, fun i hi => ?_⟩, ?_, fun b hb => ?_⟩
  · exact E.own_kept (h.each _ (selF_lt hi)) (fun b hb => hk b (mem_catN.2 ⟨_, selF_lt hi, hb⟩))
  · refine List.nodup_append.2 ⟨by cases v.ownBlock <;> simp, catN_nodup (fun k hk' => catN_each n2 (selF_lt hk')) (fun k j hk' hj hne b hb => cat_apart n2 (selF_lt hj) (selF_lt hk') (fun e => hne (selF_inj hk' hj e)) hb), fun a ha b hb hab => ?_⟩
    subst hab
    have ha' : v.ownBlock = some a := by simpa using ha
    rcases hv a ha' with e | e
    · subst e; exact n1 (hin _ hb)
    · have := h.mem_lt a (List.mem_cons_of_mem _ (hin _ hb)); omega
  · rcases List.mem_append.1 hb with hb | hb
    · have hb' : v.ownBlock = some b := by simpa using hb
      rcases hv b hb' with e | e
      · exact .inl (by rw [e]; exact List.mem_cons_self ..)
      · exact .inr ⟨e, (hr.lt b hb').2⟩
    · exact .inl (List.mem_cons_of_mem _ (hin b hb))
end
end Go.Proofs.YtcdnhhdknkhnkaaGreat
namespace Go.Proofs.YtcdnhhdknkhnkaaGreat
open Go.RowKit F256
noncomputable def hasB (m : Nat) (y : Nat → RecD) (r : RecD) : Bool := @decide (∃ i, i < m ∧ SameR (y i) r) (Classical.propDecidable _)
theorem hasB_is {m : Nat} {y : Nat → RecD} {r : RecD} {t : Bool} (h : t = true ↔ ∃ i, i < m ∧ SameR (y i) r) : t = hasB m y r := by
  unfold hasB
  by_cases c : ∃ i, i < m ∧ SameR (y i) r
  · rw [h.2 c]; exact (@decide_eq_true _ (Classical.propDecidable _) c).symm
  · have : t = false := by
      cases t with
      | false => rfl
      | true => exact absurd (h.1 rfl) c
    rw [this]
    exact (@decide_eq_false _ (Classical.propDecidable _) c).symm
noncomputable def missP (d : WorldD) (T : Nat) (l : List Nat) : Nat → Bool := fun i => !(hasB (d.tapes.2 T).recs.1 (d.tapes.2 T).recs.2 (recT d.tapes.2 2 (l.getD i 0)))
noncomputable def missOf (d : WorldD) (T : Nat) (l : List Nat) : Nat × (Nat → RecD) := ((keptI (missP d T l) l.length).length, fun i => recT d.tapes.2 2 (l.getD (selF (missP d T l) l.length i) 0))
def MissAns (d : WorldD) (t : Int) (q : RecsResultD) : Prop := (∃ x, x ≠ 0 ∧ WldAns d x ∧ q = ⟨x, (0, fun _ => rec0)⟩) ∨ (WldAns d 0 ∧ ¬ InP t 0 1 ∧ q = ⟨3, (0, fun _ => rec0)⟩) ∨ (WldAns d 0 ∧ InP t 0 1 ∧ ∃ l, Cnt (recT d.tapes.2 2) (lenT d.tapes.2 2) l ∧ q = ⟨0, missOf d t.toNat l⟩)
theorem MissAns.one {d : WorldD} {t : Int} {p q : RecsResultD} (h : MissAns d t p) (k : MissAns d t q) : p = q := by
  rcases h with ⟨x, h1, h2, rfl⟩ | ⟨h1, hn, rfl⟩ | ⟨h1, hn, l, hl, rfl⟩ <;> rcases k with ⟨y, k1, k2, rfl⟩ | ⟨k1, kn, rfl⟩ | ⟨k1, kn, m, hm, rfl⟩
  · rw [h2.one k2]
  · exact absurd (h2.one k1) h1
  · exact absurd (h2.one k1) h1
  · exact absurd (k2.one h1) k1
  · rfl
  · exact absurd kn hn
  · exact absurd (k2.one h1) k1
  · exact absurd hn kn
  · rw [hl.uniq hm]
theorem kept_sum (p : Nat → Bool) (f : Nat → Nat) (n : Nat) : sumN (fun i => f (selF p n i)) (keptI p n).length ≤ sumN f n ∧ (keptI p n).length ≤ n := by
  have := sub_sum f n (keptI p n) (List.nodup_range.sublist List.filter_sublist) (fun i hi => by
    unfold keptI at hi
    have := List.mem_filter.1 hi
    exact List.mem_range.1 this.1)
  rw [← sumN_map f] at this
  exact this
theorem miss_size {d : WorldD} (h2 : d.tapes.1 = 2) (hsz : szWorldD d ≤ 1048576) {l : List Nat} (h : Cnt (recT d.tapes.2 2) (lenT d.tapes.2 2) l) (T : Nat) : (szSl szRecD) (missOf d T l) ≤ 1048576 := by
  have h1 := cnt_size h2 hsz h
  have h3 := kept_sum (missP d T l) (fun i => szRecD (recT d.tapes.2 2 (l.getD i 0))) l.length
  have e1 : (szSl szRecD) (l.length, fun i => recT d.tapes.2 2 (l.getD i 0)) = l.length + sumN (fun i => szRecD (recT d.tapes.2 2 (l.getD i 0))) l.length := rfl
  show (keptI (missP d T l) l.length).length + sumN (fun i => szRecD (recT d.tapes.2 2 (l.getD (selF (missP d T l) l.length i) 0))) (keptI (missP d T l) l.length).length ≤ 1048576
  rw [e1] at h1
  have h4 := h3.1
  have h5 := h3.2
  omega
end Go.Proofs.YtcdnhhdknkhnkaaGreat
namespace Go.Proofs.YtcdnhhdknkhnkaaGreat
open Go.RowKit F256
set_option maxHeartbeats 8000000 in
set_option maxRecDepth 20000 in
theorem l5CopyRec_is : ToV layRec szRecD 56 := fun cs d hi w r hhi hn => by
  obtain ⟨ao6, cap6, ao7, cap7, ao8, cap8, rfl, h6, h7, h8, k0, k1, k2, k3, k4, k5⟩ := Rec_rd r
  clear r
  unfold szRecD lenD at hn
  have Q0 : Hid (-9223372036854775808 ≤ d.kind ∧ d.kind ≤ 9223372036854775807) := k0
  have Q1 : Hid (-9223372036854775808 ≤ d.seq ∧ d.seq ≤ 9223372036854775807) := k1
  have Q3 : Hid (-9223372036854775808 ≤ d.length ∧ d.length ≤ 9223372036854775807) := k3
  have Q4 : Hid (-9223372036854775808 ≤ d.group ∧ d.group ≤ 9223372036854775807) := k4
  have Q5 : Hid (-9223372036854775808 ≤ d.row ∧ d.row ≤ 9223372036854775807) := k5
  have Q2 : Hid (d.name.size ≤ maxLen) := k2
  clear k0 k1 k2 k3 k4 k5
  have T0 := two_newb w #[.int .i64 d.kind, .int .i64 d.seq, .string d.name, .int .i64 d.length, .int .i64 d.group, .int .i64 d.row, .slice ao6 d.rows.1 cap6, .slice ao7 d.data.1 cap7, .slice ao8 d.delta.1 cap8] #[.int .i64 0, .int .i64 0, .string ⟨#[]⟩, .int .i64 0, .int .i64 0, .int .i64 0, .slice none 0 0, .slice none 0 0, .slice none 0 0] 92 92
  go_enter Tryz.func56, Tryz.ntmps56
  go_upto_region 1 with fail
  obtain ⟨W0, hW0⟩ : ∃ x, x = (w.alloc (.cells #[.int .i64 d.kind, .int .i64 d.seq, .string d.name, .int .i64 d.length, .int .i64 d.group, .int .i64 d.row, .slice ao6 d.rows.1 cap6, .slice ao7 d.data.1 cap7, .slice ao8 d.delta.1 cap8] 92)).alloc (.cells #[.int .i64 0, .int .i64 0, .string ⟨#[]⟩, .int .i64 0, .int .i64 0, .int .i64 0, .slice none 0 0, .slice none 0 0, .slice none 0 0] 92) := ⟨_, rfl⟩
  have z0 : W0.heap.size = w.heap.size + 1 + 1 := by rw [hW0]; simp
  rw [← hW0] at T0 ⊢
  clear hW0
  have bA0 : Below W0.heap.size W0 (W0.alloc (.cells #[] 2)) := (Below.refl _ _).alloc (Nat.le_refl _) _
  have TA0 := T0.call bA0
  obtain ⟨v', w1, hrun, o0, b0⟩ := run_appendRI 25 (W0.alloc (.cells #[] 2)) W0.heap.size (lit_row W0 2) (layInts.rd_below h6 TA0.bel hhi) (show d.rows.1 ≤ 10000000 by omega)
  obtain ⟨bo6, bcap6, hv⟩ := ints_formT o0
  obtain rfl := one_eq hv
  clear hv
  have zw0 : W0.heap.size + 1 ≤ w1.heap.size := Nat.le_trans (by simp) b0.size
  have TB0 : Two w w1 #[.int .i64 d.kind, .int .i64 d.seq, .string d.name, .int .i64 d.length, .int .i64 d.group, .int .i64 d.row, .slice ao6 d.rows.1 cap6, .slice ao7 d.data.1 cap7, .slice ao8 d.delta.1 cap8] #[.int .i64 0, .int .i64 0, .string ⟨#[]⟩, .int .i64 0, .int .i64 0, .int .i64 0, .slice none 0 0, .slice none 0 0, .slice none 0 0] 92 92 := ⟨TA0.b1.below b0 (by omega), TA0.b2.below b0 (by omega), TA0.bel.trans (b0.mono (by omega))⟩
  have xa : (W0.alloc (.cells #[] 2)).cell? ⟨w.heap.size, 6, none⟩ = some (.slice ao6 d.rows.1 cap6) := TA0.b1.cell 6
  have xb : w1.cell? ⟨w.heap.size, 6, none⟩ = some (.slice ao6 d.rows.1 cap6) := TB0.b1.cell 6
  have xf : w1.frozen? ⟨w.heap.size, 6, none⟩ = false := TB0.b1.frozen 6
  have T1 : Two w (w1.setCell ⟨w.heap.size, 6, none⟩ (.slice bo6 d.rows.1 bcap6)) #[.int .i64 d.kind, .int .i64 d.seq, .string d.name, .int .i64 d.length, .int .i64 d.group, .int .i64 d.row, .slice bo6 d.rows.1 bcap6, .slice ao7 d.data.1 cap7, .slice ao8 d.delta.1 cap8] #[.int .i64 0, .int .i64 0, .string ⟨#[]⟩, .int .i64 0, .int .i64 0, .int .i64 0, .slice none 0 0, .slice none 0 0, .slice none 0 0] 92 92 := ⟨TB0.b1.stL [.slice bo6 d.rows.1 bcap6] 6, TB0.b2.seto _ _ (by omega), TB0.bel.setCell (Nat.le_refl _) _⟩
  have O6x := o0.stN w.heap.size 6 [.slice bo6 d.rows.1 bcap6] (by omega)
  have e0 : (w1.setCell ⟨w.heap.size, 6, none⟩ (.slice bo6 d.rows.1 bcap6)).heap.size = w1.heap.size := by simp
  clear TA0 TB0 o0 b0 bA0 T0
  go_upto_region 2 with (at_builtin; refine wp_run2 rfl (.tmp 3) (.tmp 5) rfl ?_ ?_ hrun ?_; (simp [Act.eval]); (simp [Act.eval]))
  obtain ⟨W1, hW1⟩ : ∃ x, x = w1.setCell ⟨w.heap.size, 6, none⟩ (.slice bo6 d.rows.1 bcap6) := ⟨_, rfl⟩
  have O6 : Hid (OwnT layInts W1 W0.heap.size w1.heap.size d.rows [.slice bo6 d.rows.1 bcap6]) := by rw [hW1]; exact O6x
  rw [← hW1] at T1 e0 ⊢
  clear hW1 hrun xa xb xf O6x
  have bA1 : Below W1.heap.size W1 (W1.alloc (.cells #[] 5)) := (Below.refl _ _).alloc (Nat.le_refl _) _
  have TA1 := T1.call bA1
  obtain ⟨v', w2, hrun, o1, b1⟩ := run_appendRB 90 (W1.alloc (.cells #[] 5)) W1.heap.size (lit_row W1 5) (layBytes.rd_below h7 TA1.bel hhi) (show d.data.1 ≤ 10000000 by omega)
  obtain ⟨bo7, bcap7, hv⟩ := bytes_formT o1
  obtain rfl := one_eq hv
  clear hv
  have zw1 : W1.heap.size + 1 ≤ w2.heap.size := Nat.le_trans (by simp) b1.size
  have TB1 : Two w w2 #[.int .i64 d.kind, .int .i64 d.seq, .string d.name, .int .i64 d.length, .int .i64 d.group, .int .i64 d.row, .slice bo6 d.rows.1 bcap6, .slice ao7 d.data.1 cap7, .slice ao8 d.delta.1 cap8] #[.int .i64 0, .int .i64 0, .string ⟨#[]⟩, .int .i64 0, .int .i64 0, .int .i64 0, .slice none 0 0, .slice none 0 0, .slice none 0 0] 92 92 := ⟨TA1.b1.below b1 (by omega), TA1.b2.below b1 (by omega), TA1.bel.trans (b1.mono (by omega))⟩
  have xa : (W1.alloc (.cells #[] 5)).cell? ⟨w.heap.size, 7, none⟩ = some (.slice ao7 d.data.1 cap7) := TA1.b1.cell 7
  have xb : w2.cell? ⟨w.heap.size, 7, none⟩ = some (.slice ao7 d.data.1 cap7) := TB1.b1.cell 7
  have xf : w2.frozen? ⟨w.heap.size, 7, none⟩ = false := TB1.b1.frozen 7
  have T2 : Two w (w2.setCell ⟨w.heap.size, 7, none⟩ (.slice bo7 d.data.1 bcap7)) #[.int .i64 d.kind, .int .i64 d.seq, .string d.name, .int .i64 d.length, .int .i64 d.group, .int .i64 d.row, .slice bo6 d.rows.1 bcap6, .slice bo7 d.data.1 bcap7, .slice ao8 d.delta.1 cap8] #[.int .i64 0, .int .i64 0, .string ⟨#[]⟩, .int .i64 0, .int .i64 0, .int .i64 0, .slice none 0 0, .slice none 0 0, .slice none 0 0] 92 92 := ⟨TB1.b1.stL [.slice bo7 d.data.1 bcap7] 7, TB1.b2.seto _ _ (by omega), TB1.bel.setCell (Nat.le_refl _) _⟩
  have O6x := ((O6.out.call bA1).below b1 (by omega)).stN w.heap.size 7 [.slice bo7 d.data.1 bcap7] (by omega)
  have O7x := o1.stN w.heap.size 7 [.slice bo7 d.data.1 bcap7] (by omega)
  have e1 : (w2.setCell ⟨w.heap.size, 7, none⟩ (.slice bo7 d.data.1 bcap7)).heap.size = w2.heap.size := by simp
  clear TA1 TB1 o1 b1 bA1 T1 O6
  go_upto_region 3 with (at_builtin; refine wp_run2 rfl (.tmp 8) (.tmp 10) rfl ?_ ?_ hrun ?_; (simp [Act.eval]); (simp [Act.eval]))
  obtain ⟨W2, hW2⟩ : ∃ x, x = w2.setCell ⟨w.heap.size, 7, none⟩ (.slice bo7 d.data.1 bcap7) := ⟨_, rfl⟩
  have O6 : Hid (OwnT layInts W2 W0.heap.size w1.heap.size d.rows [.slice bo6 d.rows.1 bcap6]) := by rw [hW2]; exact O6x
  have O7 : Hid (OwnT layBytes W2 W1.heap.size w2.heap.size d.data [.slice bo7 d.data.1 bcap7]) := by rw [hW2]; exact O7x
  rw [← hW2] at T2 e1 ⊢
  clear hW2 hrun xa xb xf O6x O7x
  have bA2 : Below W2.heap.size W2 (W2.alloc (.cells #[] 5)) := (Below.refl _ _).alloc (Nat.le_refl _) _
  have TA2 := T2.call bA2
  obtain ⟨v', w3, hrun, o2, b2⟩ := run_appendRB 90 (W2.alloc (.cells #[] 5)) W2.heap.size (lit_row W2 5) (layBytes.rd_below h8 TA2.bel hhi) (show d.delta.1 ≤ 10000000 by omega)
  obtain ⟨bo8, bcap8, hv⟩ := bytes_formT o2
  obtain rfl := one_eq hv
  clear hv
  have zw2 : W2.heap.size + 1 ≤ w3.heap.size := Nat.le_trans (by simp) b2.size
  have TB2 : Two w w3 #[.int .i64 d.kind, .int .i64 d.seq, .string d.name, .int .i64 d.length, .int .i64 d.group, .int .i64 d.row, .slice bo6 d.rows.1 bcap6, .slice bo7 d.data.1 bcap7, .slice ao8 d.delta.1 cap8] #[.int .i64 0, .int .i64 0, .string ⟨#[]⟩, .int .i64 0, .int .i64 0, .int .i64 0, .slice none 0 0, .slice none 0 0, .slice none 0 0] 92 92 := ⟨TA2.b1.below b2 (by omega), TA2.b2.below b2 (by omega), TA2.bel.trans (b2.mono (by omega))⟩
  have xa : (W2.alloc (.cells #[] 5)).cell? ⟨w.heap.size, 8, none⟩ = some (.slice ao8 d.delta.1 cap8) := TA2.b1.cell 8
  have xb : w3.cell? ⟨w.heap.size, 8, none⟩ = some (.slice ao8 d.delta.1 cap8) := TB2.b1.cell 8
  have xf : w3.frozen? ⟨w.heap.size, 8, none⟩ = false := TB2.b1.frozen 8
  have T3 : Two w (w3.setCell ⟨w.heap.size, 8, none⟩ (.slice bo8 d.delta.1 bcap8)) #[.int .i64 d.kind, .int .i64 d.seq, .string d.name, .int .i64 d.length, .int .i64 d.group, .int .i64 d.row, .slice bo6 d.rows.1 bcap6, .slice bo7 d.data.1 bcap7, .slice bo8 d.delta.1 bcap8] #[.int .i64 0, .int .i64 0, .string ⟨#[]⟩, .int .i64 0, .int .i64 0, .int .i64 0, .slice none 0 0, .slice none 0 0, .slice none 0 0] 92 92 := ⟨TB2.b1.stL [.slice bo8 d.delta.1 bcap8] 8, TB2.b2.seto _ _ (by omega), TB2.bel.setCell (Nat.le_refl _) _⟩
  have O6x := ((O6.out.call bA2).below b2 (by omega)).stN w.heap.size 8 [.slice bo8 d.delta.1 bcap8] (by omega)
  have O7x := ((O7.out.call bA2).below b2 (by omega)).stN w.heap.size 8 [.slice bo8 d.delta.1 bcap8] (by omega)
  have O8x := o2.stN w.heap.size 8 [.slice bo8 d.delta.1 bcap8] (by omega)
  have e2 : (w3.setCell ⟨w.heap.size, 8, none⟩ (.slice bo8 d.delta.1 bcap8)).heap.size = w3.heap.size := by simp
  clear TA2 TB2 o2 b2 bA2 T2 O6 O7
  go_upto_region 4 with (at_builtin; refine wp_run2 rfl (.tmp 13) (.tmp 15) rfl ?_ ?_ hrun ?_; (simp [Act.eval]); (simp [Act.eval]))
  obtain ⟨W3, hW3⟩ : ∃ x, x = w3.setCell ⟨w.heap.size, 8, none⟩ (.slice bo8 d.delta.1 bcap8) := ⟨_, rfl⟩
  have O6 : Hid (OwnT layInts W3 W0.heap.size w1.heap.size d.rows [.slice bo6 d.rows.1 bcap6]) := by rw [hW3]; exact O6x
  have O7 : Hid (OwnT layBytes W3 W1.heap.size w2.heap.size d.data [.slice bo7 d.data.1 bcap7]) := by rw [hW3]; exact O7x
  have O8 : Hid (OwnT layBytes W3 W2.heap.size w3.heap.size d.delta [.slice bo8 d.delta.1 bcap8]) := by rw [hW3]; exact O8x
  rw [← hW3] at T3 e2 ⊢
  clear hW3 hrun xa xb xf O6x O7x O8x
  have y_0 : W3.cell? ⟨w.heap.size, 0, none⟩ = some (.int .i64 d.kind) := T3.b1.cell 0
  have y_1 : W3.cell? ⟨w.heap.size, 1, none⟩ = some (.int .i64 d.seq) := T3.b1.cell 1
  have y_2 : W3.cell? ⟨w.heap.size, 2, none⟩ = some (.string d.name) := T3.b1.cell 2
  have y_3 : W3.cell? ⟨w.heap.size, 3, none⟩ = some (.int .i64 d.length) := T3.b1.cell 3
  have y_4 : W3.cell? ⟨w.heap.size, 4, none⟩ = some (.int .i64 d.group) := T3.b1.cell 4
  have y_5 : W3.cell? ⟨w.heap.size, 5, none⟩ = some (.int .i64 d.row) := T3.b1.cell 5
  have y_6 : W3.cell? ⟨w.heap.size, 6, none⟩ = some (.slice bo6 d.rows.1 bcap6) := T3.b1.cell 6
  have y_7 : W3.cell? ⟨w.heap.size, 7, none⟩ = some (.slice bo7 d.data.1 bcap7) := T3.b1.cell 7
  have y_8 : W3.cell? ⟨w.heap.size, 8, none⟩ = some (.slice bo8 d.delta.1 bcap8) := T3.b1.cell 8
  have r_0 : W3.cell? ⟨w.heap.size + 1, 0, none⟩ = some (.int .i64 0) := T3.b2.cell 0
  have rf_0 : W3.frozen? ⟨w.heap.size + 1, 0, none⟩ = false := T3.b2.frozen 0
  have r_1 : W3.cell? ⟨w.heap.size + 1, 1, none⟩ = some (.int .i64 0) := T3.b2.cell 1
  have rf_1 : W3.frozen? ⟨w.heap.size + 1, 1, none⟩ = false := T3.b2.frozen 1
  have r_2 : W3.cell? ⟨w.heap.size + 1, 2, none⟩ = some (.string ⟨#[]⟩) := T3.b2.cell 2
  have rf_2 : W3.frozen? ⟨w.heap.size + 1, 2, none⟩ = false := T3.b2.frozen 2
  have r_3 : W3.cell? ⟨w.heap.size + 1, 3, none⟩ = some (.int .i64 0) := T3.b2.cell 3
  have rf_3 : W3.frozen? ⟨w.heap.size + 1, 3, none⟩ = false := T3.b2.frozen 3
  have r_4 : W3.cell? ⟨w.heap.size + 1, 4, none⟩ = some (.int .i64 0) := T3.b2.cell 4
  have rf_4 : W3.frozen? ⟨w.heap.size + 1, 4, none⟩ = false := T3.b2.frozen 4
  have r_5 : W3.cell? ⟨w.heap.size + 1, 5, none⟩ = some (.int .i64 0) := T3.b2.cell 5
  have rf_5 : W3.frozen? ⟨w.heap.size + 1, 5, none⟩ = false := T3.b2.frozen 5
  have r_6 : W3.cell? ⟨w.heap.size + 1, 6, none⟩ = some (.slice none 0 0) := T3.b2.cell 6
  have rf_6 : W3.frozen? ⟨w.heap.size + 1, 6, none⟩ = false := T3.b2.frozen 6
  have r_7 : W3.cell? ⟨w.heap.size + 1, 7, none⟩ = some (.slice none 0 0) := T3.b2.cell 7
  have rf_7 : W3.frozen? ⟨w.heap.size + 1, 7, none⟩ = false := T3.b2.frozen 7
  have r_8 : W3.cell? ⟨w.heap.size + 1, 8, none⟩ = some (.slice none 0 0) := T3.b2.cell 8
  have rf_8 : W3.frozen? ⟨w.heap.size + 1, 8, none⟩ = false := T3.b2.frozen 8
  have HB : Hid (Below w.heap.size w W3) := T3.bel
  clear T3
  go_wp2
  refine bodyPost_ret (v := .agg #[.int .i64 d.kind, .int .i64 d.seq, .string d.name, .int .i64 d.length, .int .i64 d.group, .int .i64 d.row, .slice bo6 d.rows.1 bcap6, .slice bo7 d.data.1 bcap7, .slice bo8 d.delta.1 bcap8]) (by simp [results, Tryz.results56, go_sem, r_0, y_0, r_1, y_1, r_2, y_2, r_3, y_3, r_4, y_4, r_5, y_5, r_6, y_6, r_7, y_7, r_8, y_8]) rfl ?_
  have F : OwnT layRec W3 (w.heap.size + 1 + 1) W3.heap.size d ([.int .i64 d.kind] ++ ([.int .i64 d.seq] ++ ([.string d.name] ++ ([.int .i64 d.length] ++ ([.int .i64 d.group] ++ ([.int .i64 d.row] ++ ([.slice bo6 d.rows.1 bcap6] ++ ([.slice bo7 d.data.1 bcap7] ++ [.slice bo8 d.delta.1 bcap8])))))))) := OwnT.conv (OwnT.pre (A := layI) (a := d.kind) (c := [.int .i64 d.kind]) ⟨rfl, Q0.out, rfl⟩ (OwnT.pre (A := layI) (a := d.seq) (c := [.int .i64 d.seq]) ⟨rfl, Q1.out, rfl⟩ (OwnT.pre (A := layS) (a := d.name) (c := [.string d.name]) ⟨rfl, Q2.out, rfl⟩ (OwnT.pre (A := layI) (a := d.length) (c := [.int .i64 d.length]) ⟨rfl, Q3.out, rfl⟩ (OwnT.pre (A := layI) (a := d.group) (c := [.int .i64 d.group]) ⟨rfl, Q4.out, rfl⟩ (OwnT.pre (A := layI) (a := d.row) (c := [.int .i64 d.row]) ⟨rfl, Q5.out, rfl⟩ (OwnT.two (O6.out.weaken (by omega) (Nat.le_refl _)) (OwnT.two O7.out (O8.out.weaken (Nat.le_refl _) (by omega)) (by omega) (by omega) (by omega)) (by omega) (by omega) (by omega))))))))
  refine ⟨[.int .i64 d.kind, .int .i64 d.seq, .string d.name, .int .i64 d.length, .int .i64 d.group, .int .i64 d.row, .slice bo6 d.rows.1 bcap6, .slice bo7 d.data.1 bcap7, .slice bo8 d.delta.1 bcap8], rfl, ?_, ?_⟩
  · exact OwnT.finb F (b := w.heap.size + 1) (by omega) (by omega) 0 [.int .i64 d.kind, .int .i64 d.seq, .string d.name, .int .i64 d.length, .int .i64 d.group, .int .i64 d.row, .slice bo6 d.rows.1 bcap6, .slice bo7 d.data.1 bcap7, .slice bo8 d.delta.1 bcap8] _ rfl
  · exact HB.out.trans (stN_below (by omega) [.int .i64 d.kind, .int .i64 d.seq, .string d.name, .int .i64 d.length, .int .i64 d.group, .int .i64 d.row, .slice bo6 d.rows.1 bcap6, .slice bo7 d.data.1 bcap7, .slice bo8 d.delta.1 bcap8] 0)
set_option maxHeartbeats 8000000 in
set_option maxRecDepth 20000 in
theorem l5CopyRecs_is : ToS (layRec.slice 92) (szSl szRecD) 24 := fun v d hi w h hhi hn => by
  obtain ⟨n, x⟩ := d
  obtain ⟨ao, cap, hv, hm, hc⟩ := h
  cases hv
  have hn1 := szSl_n hn
  have hn2 : ∀ i, i < n → szRecD (x i) ≤ 1048576 := fun i hi => szSl_at hn hi
  simp only at hn1 hm hc
  have HC : Hid (n ≠ 0 → ∃ b off, ao = some ⟨b, off, none⟩ ∧ b < hi ∧ ∀ i, i < n → ∃ ce, layRec.rd w hi (x i) ce ∧ ∀ j, j < layRec.sz → w.cell? ⟨b, off + (i * layRec.sz + j), none⟩ = ce[j]?) := hc
  clear hn hc
  go_enter Tryz.func24, Tryz.ntmps24
  go_wp2
  go_loopw [3, 4] (fun v i wr => ∃ (k : Nat) (ao' : Option Addr) (cap' : Nat), k ≤ n ∧ i = .int .i64 k ∧ v = .slice ao' k cap' ∧ Gat layRec 92 wr w.heap.size (.slice ao' k cap') k x ∧ Below w.heap.size w wr) (fun _ i _ => n - (intOf i).toNat)
  case atStart => exact ⟨0, _, _, Nat.zero_le _, rfl, rfl, gat_lit0 _ _, (Below.refl _ _).alloc (Nat.le_refl _) _⟩
  case round =>
    obtain ⟨k, ao', cap', hk, rfl, rfl, G, hb⟩ := hrel
    obtain ⟨wo, rfl⟩ : ∃ y, y = wr := ⟨_, rfl⟩
    have HG : Hid (Gat layRec 92 wo w.heap.size (.slice ao' k cap') k x) := G
    have HB : Hid (Below w.heap.size w wo) := hb
    have zo : w.heap.size ≤ wo.heap.size := hb.size
    clear G
    by_cases hlt : k < n
    · obtain ⟨b, off, he, hblt, hel⟩ := HC.out (by omega)
      subst he
      obtain ⟨ck, hrk, hcell⟩ := elem_rd (t := 0) hel hb hhi hblt hlt
      obtain ⟨ao6, cap6, ao7, cap7, ao8, cap8, rfl, -⟩ := Rec_rd hrk
      have c0 : wo.cell? ⟨b, off + k * 9, none⟩ = some (.int .i64 (x k).kind) := hcell 0 (by decide)
      have c1 : wo.cell? ⟨b, off + k * 9 + 1, none⟩ = some (.int .i64 (x k).seq) := hcell 1 (by decide)
      have c2 : wo.cell? ⟨b, off + k * 9 + 2, none⟩ = some (.string (x k).name) := hcell 2 (by decide)
      have c3 : wo.cell? ⟨b, off + k * 9 + 3, none⟩ = some (.int .i64 (x k).length) := hcell 3 (by decide)
      have c4 : wo.cell? ⟨b, off + k * 9 + 4, none⟩ = some (.int .i64 (x k).group) := hcell 4 (by decide)
      have c5 : wo.cell? ⟨b, off + k * 9 + 5, none⟩ = some (.int .i64 (x k).row) := hcell 5 (by decide)
      have c6 : wo.cell? ⟨b, off + k * 9 + 6, none⟩ = some (.slice ao6 (x k).rows.1 cap6) := hcell 6 (by decide)
      have c7 : wo.cell? ⟨b, off + k * 9 + 7, none⟩ = some (.slice ao7 (x k).data.1 cap7) := hcell 7 (by decide)
      have c8 : wo.cell? ⟨b, off + k * 9 + 8, none⟩ = some (.slice ao8 (x k).delta.1 cap8) := hcell 8 (by decide)
      have C := l5CopyRec_is _ (x k) hi wo hrk (Nat.le_trans hhi zo) (hn2 k hlt)
      clear hel hcell hrk hb
      go_wp2_with fail
      refine C.mono ?_
      rintro e w2 ⟨cs', rfl, o2, b2⟩
      obtain ⟨bo6, bc6, bo7, bc7, bo8, bc8, rfl⟩ := Rec_cells o2
      clear C c0 c1 c2 c3 c4 c5 c6 c7 c8
      go_wp2_with (at_builtin; refine wp_appendN el_Rec rfl (.tmp 12) (.tmp 18) rfl (lo := w.heap.size) (n := k) (v := .slice ao' k cap') (x := x) ?_ HG.out b2 o2 ?_ w2.heap.size 1 ?_ (fun j _ => cells_new w2 _ _ j) (by omega) (by omega) ?_; (simp [Act.eval]); (exact (Below.refl _ _).alloc (Nat.le_refl _) _); (simp [Act.eval]); intro v4 w4 g4 b4; obtain ⟨ao4, cap4, rfl⟩ := g4.form)
      go_roundw
      case rel => exact ⟨k + 1, ao4, cap4, by omega, by go_num, rfl, g4.congr (fun i _ => by rw [upd_self]), HB.out.trans b4⟩
      case measure => simp [intOf]; omega
    · obtain rfl : k = n := by omega
      clear hb
      go_wp2
      go_ret
      exact ⟨_, rfl, HG.out.own, HB.out⟩
end Go.Proofs.YtcdnhhdknkhnkaaGreat
namespace Go.Proofs.YtcdnhhdknkhnkaaGreat
open Go.RowKit F256
end Go.Proofs.YtcdnhhdknkhnkaaGreat
namespace Go.Proofs.YtcdnhhdknkhnkaaGreat
open Go.RowKit F256
def mixF {β : Type} (p : Nat → Bool) (j : Nat) (f : Nat → β) : Nat → β := fun m => if m < (keptI p j).length then f (selF p j m) else f m
theorem mix_at {β : Type} {p : Nat → Bool} {j m : Nat} (f : Nat → β) (h : (keptI p j).length ≤ m) : mixF p j f m = f m := by unfold mixF; rw [if_neg (by omega)]
theorem mix_skip {β : Type} {p : Nat → Bool} {j : Nat} (f : Nat → β) (h : p j = false) (m : Nat) : mixF p (j + 1) f m = mixF p j f m := by
  unfold mixF
  rw [kept_skip h]
  by_cases c : m < (keptI p j).length
  · rw [if_pos c, if_pos c, selF_more c]
  · rw [if_neg c, if_neg c]
theorem mix_keep {β : Type} {p : Nat → Bool} {j : Nat} (f : Nat → β) (h : p j = true) (m : Nat) : upd (mixF p j f) (keptI p j).length (f j) m = mixF p (j + 1) f m := by
  have e : (keptI p (j + 1)).length = (keptI p j).length + 1 := by rw [kept_succ, if_pos h]; simp
  unfold mixF
  by_cases c : m = (keptI p j).length
  · subst c
    rw [upd_at, if_pos (by omega), selF_last h]
  · rw [upd_ne _ _ c]
    by_cases c2 : m < (keptI p j).length
    · rw [if_pos c2, if_pos (by omega), selF_more c2]
    · rw [if_neg c2, if_neg (by omega)]
theorem kept_all {p : Nat → Bool} {n : Nat} (h : ∀ i, i < n → p i = true) : keptI p n = List.range n := by
  unfold keptI
  exact List.filter_eq_self.2 (fun i hi => h i (List.mem_range.1 hi))
theorem sel_all {p : Nat → Bool} {n m : Nat} (h : ∀ i, i < n → p i = true) (hm : m < n) : selF p n m = m := by
  unfold selF
  rw [kept_all h, List.getD_eq_getElem?_getD, List.getElem?_range hm]
  rfl
theorem mix_all {β : Type} {p : Nat → Bool} {j : Nat} (f : Nat → β) (h : ∀ i, i < j → p i = true) (m : Nat) : mixF p j f m = f m := by
  unfold mixF
  by_cases c : m < (keptI p j).length
  · rw [if_pos c, sel_all h (by rw [kept_all h] at c; simpa using c)]
  · rw [if_neg c]
theorem kept_less {p : Nat → Bool} {n i : Nat} (hi : i < n) (h : p i = false) : (keptI p n).length < n := by
  induction n with
  | zero => omega
  | succ n ih =>
    by_cases c : i = n
    · subst c
      rw [kept_skip h]
      have := kept_le p i
      omega
    · have := ih (by omega)
      have h2 : (keptI p (n + 1)).length ≤ (keptI p n).length + 1 := by rw [kept_succ]; split <;> simp
      omega
theorem zero_Rec (w : World) : (zeroValue 92).run Tryz.prog w = .ok (.agg #[.int .i64 0, .int .i64 0, .string ByteArray.empty, .int .i64 0, .int .i64 0, .int .i64 0, .slice none 0 0, .slice none 0 0, .slice none 0 0]) w := by kernel_rfl
theorem zeros_one (n : Nat) : ∀ v, v ∈ (Builtin.zeroCells #[.int .i64 0, .int .i64 0, .string ByteArray.empty, .int .i64 0, .int .i64 0, .int .i64 0, .slice none 0 0, .slice none 0 0, .slice none 0 0] n).toList → v.oneCell' = true := fun v hv => by
  simp only [Builtin.zeroCells, Array.toList_map, List.mem_map] at hv
  obtain ⟨i, _, rfl⟩ := hv
  have hi : i % 9 < 9 := Nat.mod_lt _ (by decide)
  show (#[.int .i64 0, .int .i64 0, .string ByteArray.empty, .int .i64 0, .int .i64 0, .int .i64 0, .slice none 0 0, .slice none 0 0, .slice none 0 0] : Array Value)[i % 9]!.oneCell' = true
  generalize i % 9 = j at hi
  match j, hi with
  | 0, _ => rfl
  | 1, _ => rfl
  | 2, _ => rfl
  | 3, _ => rfl
  | 4, _ => rfl
  | 5, _ => rfl
  | 6, _ => rfl
  | 7, _ => rfl
  | 8, _ => rfl
theorem run_clearZ (z : Value) (zs : Array Value) (hv : ∀ w, (zeroValue 92).run Tryz.prog w = .ok z w) (hz : z.cells = zs) (h9 : zs.size = 9) (hone : ∀ n v, v ∈ (Builtin.zeroCells zs n).toList → v.oneCell' = true) (w : World) (ty g o n c : Nat) (cur : Array Value) (hg : w.heap[g]? = some (.cells cur 92 (0, 0))) (hn : 0 < n) (hl : o + n * 9 ≤ cur.size) : ∃ row : Array Value, (Builtin.clear_ #[30] ty #[.slice (some ⟨g, o, none⟩) n c]).run Tryz.prog w = .ok (.tuple #[]) (w.setRow g row) ∧ row.size = cur.size ∧ row.toList.take o = cur.toList.take o := by
  obtain ⟨Z, hZ⟩ : ∃ Z, Z = (Builtin.zeroCells zs n).toList := ⟨_, rfl⟩
  have hlen : Z.length = n * 9 := by rw [hZ]; simp [Builtin.zeroCells, h9]
  have hst := run_storeCells_at (P := Tryz.prog) g o 92 Z 0 cur w hg (by rw [hlen]; omega) (by rw [hZ]; exact hone n)
  simp only [Nat.add_zero] at hst
  refine ⟨(cur.toList.take o ++ Z ++ cur.toList.drop (o + Z.length)).toArray, ?_, ?_, ?_⟩
  · obtain ⟨m, rfl⟩ : ∃ m, n = m + 1 := ⟨n - 1, by omega⟩
    simp [Builtin.clear_, run_underlying Tryz.underlying30, hv, hz, ← hZ, hst]
  · simp only [List.size_toArray, List.length_append, List.length_take, List.length_drop, hlen, Array.length_toList]
    omega
  · simp only [List.toList_toArray]
    rw [List.append_assoc, List.take_append_of_le_length (by simp; omega), List.take_take, Nat.min_self]
theorem run_clearR (w : World) (ty g o n c : Nat) (cur : Array Value) (hg : w.heap[g]? = some (.cells cur 92 (0, 0))) (hn : 0 < n) (hl : o + n * 9 ≤ cur.size) : ∃ row : Array Value, (Builtin.clear_ #[30] ty #[.slice (some ⟨g, o, none⟩) n c]).run Tryz.prog w = .ok (.tuple #[]) (w.setRow g row) ∧ row.size = cur.size ∧ row.toList.take o = cur.toList.take o :=
  run_clearZ (.agg #[.int .i64 0, .int .i64 0, .string ByteArray.empty, .int .i64 0, .int .i64 0, .int .i64 0, .slice none 0 0, .slice none 0 0, .slice none 0 0]) #[.int .i64 0, .int .i64 0, .string ByteArray.empty, .int .i64 0, .int .i64 0, .int .i64 0, .slice none 0 0, .slice none 0 0, .slice none 0 0] zero_Rec rfl rfl zeros_one w ty g o n c cur hg hn hl
end Go.Proofs.YtcdnhhdknkhnkaaGreat