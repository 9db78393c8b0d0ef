/- Owned memory changed in place: what is owned turns into something else that is owned, only its own blocks are touched, only new ones come. -/
import Derived.Test.YtfafbojaeedhfaaGreatZgE
import Derived.Test.YtfafbojaeedhfaaGreatZgI
import Derived.Test.YtfafbojaeedhfaaGreatZgF
import Derived.Test.YtfafbojaeedhfaaGreatZgG
import Derived.Test.YtfafbojaeedhfaaGreatZgJ
namespace Go.Proofs.YtfafbojaeedhfaaGreat
open Go.RowKit F256
set_option linter.unusedVariables false
/-- what is owned by K in w has become what is owned by K' in w' -/
structure Turn {α : Type} (A : Lay α) (w : World) (K : List Nat) (w' : World) (a : α) (cs : List Value) (K' : List Nat) : Prop where
  own : A.own w' a cs K'
  nd : K'.Nodup
  sub : ∀ b, b ∈ K' → b ∈ K ∨ (w.heap.size ≤ b ∧ b < w'.heap.size)
  chg : ChgL K w w'
theorem catN_nodup {n : Nat} {F : Nat → List Nat} (h1 : ∀ k, k < n → (F k).Nodup) (h2 : ∀ k j, k < n → j < n → k ≠ j → ∀ b, b ∈ F k → b ∉ F j) : (catN n F).Nodup := by
  induction n with
  | zero => simp [catN]
  | succ n ih =>
    rw [catN_succ]
    refine List.nodup_append.2 ⟨ih (fun k hk => h1 k (by omega)) (fun k j hk hj => h2 k j (by omega) (by omega)), h1 n (by omega), fun b hb c hc hh => ?_⟩
    subst hh
    obtain ⟨k, hk, hbk⟩ := mem_catN.1 hb
    exact h2 k n (by omega) (by omega) (by omega) b hbk hc
theorem catN_each {n : Nat} {F : Nat → List Nat} (h : (catN n F).Nodup) {k : Nat} (hk : k < n) : (F k).Nodup := by
  induction n with
  | zero => omega
  | succ n ih =>
    rw [catN_succ] at h
    obtain ⟨h1, h2, _⟩ := List.nodup_append.1 h
    by_cases c : k = n
    · subst c; exact h2
    · exact ih h1 (by omega)
section
variable {α : Type} {E : Lay α} {t : TypeId} {w w' : World} {g cap n : Nat} {x : Nat → α} {ce : Nat → List Value} {Ls : Nat → List Nat}
theorem cat_swap {i : Nat} (hi : i < n) {K' : List Nat} {N M : Nat} (nd : (g :: catN n Ls).Nodup) (hN : ∀ b, b ∈ g :: catN n Ls → b < N) (hn : K'.Nodup) (hs : ∀ b, b ∈ K' → b ∈ Ls i ∨ (N ≤ b ∧ b < M)) : (g :: catN n (upd Ls i K')).Nodup := by
  obtain ⟨n1, n2⟩ := List.nodup_cons.1 nd
  have ne : ∀ k, k < n → k ≠ i → ∀ b, b ∈ Ls k → b ∉ K' := fun k hk hne b hb hbK => by
    rcases hs b hbK with h | h
    · exact cat_apart n2 hi hk hne hb h
    · have := hN b (List.mem_cons_of_mem _ (mem_catN.2 ⟨k, hk, hb⟩)); omega
  refine List.nodup_cons.2 ⟨fun hg => ?_, catN_nodup (fun k hk => ?_) (fun k j hk hj hne b hb => ?_)⟩
  · obtain ⟨k, hk, hb⟩ := mem_catN.1 hg
    by_cases c : k = i
    · subst c
      rw [upd_at] at hb
      rcases hs g hb with h | h
      · exact n1 (mem_catN.2 ⟨k, hk, h⟩)
      · have := hN g (List.mem_cons_self ..); omega
    · rw [upd_ne Ls K' c] at hb
      exact n1 (mem_catN.2 ⟨k, hk, hb⟩)
  · by_cases c : k = i
    · subst c; rw [upd_at]; exact hn
    · rw [upd_ne Ls K' c]; exact catN_each n2 hk
  · by_cases c : k = i
    · subst c
      rw [upd_at] at hb
      rw [upd_ne Ls K' (fun h => hne h.symm)]
      exact fun hbj => ne j hj (fun h => hne h.symm) b hbj hb
    · rw [upd_ne Ls K' c] at hb
      by_cases c2 : j = i
      · subst c2
        rw [upd_at]
        exact ne k hk c b hb
      · rw [upd_ne Ls K' c2]
        exact cat_apart n2 hj hk hne hb
theorem cat_sub {i : Nat} (hi : i < n) {K' : List Nat} {N M : Nat} (hs : ∀ b, b ∈ K' → b ∈ Ls i ∨ (N ≤ b ∧ b < M)) : ∀ b, b ∈ g :: catN n (upd Ls i K') → b ∈ g :: catN n Ls ∨ (N ≤ b ∧ b < M) := fun b hb => by
  rcases List.mem_cons.1 hb with rfl | hb
  · exact .inl (List.mem_cons_self ..)
  · obtain ⟨k, hk, hb⟩ := mem_catN.1 hb
    by_cases c : k = i
    · subst c
      rw [upd_at] at hb
      rcases hs b hb with h | h
      · exact .inl (List.mem_cons_of_mem _ (mem_catN.2 ⟨k, hk, h⟩))
      · exact .inr h
    · rw [upd_ne Ls K' c] at hb
      exact .inl (List.mem_cons_of_mem _ (mem_catN.2 ⟨k, hk, hb⟩))
/-- the element i turned within its own memory, its cells as they were -/
theorem SlO.turn_in (h : SlO E t w g cap n x ce Ls) (nd : (g :: catN n Ls).Nodup) {i : Nat} (hi : i < n) {a' : α} {K' : List Nat} (ht : Turn E w (Ls i) w' a' (ce i) K') :
    Turn (E.slice t) w (g :: catN n Ls) w' (n, upd x i a') [.slice (some ⟨g, 0, none⟩) n cap] (g :: catN n (upd Ls i K')) := by
  have hgi : g ∉ Ls i := fun hb => (List.nodup_cons.1 nd).1 (mem_catN.2 ⟨i, hi, hb⟩)
  have hO : SlO E t w' g cap n (upd x i a') ce (upd Ls i K') := by
    refine ⟨⟨h.row.1, ?_⟩, fun k hk => ?_⟩
    · rcases h.row.2 with ⟨hn, _⟩ | ⟨g', cap', cur, he, hbg, hgg, rest⟩
      · cases hn
      · cases he
        exact .inr ⟨g, cap, cur, rfl, hbg, (ht.chg.block g h.lt hgi).trans hgg, rest⟩
    · by_cases c : k = i
      · subst c; rw [upd_at, upd_at]; exact ht.own
      · rw [upd_ne x a' c, upd_ne Ls K' c]
        exact E.own_chgL (h.each k hk) ht.chg (fun b hb => cat_apart (List.nodup_cons.1 nd).2 hi hk c hb)
  exact ⟨hO.own, cat_swap hi nd h.mem_lt ht.nd ht.sub, cat_sub hi ht.sub, ht.chg.mono (SlO.sub i hi)⟩
/-- the element i is laid anew: its cells are stored; what they hold came in w1 -/
theorem SlO.turn_at {w1 : World} (h : SlO E t w g cap n x ce Ls) (nd : (g :: catN n Ls).Nodup) {i : Nat} (hi : i < n) {a' : α} {cs' : List Value} {K' : List Nat} (ht : Turn E w (Ls i) w1 a' cs' K') (hw : w' = Go.Proofs.YtfafbojaeedhfaaGreat.stN w1 g (i * E.sz) cs') :
    Turn (E.slice t) w (g :: catN n Ls) w' (n, upd x i a') [.slice (some ⟨g, 0, none⟩) n cap] (g :: catN n (upd Ls i K')) := by
  subst hw
  have hgi : g ∉ Ls i := fun hb => (List.nodup_cons.1 nd).1 (mem_catN.2 ⟨i, hi, hb⟩)
  have nd' := cat_swap (g := g) hi nd h.mem_lt ht.nd ht.sub
  have hcs := E.own_len ht.own
  have row1 : w1.ownsRow 0 t E.sz (.slice (some ⟨g, 0, none⟩) n cap) n (catN n ce) := by
    refine ⟨h.row.1, ?_⟩
    rcases h.row.2 with ⟨hn, _⟩ | ⟨g', cap', cur, he, hbg, hgg, rest⟩
    · cases hn
    · cases he
      exact .inr ⟨g, cap, cur, rfl, hbg, (ht.chg.block g h.lt hgi).trans hgg, rest⟩
  have hgK : ∀ b, b ∈ catN n (upd Ls i K') → b ≠ g := fun b hb hh => by
    subst hh
    exact (List.nodup_cons.1 nd').1 hb
  have hO : SlO E t (Go.Proofs.YtfafbojaeedhfaaGreat.stN w1 g (i * E.sz) cs') g cap n (upd x i a') (upd ce i cs') (upd Ls i K') := by
    refine ⟨?_, fun k hk => ?_⟩
    · have := row_stN cs' w1 (i * E.sz) _ row1
      rw [catN_setL h.lens hi hcs] at this
      exact this
    · have own1 : E.own w1 (upd x i a' k) (upd ce i cs' k) (upd Ls i K' k) := by
        by_cases c : k = i
        · subst c; rw [upd_at, upd_at, upd_at]; exact ht.own
        · rw [upd_ne x a' c, upd_ne ce cs' c, upd_ne Ls K' c]
          exact E.own_chgL (h.each k hk) ht.chg (fun b hb => cat_apart (List.nodup_cons.1 nd).2 hi hk c hb)
      exact E.own_kept own1 (fun b hb => stN_heap g b (hgK b (mem_catN.2 ⟨k, hk, hb⟩)) cs' w1 _)
  have c1 : ChgL (g :: catN n Ls) w w1 := ht.chg.mono (SlO.sub i hi)
  refine ⟨hO.own, nd', fun b hb => ?_, ?_⟩
  · rw [stN_size]; exact cat_sub hi ht.sub b hb
  · exact c1.trans ⟨(stN_rest g cs' w1 _).1, (stN_rest g cs' w1 _).2.1, (stN_rest g cs' w1 _).2.2, Nat.le_of_eq (stN_size g cs' w1 _).symm, fun b _ hb => stN_heap g b (fun hh => hb (by rw [hh]; exact List.mem_cons_self ..)) cs' w1 _⟩
end
/-- something new, owned by new blocks -/
theorem Turn.fresh {α : Type} {A : Lay α} {w w1 : World} {K : List Nat} {a : α} {cs : List Value} {lo : Nat} (h : OwnT A w1 lo w1.heap.size a cs) (hlo : w.heap.size ≤ lo) (hc : ChgL K w w1) : ∃ K', Turn A w K w1 a cs K' := by
  obtain ⟨L, h1, h2, h3⟩ := h
  exact ⟨L, h1, h2, fun b hb => .inr ⟨by have := (h3 b hb).1; omega, (h3 b hb).2⟩, hc⟩
/-- a world's three lists -/
structure WOpen (w : World) (lo hi : Nat) (d : WorldD) (v1 v2 v3 : Value) (K1 K2 K3 : List Nat) : Prop where
  g : ((layDrive.slice 48).slice 49).own w d.groups [v1] K1
  o : layInts.own w d.on [v2] K2
  t : (layTape.slice 96).own w d.tapes [v3] K3
  nd : (K1 ++ (K2 ++ K3)).Nodup
  inn : ∀ b, b ∈ K1 ++ (K2 ++ K3) → lo ≤ b ∧ b < hi
  k0 : ∀ i, -9223372036854775808 ≤ d.shape i ∧ d.shape i ≤ 9223372036854775807
  k4 : -9223372036854775808 ≤ d.writes ∧ d.writes ≤ 9223372036854775807
  k5 : -9223372036854775808 ≤ d.stop ∧ d.stop ≤ 9223372036854775807
theorem world_open {w : World} {lo hi : Nat} {d : WorldD} {cs : List Value} (h : OwnT layWorld w lo hi d cs) : ∃ p1 c1 p2 c2 p3 c3 K1 K2 K3, cs = [.int .i64 (d.shape 0), .int .i64 (d.shape 1), .int .i64 (d.shape 2), .int .i64 (d.shape 3), .int .i64 (d.shape 4), .int .i64 (d.shape 5), .int .i64 (d.shape 6), .int .i64 (d.shape 7), .int .i64 (d.shape 8), .slice p1 d.groups.1 c1, .slice p2 d.on.1 c2, .slice p3 d.tapes.1 c3, .int .i64 d.writes, .int .i64 d.stop, .bool d.down] ∧ WOpen w lo hi d (.slice p1 d.groups.1 c1) (.slice p2 d.on.1 c2) (.slice p3 d.tapes.1 c3) K1 K2 K3 := by
  obtain ⟨M, h1, h2, h3⟩ := h
  obtain ⟨a1, b1, a2, b2, a3, b3, K1, K2, K3, e, hM, o1, o2, o3, k0, k4, k5⟩ := World_own h1
  subst hM
  simp only [List.append_nil] at h2 h3
  exact ⟨a1, b1, a2, b2, a3, b3, K1, K2, K3, e, o1, o2, o3, h2, h3, k0, k4, k5⟩
theorem WOpen.own {w : World} {lo hi : Nat} {d : WorldD} {p1 p2 p3 : Option Addr} {c1 c2 c3 : Nat} {K1 K2 K3 : List Nat} (h : WOpen w lo hi d (.slice p1 d.groups.1 c1) (.slice p2 d.on.1 c2) (.slice p3 d.tapes.1 c3) K1 K2 K3) : OwnT layWorld w lo hi d [.int .i64 (d.shape 0), .int .i64 (d.shape 1), .int .i64 (d.shape 2), .int .i64 (d.shape 3), .int .i64 (d.shape 4), .int .i64 (d.shape 5), .int .i64 (d.shape 6), .int .i64 (d.shape 7), .int .i64 (d.shape 8), .slice p1 d.groups.1 c1, .slice p2 d.on.1 c2, .slice p3 d.tapes.1 c3, .int .i64 d.writes, .int .i64 d.stop, .bool d.down] :=
  ⟨K1 ++ (K2 ++ (K3 ++ [])), World_mk d h.g h.o h.t h.k0 h.k4 h.k5, by simpa using h.nd, by simpa using h.inn⟩
/-- three lists of blocks, one of which has turned -/
theorem nodup_mid {A B C B' : List Nat} {N M : Nat} (nd : (A ++ (B ++ C)).Nodup) (hN : ∀ b, b ∈ A ++ (B ++ C) → b < N) (hn : B'.Nodup) (hs : ∀ b, b ∈ B' → b ∈ B ∨ (N ≤ b ∧ b < M)) : (A ++ (B' ++ C)).Nodup := by
  obtain ⟨a1, a2, a3⟩ := List.nodup_append.1 nd
  obtain ⟨b1, b2, b3⟩ := List.nodup_append.1 a2
  refine List.nodup_append.2 ⟨a1, List.nodup_append.2 ⟨hn, b2, fun b hb c hc hh => ?_⟩, fun b hb c hc hh => ?_⟩
  · subst hh
    rcases hs b hb with h | h
    · exact b3 b h b hc rfl
    · have := hN b (List.mem_append_right _ (List.mem_append_right _ hc)); omega
  · subst hh
    rcases List.mem_append.1 hc with hc | hc
    · rcases hs b hc with h | h
      · exact a3 b hb b (List.mem_append_left _ h) rfl
      · have := hN b (List.mem_append_left _ hb); omega
    · exact a3 b hb b (List.mem_append_right _ hc) rfl
section
variable {w w' : World} {lo hi : Nat} {d : WorldD} {v1 v2 v3 : Value} {K1 K2 K3 : List Nat}
theorem WOpen.ap12 (h : WOpen w lo hi d v1 v2 v3 K1 K2 K3) {b : Nat} (hb : b ∈ K1) : b ∉ K2 := fun h2 => (List.nodup_append.1 h.nd).2.2 b hb b (List.mem_append_left _ h2) rfl
theorem WOpen.ap13 (h : WOpen w lo hi d v1 v2 v3 K1 K2 K3) {b : Nat} (hb : b ∈ K1) : b ∉ K3 := fun h2 => (List.nodup_append.1 h.nd).2.2 b hb b (List.mem_append_right _ h2) rfl
theorem WOpen.ap23 (h : WOpen w lo hi d v1 v2 v3 K1 K2 K3) {b : Nat} (hb : b ∈ K2) : b ∉ K3 := fun h2 => (List.nodup_append.1 (List.nodup_append.1 h.nd).2.1).2.2 b hb b h2 rfl
theorem WOpen.on (h : WOpen w lo hi d v1 v2 v3 K1 K2 K3) (hhi : hi ≤ w.heap.size) (hlo : lo ≤ w.heap.size) {o' : Nat × (Nat → Int)} {v' : Value} {K' : List Nat} (ht : Turn layInts w K2 w' o' [v'] K') : WOpen w' lo w'.heap.size { d with on := o' } v1 v' v3 K1 K' K3 := by
  have hN : ∀ b, b ∈ K1 ++ (K2 ++ K3) → b < w.heap.size := fun b hb => by have := (h.inn b hb).2; omega
  refine ⟨Lay.own_chgL _ h.g ht.chg (fun b hb => h.ap12 hb), ht.own, Lay.own_chgL _ h.t ht.chg (fun b hb hb2 => h.ap23 hb2 hb), nodup_mid h.nd hN ht.nd ht.sub, fun b hb => ?_, h.k0, h.k4, h.k5⟩
  have hz := ht.chg.size
  rcases List.mem_append.1 hb with hb | hb
  · have := h.inn b (List.mem_append_left _ hb); omega
  · rcases List.mem_append.1 hb with hb | hb
    · rcases ht.sub b hb with hb | hb
      · have := h.inn b (List.mem_append_right _ (List.mem_append_left _ hb)); omega
      · omega
    · have := h.inn b (List.mem_append_right _ (List.mem_append_right _ hb)); omega
theorem WOpen.tapes (h : WOpen w lo hi d v1 v2 v3 K1 K2 K3) (hhi : hi ≤ w.heap.size) (hlo : lo ≤ w.heap.size) {o' : Nat × (Nat → TapeD)} {v' : Value} {K' : List Nat} (ht : Turn (layTape.slice 96) w K3 w' o' [v'] K') : WOpen w' lo w'.heap.size { d with tapes := o' } v1 v2 v' K1 K2 K' := by
  have hN : ∀ b, b ∈ (K1 ++ K2) ++ (K3 ++ []) → b < w.heap.size := fun b hb => by have := (h.inn b (by simpa using hb)).2; omega
  have hnd : ((K1 ++ K2) ++ (K3 ++ [])).Nodup := by simpa using h.nd
  have n2 := nodup_mid hnd hN ht.nd ht.sub
  refine ⟨Lay.own_chgL _ h.g ht.chg (fun b hb => h.ap13 hb), Lay.own_chgL _ h.o ht.chg (fun b hb => h.ap23 hb), ht.own, by simpa using n2, fun b hb => ?_, h.k0, h.k4, h.k5⟩
  have hz := ht.chg.size
  rcases List.mem_append.1 hb with hb | hb
  · have := h.inn b (List.mem_append_left _ hb); omega
  · rcases List.mem_append.1 hb with hb | hb
    · have := h.inn b (List.mem_append_right _ (List.mem_append_left _ hb)); omega
    · rcases ht.sub b hb with hb | hb
      · have := h.inn b (List.mem_append_right _ (List.mem_append_right _ hb)); omega
      · omega
theorem WOpen.groups (h : WOpen w lo hi d v1 v2 v3 K1 K2 K3) (hhi : hi ≤ w.heap.size) (hlo : lo ≤ w.heap.size) {o' : Nat × (Nat → Nat × (Nat → DriveD))} {v' : Value} {K' : List Nat} (ht : Turn ((layDrive.slice 48).slice 49) w K1 w' o' [v'] K') : WOpen w' lo w'.heap.size { d with groups := o' } v' v2 v3 K' K2 K3 := by
  have hN : ∀ b, b ∈ [] ++ (K1 ++ (K2 ++ K3)) → b < w.heap.size := fun b hb => by have := (h.inn b (by simpa using hb)).2; omega
  have hnd : ([] ++ (K1 ++ (K2 ++ K3))).Nodup := by simpa using h.nd
  have n2 := nodup_mid hnd hN ht.nd ht.sub
  refine ⟨ht.own, Lay.own_chgL _ h.o ht.chg (fun b hb hb1 => h.ap12 hb1 hb), Lay.own_chgL _ h.t ht.chg (fun b hb hb1 => h.ap13 hb1 hb), by simpa using n2, fun b hb => ?_, h.k0, h.k4, h.k5⟩
  have hz := ht.chg.size
  rcases List.mem_append.1 hb with hb | hb
  · rcases ht.sub b hb with hb | hb
    · have := h.inn b (List.mem_append_left _ hb); omega
    · omega
  · have := h.inn b (List.mem_append_right _ hb); omega
theorem WOpen.below (h : WOpen w lo hi d v1 v2 v3 K1 K2 K3) {B : Nat} (hb : Below B w w') (hB : hi ≤ B) : WOpen w' lo hi d v1 v2 v3 K1 K2 K3 :=
  ⟨Lay.own_kept _ h.g (fun b hb' => hb.block b (by have := h.inn b (List.mem_append_left _ hb'); omega)), Lay.own_kept _ h.o (fun b hb' => hb.block b (by have := h.inn b (List.mem_append_right _ (List.mem_append_left _ hb')); omega)), Lay.own_kept _ h.t (fun b hb' => hb.block b (by have := h.inn b (List.mem_append_right _ (List.mem_append_right _ hb')); omega)), h.nd, h.inn, h.k0, h.k4, h.k5⟩
end
end Go.Proofs.YtfafbojaeedhfaaGreat

namespace Go.Proofs.YtfafbojaeedhfaaGreat
open Go.RowKit F256
set_option linter.unusedVariables false
set_option linter.unusedSimpArgs false
def wipedT : TapeD := ⟨true, (0, fun _ => noRec)⟩
def wipeW (d : WorldD) (t : Int) : WorldD := { d with tapes := (d.tapes.1, upd d.tapes.2 t.toNat wipedT) }
def WipeTAns (d : WorldD) (t : Int) (r : WorldResultD) : Prop := (∃ x, x ≠ 0 ∧ WldAns d x ∧ r = ⟨x, zeroW⟩) ∨ (WldAns d 0 ∧ ((¬ InP t 0 1 ∧ r = ⟨3, zeroW⟩) ∨ (InP t 0 1 ∧ r = ⟨0, wipeW d t⟩)))
theorem WipeTAns.one {d : WorldD} {t : Int} {r q : WorldResultD} (h : WipeTAns d t r) (k : WipeTAns d t q) : r = q := by
  rcases h with ⟨x, h1, h2, rfl⟩ | ⟨h1, h⟩ <;> rcases k with ⟨y, k1, k2, rfl⟩ | ⟨k1, k⟩
  · rw [h2.one k2]
  · exact absurd (h2.one k1) h1
  · exact absurd (k2.one h1) k1
  · rcases h with ⟨h2, rfl⟩ | ⟨h2, rfl⟩ <;> rcases k with ⟨k2, rfl⟩ | ⟨k2, rfl⟩
    · rfl
    · exact absurd k2 h2
    · exact absurd h2 k2
    · rfl
theorem Two.chgK {w wc w' : World} {c1 c2 : Array Value} {t1 t2 : TypeId} {K : List Nat} (h : Two w wc c1 c2 t1 t2) (hc : ChgL K wc w') (hK : ∀ b, b ∈ K → w.heap.size + 1 < b) : Two w w' c1 c2 t1 t2 :=
  ⟨h.b1.chgl hc (fun hb => by have := hK _ hb; omega), h.b2.chgl hc (fun hb => by have := hK _ hb; omega), h.bel.trans (hc.bel (fun b hb => by have := hK b hb; omega) h.bel.size)⟩
end Go.Proofs.YtfafbojaeedhfaaGreat

namespace Go.Proofs.YtfafbojaeedhfaaGreat
open Go.RowKit F256
set_option linter.unusedVariables false
theorem Turn.trans {α β : Type} {A : Lay α} {B : Lay β} {w w1 w2 : World} {K K1 K2 : List Nat} {a : α} {b : β} {cs c2 : List Value} (h : Turn A w K w1 a cs K1) (k : Turn B w1 K1 w2 b c2 K2) : Turn B w K w2 b c2 K2 := by
  have z := h.chg.size
  refine ⟨k.own, k.nd, fun x hx => ?_, ?_⟩
  · rcases k.sub x hx with hx | hx
    · rcases h.sub x hx with hx | hx
      · exact .inl hx
      · exact .inr ⟨hx.1, by have := k.chg.size; omega⟩
    · exact .inr ⟨by omega, hx.2⟩
  · refine ⟨k.chg.os.trans h.chg.os, k.chg.tape.trans h.chg.tape, k.chg.output.trans h.chg.output, Nat.le_trans z k.chg.size, fun x hx hn => ?_⟩
    refine (k.chg.block x (by omega) (fun hx1 => ?_)).trans (h.chg.block x hx hn)
    rcases h.sub x hx1 with h2 | h2
    · exact hn h2
    · omega
section
variable {α : Type} {E : Lay α} {t : TypeId} {w w' : World} {g cap n : Nat} {x : Nat → α} {ce : Nat → List Value} {Ls : Nat → List Nat}
end
/-- the drives of a group of an open world: their slice laid open, and the way back -/
theorem WOpen.drives {w : World} {lo hi : Nat} {d : WorldD} {v1 v2 v3 : Value} {K1 K2 K3 : List Nat} (h : WOpen w lo hi d v1 v2 v3 K1 K2 K3) (hhi : hi ≤ w.heap.size) (hlo : lo ≤ w.heap.size) {G : Nat} (hG : G < d.groups.1) (hD : (d.groups.2 G).1 ≠ 0) :
    ∃ g1 c1 g cap ce Ls, v1 = .slice (some ⟨g1, 0, none⟩) d.groups.1 c1 ∧ w.cell? ⟨g1, G, none⟩ = some (.slice (some ⟨g, 0, none⟩) (d.groups.2 G).1 cap) ∧ SlO layDrive 48 w g cap (d.groups.2 G).1 (d.groups.2 G).2 ce Ls ∧ (g :: catN (d.groups.2 G).1 Ls).Nodup ∧ (∀ b, b ∈ g :: catN (d.groups.2 G).1 Ls → lo ≤ b ∧ b < hi) ∧ (lo ≤ g1 ∧ g1 < hi) ∧ g1 ∉ g :: catN (d.groups.2 G).1 Ls ∧
      ∀ (w' : World) (p : Nat × (Nat → DriveD)) (K' : List Nat), Turn (layDrive.slice 48) w (g :: catN (d.groups.2 G).1 Ls) w' p [.slice (some ⟨g, 0, none⟩) (d.groups.2 G).1 cap] K' → ∃ K1', WOpen w' lo w'.heap.size { d with groups := (d.groups.1, upd d.groups.2 G p) } v1 v2 v3 K1' K2 K3 := by
  obtain ⟨g1, c1, ce1, Ls1, e1, eL1, S1⟩ := slice_form h.g (by omega)
  cases e1
  subst eL1
  have nd1 : (g1 :: catN d.groups.1 Ls1).Nodup := (List.nodup_append.1 h.nd).1
  have in1 : ∀ b, b ∈ g1 :: catN d.groups.1 Ls1 → lo ≤ b ∧ b < hi := fun b hb => h.inn b (List.mem_append_left _ hb)
  obtain ⟨g, cap, ce, Ls, e2, eL2, S2⟩ := slice_form (S1.each G hG) hD
  have nd2 : (g :: catN (d.groups.2 G).1 Ls).Nodup := by rw [← eL2]; exact catN_each (List.nodup_cons.1 nd1).2 hG
  have sub2 : ∀ b, b ∈ g :: catN (d.groups.2 G).1 Ls → b ∈ g1 :: catN d.groups.1 Ls1 := fun b hb => SlO.sub G hG b (by rw [eL2]; exact hb)
  refine ⟨g1, c1, g, cap, ce, Ls, rfl, ?_, S2, nd2, fun b hb => in1 b (sub2 b hb), in1 g1 (List.mem_cons_self ..), fun hb => (List.nodup_cons.1 nd1).1 (mem_catN.2 ⟨G, hG, by rw [eL2]; exact hb⟩), fun w' p K' ht => ?_⟩
  · have := S1.cell hG (j := 0) (by decide)
    have e : G * (layDrive.slice 48).sz + 0 = G := by show G * 1 + 0 = G; omega
    rw [e, e2] at this
    exact this
  · rw [← eL2, ← e2] at ht
    have T1 := S1.turn_in nd1 hG ht
    exact ⟨_, h.groups hhi hlo T1⟩
end Go.Proofs.YtfafbojaeedhfaaGreat

namespace Go.Proofs.YtfafbojaeedhfaaGreat
open Go.RowKit F256
set_option linter.unusedVariables false
set_option linter.unusedSimpArgs false
/-- the world's fault, then 9 where it is down -/
def AskAns (d : WorldD) (x : Int) : Prop := (x ≠ 0 ∧ WldAns d x) ∨ (WldAns d 0 ∧ ((d.down = true ∧ x = 9) ∨ (d.down = false ∧ x = 0)))
theorem AskAns.one {d : WorldD} {x y : Int} (h : AskAns d x) (k : AskAns d y) : x = y := by
  rcases h with ⟨h1, h2⟩ | ⟨h1, h2⟩ <;> rcases k with ⟨k1, k2⟩ | ⟨k1, k2⟩
  · exact h2.one k2
  · exact absurd (h2.one k1) h1
  · exact absurd (k2.one h1) k1
  · rcases h2 with ⟨a, rfl⟩ | ⟨a, rfl⟩ <;> rcases k2 with ⟨b, rfl⟩ | ⟨b, rfl⟩
    · rfl
    · rw [a] at b; cases b
    · rw [a] at b; cases b
    · rfl
/-- a number is told -/
def IntPost (P : Int → Prop) (w : World) (e : Ending) (w' : World) : Prop := ∃ x, e = .returned (.int .i64 x) ∧ P x ∧ Below w.heap.size w w'
end Go.Proofs.YtfafbojaeedhfaaGreat

namespace Go.Proofs.YtfafbojaeedhfaaGreat
open Go.RowKit F256
set_option linter.unusedVariables false
set_option linter.unusedSimpArgs false
set_option maxHeartbeats 4000000 in
set_option maxRecDepth 20000 in
theorem l5Asked_any (d : WorldD) (cs : List Value) (hi : Nat) (w : World) (h : layWorld.rd w hi d cs) (hhi : hi ≤ w.heap.size) (hsz : szWorldD d ≤ 1048576) :
    Calls Tryz.prog 68 #[.agg cs.toArray] w (IntPost (AskAns d) w) := by
  have C := fun w' hb => specWorld_any d cs hi w' (layWorld.rd_below h (B := w.heap.size) hb hhi)
  obtain ⟨ao1, cap1, ao2, cap2, ao3, cap3, rfl, -⟩ := World_rd h
  have T0 := one_new w #[.int .i64 (d.shape 0), .int .i64 (d.shape 1), .int .i64 (d.shape 2), .int .i64 (d.shape 3), .int .i64 (d.shape 4), .int .i64 (d.shape 5), .int .i64 (d.shape 6), .int .i64 (d.shape 7), .int .i64 (d.shape 8), .slice ao1 d.groups.1 cap1, .slice ao2 d.on.1 cap2, .slice ao3 d.tapes.1 cap3, .int .i64 d.writes, .int .i64 d.stop, .bool d.down] 30
  clear h
  go_enter Tryz.func68, Tryz.ntmps68
  go_wp2_with (refine wp_loadBox 30 (.tmp 1) rfl rfl w.heap.size rfl (cs := [.int .i64 (d.shape 0), .int .i64 (d.shape 1), .int .i64 (d.shape 2), .int .i64 (d.shape 3), .int .i64 (d.shape 4), .int .i64 (d.shape 5), .int .i64 (d.shape 6), .int .i64 (d.shape 7), .int .i64 (d.shape 8), .slice ao1 d.groups.1 cap1, .slice ao2 d.on.1 cap2, .slice ao3 d.tapes.1 cap3, .int .i64 d.writes, .int .i64 d.stop, .bool d.down]) T0.b1 Tryz.underlying30 size_W rfl ?_)
  refine (C _ T0.bel (Nat.le_trans hhi T0.bel.size) (wld_ok_names hsz)).mono ?_
  rintro e w1 ⟨x, rfl, hx, b1⟩
  have T1 := T0.call b1
  have HX : Hid (WldAns d x) := hx
  have HB : Hid (Below w.heap.size w w1) := T1.bel
  have c14 : w1.cell? ⟨w.heap.size, 14, none⟩ = some (.bool d.down) := T1.b1.cell 14
  clear T0 T1 b1 C hx
  by_cases hx0 : x = 0
  · subst hx0
    obtain ⟨dn, hdn⟩ : ∃ b, b = d.down := ⟨_, rfl⟩
    rw [← hdn] at c14
    have HD : Hid (dn = d.down) := hdn
    clear hdn
    cases dn with
    | true =>
      go_wp2
      go_ret
      exact ⟨9, rfl, .inr ⟨HX.out, .inl ⟨HD.out.symm, rfl⟩⟩, HB.out⟩
    | false =>
      go_wp2
      go_ret
      exact ⟨0, rfl, .inr ⟨HX.out, .inr ⟨HD.out.symm, rfl⟩⟩, HB.out⟩
  · have hne : (x != 0) = true := by simp [hx0]
    go_wp2
    go_ret
    exact ⟨x, rfl, .inl ⟨hx0, HX.out⟩, HB.out⟩
set_option maxHeartbeats 4000000 in
set_option maxRecDepth 20000 in
theorem powered_any (d : WorldD) (cs : List Value) (hi : Nat) (w : World) (h : layWorld.rd w hi d cs) (hhi : hi ≤ w.heap.size) (hsz : szWorldD d ≤ 1048576) :
    Calls Tryz.prog 64 #[.agg cs.toArray] w (IntPost (AskAns d) w) := by
  have C := fun w' hb => implWorld_any d cs hi w' (layWorld.rd_below h (B := w.heap.size) hb hhi)
  obtain ⟨ao1, cap1, ao2, cap2, ao3, cap3, rfl, -⟩ := World_rd h
  have T0 := one_new w #[.int .i64 (d.shape 0), .int .i64 (d.shape 1), .int .i64 (d.shape 2), .int .i64 (d.shape 3), .int .i64 (d.shape 4), .int .i64 (d.shape 5), .int .i64 (d.shape 6), .int .i64 (d.shape 7), .int .i64 (d.shape 8), .slice ao1 d.groups.1 cap1, .slice ao2 d.on.1 cap2, .slice ao3 d.tapes.1 cap3, .int .i64 d.writes, .int .i64 d.stop, .bool d.down] 30
  clear h
  go_enter Tryz.func64, Tryz.ntmps64
  go_wp2_with (refine wp_loadBox 30 (.tmp 1) rfl rfl w.heap.size rfl (cs := [.int .i64 (d.shape 0), .int .i64 (d.shape 1), .int .i64 (d.shape 2), .int .i64 (d.shape 3), .int .i64 (d.shape 4), .int .i64 (d.shape 5), .int .i64 (d.shape 6), .int .i64 (d.shape 7), .int .i64 (d.shape 8), .slice ao1 d.groups.1 cap1, .slice ao2 d.on.1 cap2, .slice ao3 d.tapes.1 cap3, .int .i64 d.writes, .int .i64 d.stop, .bool d.down]) T0.b1 Tryz.underlying30 size_W rfl ?_)
  refine (C _ T0.bel (Nat.le_trans hhi T0.bel.size) (wld_ok_names hsz)).mono ?_
  rintro e w1 ⟨x, rfl, hx, b1⟩
  have T1 := T0.call b1
  have HX : Hid (WldAns d x) := hx
  have HB : Hid (Below w.heap.size w w1) := T1.bel
  have c14 : w1.cell? ⟨w.heap.size, 14, none⟩ = some (.bool d.down) := T1.b1.cell 14
  clear T0 T1 b1 C hx
  by_cases hx0 : x = 0
  · subst hx0
    obtain ⟨dn, hdn⟩ : ∃ b, b = d.down := ⟨_, rfl⟩
    rw [← hdn] at c14
    have HD : Hid (dn = d.down) := hdn
    clear hdn
    cases dn with
    | true =>
      go_wp2
      go_ret
      exact ⟨9, rfl, .inr ⟨HX.out, .inl ⟨HD.out.symm, rfl⟩⟩, HB.out⟩
    | false =>
      go_wp2
      go_ret
      exact ⟨0, rfl, .inr ⟨HX.out, .inr ⟨HD.out.symm, rfl⟩⟩, HB.out⟩
  · have hne : (x != 0) = true := by simp [hx0]
    go_wp2
    go_ret
    exact ⟨x, rfl, .inl ⟨hx0, HX.out⟩, HB.out⟩
/-- a place within the shape -/
def PlaceP (s : Nat → Int) (g k r : Int) : Prop := InP g 0 (s 0 + s 1 - 1) ∧ InP k 0 (s 2 + s 3 - 1) ∧ InP r 0 (s 4 - 1)
def DriveP (s : Nat → Int) (g k : Int) : Prop := InP g 0 (s 0 + s 1 - 1) ∧ InP k 0 (s 2 + s 3 - 1)
theorem size_S : (Tryz.prog.info? 25).map (·.size) = some 9 := by kernel_rfl
set_option maxHeartbeats 4000000 in
set_option maxRecDepth 20000 in
theorem l5Place_any (s : Nat → Int) (hok : OkShape s) (g k r : Int) (w : World) : Calls Tryz.prog 100 #[shapeV s, .int .i64 g, .int .i64 k, .int .i64 r] w (BoolP (PlaceP s g k r) w) := by
  have hb := okB hok
  obtain ⟨t1, h1⟩ := exB (InP g 0 (s 0 + s 1 - 1))
  obtain ⟨t2, h2⟩ := exB (InP k 0 (s 2 + s 3 - 1))
  obtain ⟨t3, h3⟩ := exB (InP r 0 (s 4 - 1))
  have CA := fun w' => l5All_any s hok w'
  have CD := fun w' => l5Drives_any s hok w'
  have C1 := fun w' => l1In_b (w := w') h1
  have C2 := fun w' => l1In_b (w := w') h2
  have C3 := fun w' => l1In_b (w := w') h3
  have HE : Hid (PlaceP s g k r ↔ (t1 = true ∧ t2 = true ∧ t3 = true)) := by
    show PlaceP s g k r ↔ _
    rw [h1, h2, h3]
    exact Iff.rfl
  have T0 := one_new w #[.int .i64 (s 0), .int .i64 (s 1), .int .i64 (s 2), .int .i64 (s 3), .int .i64 (s 4), .int .i64 (s 5), .int .i64 (s 6), .int .i64 (s 7), .int .i64 (s 8)] 25
  unfold shapeV at CA CD ⊢
  clear h1 h2 h3 hok
  go_enter Tryz.func100, Tryz.ntmps100
  go_wp2_with (refine wp_loadBox 25 (.tmp 4) rfl rfl w.heap.size rfl (cs := [.int .i64 (s 0), .int .i64 (s 1), .int .i64 (s 2), .int .i64 (s 3), .int .i64 (s 4), .int .i64 (s 5), .int .i64 (s 6), .int .i64 (s 7), .int .i64 (s 8)]) T0.b1 Tryz.underlying25 size_S rfl ?_)
  refine (CA _).mono ?_
  rintro e w1 ⟨rfl, b1⟩
  have T1 := T0.call b1
  have HT1 : Hid (One w w1 #[.int .i64 (s 0), .int .i64 (s 1), .int .i64 (s 2), .int .i64 (s 3), .int .i64 (s 4), .int .i64 (s 5), .int .i64 (s 6), .int .i64 (s 7), .int .i64 (s 8)] 25) := T1
  have z1 : IntKind.i64.wrap (s 0 + s 1 - 1) = s 0 + s 1 - 1 := by rw [IntKind.wrap_i64]; omega
  have z2 : IntKind.i64.wrap (s 2 + s 3 - 1) = s 2 + s 3 - 1 := by rw [IntKind.wrap_i64]; omega
  have z3 : IntKind.i64.wrap (s 4 - 1) = s 4 - 1 := by rw [IntKind.wrap_i64]; omega
  have x_0 : w1.cell? ⟨w.heap.size, 0, none⟩ = some (.int .i64 (s 0)) := T1.b1.cell 0
  have x_1 : w1.cell? ⟨w.heap.size, 1, none⟩ = some (.int .i64 (s 1)) := T1.b1.cell 1
  have x_2 : w1.cell? ⟨w.heap.size, 2, none⟩ = some (.int .i64 (s 2)) := T1.b1.cell 2
  have x_3 : w1.cell? ⟨w.heap.size, 3, none⟩ = some (.int .i64 (s 3)) := T1.b1.cell 3
  have x_4 : w1.cell? ⟨w.heap.size, 4, none⟩ = some (.int .i64 (s 4)) := T1.b1.cell 4
  have x_5 : w1.cell? ⟨w.heap.size, 5, none⟩ = some (.int .i64 (s 5)) := T1.b1.cell 5
  have x_6 : w1.cell? ⟨w.heap.size, 6, none⟩ = some (.int .i64 (s 6)) := T1.b1.cell 6
  have x_7 : w1.cell? ⟨w.heap.size, 7, none⟩ = some (.int .i64 (s 7)) := T1.b1.cell 7
  have x_8 : w1.cell? ⟨w.heap.size, 8, none⟩ = some (.int .i64 (s 8)) := T1.b1.cell 8
  clear T0 b1 T1
  go_wp2_with fail
  refine (C1 _).mono ?_
  rintro e w' ⟨rfl, hw'⟩
  obtain rfl := hw'.symm
  cases t1 with
  | false =>
    go_wp2
    go_ret
    exact boolNo rfl (fun h => by have := HE.out.1 h; simp at this) HT1.out.bel
  | true =>
  go_wp2_with fail
  refine (CD _).mono ?_
  rintro e w2 ⟨rfl, b2⟩
  have T2 := HT1.out.call b2
  have HB2 : Hid (Below w.heap.size w w2) := T2.bel
  have y4 : w2.cell? ⟨w.heap.size, 4, none⟩ = some (.int .i64 (s 4)) := T2.b1.cell 4
  clear b2 T2 x_0 x_1 x_2 x_3 x_4 x_5 x_6 x_7 x_8
  go_wp2_with fail
  refine (C2 _).mono ?_
  rintro e w' ⟨rfl, hw'⟩
  obtain rfl := hw'.symm
  cases t2 with
  | false =>
    go_wp2
    go_ret
    exact boolNo rfl (fun h => by have := HE.out.1 h; simp at this) HB2.out
  | true =>
  go_wp2_with fail
  refine (C3 _).mono ?_
  rintro e w' ⟨rfl, hw'⟩
  obtain rfl := hw'.symm
  cases t3 with
  | false =>
    go_wp2
    go_ret
    exact boolNo rfl (fun h => by have := HE.out.1 h; simp at this) HB2.out
  | true =>
    go_wp2
    go_ret
    exact boolYes rfl (HE.out.2 (by simp)) HB2.out
set_option maxHeartbeats 4000000 in
set_option maxRecDepth 20000 in
theorem isDrive_any (s : Nat → Int) (hok : OkShape s) (g k : Int) (w : World) : Calls Tryz.prog 83 #[shapeV s, .int .i64 g, .int .i64 k] w (BoolP (DriveP s g k) w) := by
  have hb := okB hok
  obtain ⟨t1, h1⟩ := exB (InP g 0 (s 0 + s 1 - 1))
  obtain ⟨t2, h2⟩ := exB (InP k 0 (s 2 + s 3 - 1))
  have CG := fun w' => isGroup_b hok h1 w'
  have CD := fun w' => driveCount_any s hok w'
  have C2 := fun w' => inBounds_b (show (0 : Int) ≤ s 2 + s 3 - 1 by omega) h2 w'
  have HE : Hid (DriveP s g k ↔ (t1 = true ∧ t2 = true)) := by
    show DriveP s g k ↔ _
    rw [h1, h2]
    exact Iff.rfl
  have T0 := one_new w #[.int .i64 (s 0), .int .i64 (s 1), .int .i64 (s 2), .int .i64 (s 3), .int .i64 (s 4), .int .i64 (s 5), .int .i64 (s 6), .int .i64 (s 7), .int .i64 (s 8)] 25
  unfold shapeV at CG CD ⊢
  clear h1 h2 hok
  go_enter Tryz.func83, Tryz.ntmps83
  go_wp2_with (refine wp_loadBox 25 (.tmp 3) rfl rfl w.heap.size rfl (cs := [.int .i64 (s 0), .int .i64 (s 1), .int .i64 (s 2), .int .i64 (s 3), .int .i64 (s 4), .int .i64 (s 5), .int .i64 (s 6), .int .i64 (s 7), .int .i64 (s 8)]) T0.b1 Tryz.underlying25 size_S rfl ?_)
  refine (CG _).mono ?_
  rintro e w1 ⟨rfl, b1⟩
  have T1 := T0.call b1
  have HT1 : Hid (One w w1 #[.int .i64 (s 0), .int .i64 (s 1), .int .i64 (s 2), .int .i64 (s 3), .int .i64 (s 4), .int .i64 (s 5), .int .i64 (s 6), .int .i64 (s 7), .int .i64 (s 8)] 25) := T1
  have z2 : IntKind.i64.wrap (s 2 + s 3 - 1) = s 2 + s 3 - 1 := by rw [IntKind.wrap_i64]; omega
  have x_0 : w1.cell? ⟨w.heap.size, 0, none⟩ = some (.int .i64 (s 0)) := T1.b1.cell 0
  have x_1 : w1.cell? ⟨w.heap.size, 1, none⟩ = some (.int .i64 (s 1)) := T1.b1.cell 1
  have x_2 : w1.cell? ⟨w.heap.size, 2, none⟩ = some (.int .i64 (s 2)) := T1.b1.cell 2
  have x_3 : w1.cell? ⟨w.heap.size, 3, none⟩ = some (.int .i64 (s 3)) := T1.b1.cell 3
  have x_4 : w1.cell? ⟨w.heap.size, 4, none⟩ = some (.int .i64 (s 4)) := T1.b1.cell 4
  have x_5 : w1.cell? ⟨w.heap.size, 5, none⟩ = some (.int .i64 (s 5)) := T1.b1.cell 5
  have x_6 : w1.cell? ⟨w.heap.size, 6, none⟩ = some (.int .i64 (s 6)) := T1.b1.cell 6
  have x_7 : w1.cell? ⟨w.heap.size, 7, none⟩ = some (.int .i64 (s 7)) := T1.b1.cell 7
  have x_8 : w1.cell? ⟨w.heap.size, 8, none⟩ = some (.int .i64 (s 8)) := T1.b1.cell 8
  clear T0 b1 T1
  cases t1 with
  | false =>
    go_wp2
    go_ret
    exact boolNo rfl (fun h => by have := HE.out.1 h; simp at this) HT1.out.bel
  | true =>
  go_wp2_with fail
  refine (CD _).mono ?_
  rintro e w2 ⟨rfl, b2⟩
  have HB2 : Hid (Below w.heap.size w w2) := (HT1.out.call b2).bel
  clear b2 x_0 x_1 x_2 x_3 x_4 x_5 x_6 x_7 x_8
  go_wp2_with fail
  refine (C2 _).mono ?_
  rintro e w3 ⟨rfl, b3⟩
  obtain rfl := b3.symm
  have HB3 := HB2
  cases t2 with
  | false =>
    go_wp2
    go_ret
    exact boolNo rfl (fun h => by have := HE.out.1 h; simp at this) HB3.out
  | true =>
    go_wp2
    go_ret
    exact boolYes rfl (HE.out.2 (by simp)) HB3.out
set_option maxHeartbeats 4000000 in
set_option maxRecDepth 20000 in
theorem isOn_any (d : WorldD) (cs : List Value) (hi : Nat) (g : Int) (w : World) (h : layWorld.rd w hi d cs) (hhi : hi ≤ w.heap.size) : Calls Tryz.prog 66 #[.agg cs.toArray, .int .i64 g] w (BoolP (HasP d.on.1 d.on.2 g) w) := by
  obtain ⟨ao1, cap1, ao2, cap2, ao3, cap3, rfl, g1, g2, g3, -⟩ := World_rd h
  obtain ⟨_, e2, ⟨h2, _⟩, _⟩ := g2
  cases e2
  have T0 := one_new w #[.int .i64 (d.shape 0), .int .i64 (d.shape 1), .int .i64 (d.shape 2), .int .i64 (d.shape 3), .int .i64 (d.shape 4), .int .i64 (d.shape 5), .int .i64 (d.shape 6), .int .i64 (d.shape 7), .int .i64 (d.shape 8), .slice ao1 d.groups.1 cap1, .slice ao2 d.on.1 cap2, .slice ao3 d.tapes.1 cap3, .int .i64 d.writes, .int .i64 d.stop, .bool d.down] 30
  have C := contains_any (.slice ao2 d.on.1 cap2) d.on.1 d.on.2 hi g _ (h2.below T0.bel hhi)
  clear h g1 g3 h2
  go_enter Tryz.func66, Tryz.ntmps66
  go_wp2_with fail
  refine C.mono ?_
  rintro e w1 ⟨b, rfl, hb, b1⟩
  have HP : Hid (b = true ↔ HasP d.on.1 d.on.2 g) := hb
  have HB : Hid (Below w.heap.size w w1) := (T0.call b1).bel
  clear b1 T0 C hb
  go_wp2
  go_ret
  exact ⟨b, rfl, HP.out, HB.out⟩
end Go.Proofs.YtfafbojaeedhfaaGreat

namespace Go.Proofs.YtfafbojaeedhfaaGreat
open Go.RowKit F256
set_option linter.unusedVariables false
set_option linter.unusedSimpArgs false
def zeroBl : BlockD := ⟨0, (0, fun _ => 0)⟩
def drvAt (d : WorldD) (g k : Int) : DriveD := (d.groups.2 g.toNat).2 k.toNat
def ReadAns (d : WorldD) (g k r : Int) (q : BlockResultD) : Prop :=
  (∃ x, x ≠ 0 ∧ AskAns d x ∧ q = ⟨x, zeroBl⟩) ∨ (AskAns d 0 ∧ ((¬ PlaceP d.shape g k r ∧ q = ⟨3, zeroBl⟩) ∨ (PlaceP d.shape g k r ∧ ((¬ HasP d.on.1 d.on.2 g ∧ q = ⟨8, zeroBl⟩) ∨ (HasP d.on.1 d.on.2 g ∧
    (((drvAt d g k).wiped = true ∧ q = ⟨12, zeroBl⟩) ∨ ((drvAt d g k).wiped = false ∧ q = ⟨0, (drvAt d g k).blocks.2 r.toNat⟩)))))))
theorem ReadAns.one {d : WorldD} {g k r : Int} {p q : BlockResultD} (h : ReadAns d g k r p) (l : ReadAns d g k r q) : p = q := by
  rcases h with ⟨x, h1, h2, rfl⟩ | ⟨h1, h⟩ <;> rcases l with ⟨y, l1, l2, rfl⟩ | ⟨l1, l⟩
  · rw [h2.one l2]
  · exact absurd (h2.one l1) h1
  · exact absurd (l2.one h1) l1
  · rcases h with ⟨h2, rfl⟩ | ⟨h2, h⟩ <;> rcases l with ⟨l2, rfl⟩ | ⟨l2, l⟩
    · rfl
    · exact absurd l2 h2
    · exact absurd h2 l2
    · rcases h with ⟨h3, rfl⟩ | ⟨h3, h⟩ <;> rcases l with ⟨l3, rfl⟩ | ⟨l3, l⟩
      · rfl
      · exact absurd l3 h3
      · exact absurd h3 l3
      · rcases h with ⟨h4, rfl⟩ | ⟨h4, rfl⟩ <;> rcases l with ⟨l4, rfl⟩ | ⟨l4, rfl⟩
        · rfl
        · rw [h4] at l4; cases l4
        · rw [h4] at l4; cases l4
        · rfl
theorem ask_small {d : WorldD} {x : Int} (h : AskAns d x) : (-9223372036854775808 ≤ x ∧ x ≤ 9223372036854775807) := by
  rcases h with ⟨_, h⟩ | ⟨_, h | h⟩
  · exact wld_small h
  · rw [h.2]; decide
  · rw [h.2]; decide
theorem ask_ok {d : WorldD} (h : AskAns d 0) : OkWorld d := by
  rcases h with ⟨h, _⟩ | ⟨h, _⟩
  · exact absurd rfl h
  · exact h.ok
end Go.Proofs.YtfafbojaeedhfaaGreat

namespace Go.Proofs.YtfafbojaeedhfaaGreat
open Go.RowKit F256
set_option linter.unusedVariables false
set_option linter.unusedSimpArgs false
def wipedD (R : Nat) : DriveD := ⟨true, (R, fun _ => blankB)⟩
def wipeDW (d : WorldD) (g k : Int) : WorldD := { d with groups := (d.groups.1, upd d.groups.2 g.toNat ((d.groups.2 g.toNat).1, upd (d.groups.2 g.toNat).2 k.toNat (wipedD (d.shape 4).toNat))) }
def WipeDAns (d : WorldD) (g k : Int) (r : WorldResultD) : Prop := (∃ x, x ≠ 0 ∧ WldAns d x ∧ r = ⟨x, zeroW⟩) ∨ (WldAns d 0 ∧ ((¬ DriveP d.shape g k ∧ r = ⟨3, zeroW⟩) ∨ (DriveP d.shape g k ∧ r = ⟨0, wipeDW d g k⟩)))
theorem WipeDAns.one {d : WorldD} {g k : Int} {r q : WorldResultD} (h : WipeDAns d g k r) (l : WipeDAns d g k q) : r = q := by
  rcases h with ⟨x, h1, h2, rfl⟩ | ⟨h1, h⟩ <;> rcases l with ⟨y, k1, k2, rfl⟩ | ⟨k1, l⟩
  · rw [h2.one k2]
  · exact absurd (h2.one k1) h1
  · exact absurd (k2.one h1) k1
  · rcases h with ⟨h2, rfl⟩ | ⟨h2, rfl⟩ <;> rcases l with ⟨k2, rfl⟩ | ⟨k2, rfl⟩
    · rfl
    · exact absurd k2 h2
    · exact absurd h2 k2
    · rfl
end Go.Proofs.YtfafbojaeedhfaaGreat

namespace Go.Proofs.YtfafbojaeedhfaaGreat
open Go.RowKit F256
set_option linter.unusedVariables false
set_option linter.unusedSimpArgs false
def onW (d : WorldD) (g : Int) : WorldD := { d with on := (d.on.1 + 1, upd d.on.2 d.on.1 g) }
def OnAns (d : WorldD) (g : Int) (r : WorldResultD) : Prop := (∃ x, x ≠ 0 ∧ AskAns d x ∧ r = ⟨x, zeroW⟩) ∨ (AskAns d 0 ∧ ((¬ InP g 0 (d.shape 0 + d.shape 1 - 1) ∧ r = ⟨3, zeroW⟩) ∨ (InP g 0 (d.shape 0 + d.shape 1 - 1) ∧ ((HasP d.on.1 d.on.2 g ∧ r = ⟨0, d⟩) ∨ (¬ HasP d.on.1 d.on.2 g ∧ ((d.shape 5 ≤ (d.on.1 : Int) ∧ r = ⟨7, zeroW⟩) ∨ (¬ d.shape 5 ≤ (d.on.1 : Int) ∧ r = ⟨0, onW d g⟩)))))))
theorem OnAns.one {d : WorldD} {g : Int} {r q : WorldResultD} (h : OnAns d g r) (k : OnAns d g q) : r = q := by
  rcases h with ⟨x, h1, h2, rfl⟩ | ⟨h1, h⟩ <;> rcases k with ⟨y, k1, k2, rfl⟩ | ⟨k1, k⟩
  · rw [h2.one k2]
  · exact absurd (h2.one k1) h1
  · exact absurd (k2.one h1) k1
  · rcases h with ⟨h2, rfl⟩ | ⟨h2, h⟩ <;> rcases k with ⟨k2, rfl⟩ | ⟨k2, k⟩
    · rfl
    · exact absurd k2 h2
    · exact absurd h2 k2
    · rcases h with ⟨h3, rfl⟩ | ⟨h3, h⟩ <;> rcases k with ⟨k3, rfl⟩ | ⟨k3, k⟩
      · rfl
      · exact absurd h3 k3
      · exact absurd k3 h3
      · rcases h with ⟨h4, rfl⟩ | ⟨h4, rfl⟩ <;> rcases k with ⟨k4, rfl⟩ | ⟨k4, rfl⟩
        · rfl
        · exact absurd h4 k4
        · exact absurd k4 h4
        · rfl
theorem WOpen.chgn {w w' : World} {lo hi : Nat} {d : WorldD} {v1 v2 v3 : Value} {K1 K2 K3 K : List Nat} (h : WOpen w lo hi d v1 v2 v3 K1 K2 K3) (hc : ChgL K w w') (hK : ∀ b, b ∈ K → b ∉ K1 ++ (K2 ++ K3)) : WOpen w' lo hi d v1 v2 v3 K1 K2 K3 :=
  ⟨Lay.own_chgL _ h.g hc (fun b hb hbK => hK b hbK (List.mem_append_left _ hb)), Lay.own_chgL _ h.o hc (fun b hb hbK => hK b hbK (List.mem_append_right _ (List.mem_append_left _ hb))), Lay.own_chgL _ h.t hc (fun b hb hbK => hK b hbK (List.mem_append_right _ (List.mem_append_right _ hb))), h.nd, h.inn, h.k0, h.k4, h.k5⟩
end Go.Proofs.YtfafbojaeedhfaaGreat
