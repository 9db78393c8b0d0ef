/- Owned memory changed in place: what is owned turns into something else that is owned, only its own blocks are touched, only new ones come. -/
import Derived.Test.YtbmfndjglndnlaaGreatZwE
import Derived.Test.YtbmfndjglndnlaaGreatZwI
import Derived.Test.YtbmfndjglndnlaaGreatZwK
import Derived.Deep.DeepCutAuto
import Derived.Test.YtbmfndjglndnlaaGreatZwJ
namespace Go.Proofs.YtbmfndjglndnlaaGreat
open Go.RowKit F256
set_option linter.unusedVariables false
/-- what is owned by K in w has become what is owned by K' in w' -/
structure Turn {α : Type} (A : Lay α) (w : World) (K : List Nat) (w' : World) (a : α) (cs : List Value) (K' : List Nat) : Prop where
  own : A.own w' a cs K'
  nd : K'.Nodup
  sub : ∀ b, b ∈ K' → b ∈ K ∨ (w.heap.size ≤ b ∧ b < w'.heap.size)
  chg : ChgL K w w'
theorem catN_nodup {n : Nat} {F : Nat → List Nat} (h1 : ∀ k, k < n → (F k).Nodup) (h2 : ∀ k j, k < n → j < n → k ≠ j → ∀ b, b ∈ F k → b ∉ F j) : (catN n F).Nodup := by
  induction n with
  | zero => simp [catN]
  | succ n ih =>
    rw [catN_succ]
    refine List.nodup_append.2 ⟨ih (fun k hk => h1 k (by omega)) (fun k j hk hj => h2 k j (by omega) (by omega)), h1 n (by omega), fun b hb c hc hh => ?_⟩
    subst hh
    obtain ⟨k, hk, hbk⟩ := mem_catN.1 hb
    exact h2 k n (by omega) (by omega) (by omega) b hbk hc
theorem catN_each {n : Nat} {F : Nat → List Nat} (h : (catN n F).Nodup) {k : Nat} (hk : k < n) : (F k).Nodup := by
  induction n with
  | zero => omega
  | succ n ih =>
    rw [catN_succ] at h
    obtain ⟨h1, h2, _⟩ := List.nodup_append.1 h
    by_cases c : k = n
    · subst c; exact h2
    · exact ih h1 (by omega)
section
variable {α : Type} {E : Lay α} {t : TypeId} {w w' : World} {g cap n : Nat} {x : Nat → α} {ce : Nat → List Value} {Ls : Nat → List Nat}
theorem cat_swap {i : Nat} (hi : i < n) {K' : List Nat} {N M : Nat} (nd : (g :: catN n Ls).Nodup) (hN : ∀ b, b ∈ g :: catN n Ls → b < N) (hn : K'.Nodup) (hs : ∀ b, b ∈ K' → b ∈ Ls i ∨ (N ≤ b ∧ b < M)) : (g :: catN n (upd Ls i K')).Nodup := by
  obtain ⟨n1, n2⟩ := List.nodup_cons.1 nd
  have ne : ∀ k, k < n → k ≠ i → ∀ b, b ∈ Ls k → b ∉ K' := fun k hk hne b hb hbK => by
    rcases hs b hbK with h | h
    · exact cat_apart n2 hi hk hne hb h
    · have := hN b (List.mem_cons_of_mem _ (mem_catN.2 ⟨k, hk, hb⟩)); omega
  refine List.nodup_cons.2 ⟨fun hg => ?_, catN_nodup (fun k hk => ?_) (fun k j hk hj hne b hb => ?_)⟩
  · obtain ⟨k, hk, hb⟩ := mem_catN.1 hg
    by_cases c : k = i
    · subst c
      rw [upd_at] at hb
      rcases hs g hb with h | h
      · exact n1 (mem_catN.2 ⟨k, hk, h⟩)
      · have := hN g (List.mem_cons_self ..); omega
    · rw [upd_ne Ls K' c] at hb
      exact n1 (mem_catN.2 ⟨k, hk, hb⟩)
  · by_cases c : k = i
    · subst c; rw [upd_at]; exact hn
    · rw [upd_ne Ls K' c]; exact catN_each n2 hk
  · by_cases c : k = i
    · subst c
      rw [upd_at] at hb
      rw [upd_ne Ls K' (fun h => hne h.symm)]
      exact fun hbj => ne j hj (fun h => hne h.symm) b hbj hb
    · rw [upd_ne Ls K' c] at hb
      by_cases c2 : j = i
      · subst c2
        rw [upd_at]
        exact ne k hk c b hb
      · rw [upd_ne Ls K' c2]
        exact cat_apart n2 hj hk hne hb
theorem cat_sub {i : Nat} (hi : i < n) {K' : List Nat} {N M : Nat} (hs : ∀ b, b ∈ K' → b ∈ Ls i ∨ (N ≤ b ∧ b < M)) : ∀ b, b ∈ g :: catN n (upd Ls i K') → b ∈ g :: catN n Ls ∨ (N ≤ b ∧ b < M) := fun b hb => by
  rcases List.mem_cons.1 hb with rfl | hb
  · exact .inl (List.mem_cons_self ..)
  · obtain ⟨k, hk, hb⟩ := mem_catN.1 hb
    by_cases c : k = i
    · subst c
      rw [upd_at] at hb
      rcases hs b hb with h | h
      · exact .inl (List.mem_cons_of_mem _ (mem_catN.2 ⟨k, hk, h⟩))
      · exact .inr h
    · rw [upd_ne Ls K' c] at hb
      exact .inl (List.mem_cons_of_mem _ (mem_catN.2 ⟨k, hk, hb⟩))
/-- the element i turned within its own memory, its cells as they were -/
theorem SlO.turn_in (h : SlO E t w g cap n x ce Ls) (nd : (g :: catN n Ls).Nodup) {i : Nat} (hi : i < n) {a' : α} {K' : List Nat} (ht : Turn E w (Ls i) w' a' (ce i) K') :
    Turn (E.slice t) w (g :: catN n Ls) w' (n, upd x i a') [.slice (some ⟨g, 0, none⟩) n cap] (g :: catN n (upd Ls i K')) := by
  have hgi : g ∉ Ls i := fun hb => (List.nodup_cons.1 nd).1 (mem_catN.2 ⟨i, hi, hb⟩)
  have hO : SlO E t w' g cap n (upd x i a') ce (upd Ls i K') := by
    refine ⟨⟨h.row.1, ?_⟩, fun k hk => ?_⟩
    · rcases h.row.2 with ⟨hn, _⟩ | ⟨g', cap', cur, he, hbg, hgg, rest⟩
      · cases hn
      · cases he
        exact .inr ⟨g, cap, cur, rfl, hbg, (ht.chg.block g h.lt hgi).trans hgg, rest⟩
    · by_cases c : k = i
      · subst c; rw [upd_at, upd_at]; exact ht.own
      · rw [upd_ne x a' c, upd_ne Ls K' c]
        exact E.own_chgL (h.each k hk) ht.chg (fun b hb => cat_apart (List.nodup_cons.1 nd).2 hi hk c hb)
  exact ⟨hO.own, cat_swap hi nd h.mem_lt ht.nd ht.sub, cat_sub hi ht.sub, ht.chg.mono (SlO.sub i hi)⟩
/-- the element i is laid anew: its cells are stored; what they hold came in w1 -/
theorem SlO.turn_at {w1 : World} (h : SlO E t w g cap n x ce Ls) (nd : (g :: catN n Ls).Nodup) {i : Nat} (hi : i < n) {a' : α} {cs' : List Value} {K' : List Nat} (ht : Turn E w (Ls i) w1 a' cs' K') (hw : w' = Go.Proofs.YtbmfndjglndnlaaGreat.stN w1 g (i * E.sz) cs') :
    Turn (E.slice t) w (g :: catN n Ls) w' (n, upd x i a') [.slice (some ⟨g, 0, none⟩) n cap] (g :: catN n (upd Ls i K')) := by
  subst hw
  have hgi : g ∉ Ls i := fun hb => (List.nodup_cons.1 nd).1 (mem_catN.2 ⟨i, hi, hb⟩)
  have nd' := cat_swap (g := g) hi nd h.mem_lt ht.nd ht.sub
  have hcs := E.own_len ht.own
  have row1 : w1.ownsRow 0 t E.sz (.slice (some ⟨g, 0, none⟩) n cap) n (catN n ce) := by
    refine ⟨h.row.1, ?_⟩
    rcases h.row.2 with ⟨hn, _⟩ | ⟨g', cap', cur, he, hbg, hgg, rest⟩
    · cases hn
    · cases he
      exact .inr ⟨g, cap, cur, rfl, hbg, (ht.chg.block g h.lt hgi).trans hgg, rest⟩
  have hgK : ∀ b, b ∈ catN n (upd Ls i K') → b ≠ g := fun b hb hh => by
    subst hh
    exact (List.nodup_cons.1 nd').1 hb
  have hO : SlO E t (Go.Proofs.YtbmfndjglndnlaaGreat.stN w1 g (i * E.sz) cs') g cap n (upd x i a') (upd ce i cs') (upd Ls i K') := by
    refine ⟨?_, fun k hk => ?_⟩
    · have := row_stN cs' w1 (i * E.sz) _ row1
      rw [catN_setL h.lens hi hcs] at this
      exact this
    · have own1 : E.own w1 (upd x i a' k) (upd ce i cs' k) (upd Ls i K' k) := by
        by_cases c : k = i
        · subst c; rw [upd_at, upd_at, upd_at]; exact ht.own
        · rw [upd_ne x a' c, upd_ne ce cs' c, upd_ne Ls K' c]
          exact E.own_chgL (h.each k hk) ht.chg (fun b hb => cat_apart (List.nodup_cons.1 nd).2 hi hk c hb)
      exact E.own_kept own1 (fun b hb => stN_heap g b (hgK b (mem_catN.2 ⟨k, hk, hb⟩)) cs' w1 _)
  have c1 : ChgL (g :: catN n Ls) w w1 := ht.chg.mono (SlO.sub i hi)
  refine ⟨hO.own, nd', fun b hb => ?_, ?_⟩
  · rw [stN_size]; exact cat_sub hi ht.sub b hb
  · exact c1.trans ⟨(stN_rest g cs' w1 _).1, (stN_rest g cs' w1 _).2.1, (stN_rest g cs' w1 _).2.2, Nat.le_of_eq (stN_size g cs' w1 _).symm, fun b _ hb => stN_heap g b (fun hh => hb (by rw [hh]; exact List.mem_cons_self ..)) cs' w1 _⟩
end
/-- something new, owned by new blocks -/
theorem Turn.fresh {α : Type} {A : Lay α} {w w1 : World} {K : List Nat} {a : α} {cs : List Value} {lo : Nat} (h : OwnT A w1 lo w1.heap.size a cs) (hlo : w.heap.size ≤ lo) (hc : ChgL K w w1) : ∃ K', Turn A w K w1 a cs K' := by
  obtain ⟨L, h1, h2, h3⟩ := h
  exact ⟨L, h1, h2, fun b hb => .inr ⟨by have := (h3 b hb).1; omega, (h3 b hb).2⟩, hc⟩
/-- a world's three lists -/
structure WOpen (w : World) (lo hi : Nat) (d : WorldD) (v1 v2 v3 : Value) (K1 K2 K3 : List Nat) : Prop where
  g : ((layDrive.slice 84).slice 85).own w d.groups [v1] K1
  o : layInts.own w d.on [v2] K2
  t : (layTape.slice 94).own w d.tapes [v3] K3
  nd : (K1 ++ (K2 ++ K3)).Nodup
  inn : ∀ b, b ∈ K1 ++ (K2 ++ K3) → lo ≤ b ∧ b < hi
  k0 : ∀ i, -9223372036854775808 ≤ d.shape i ∧ d.shape i ≤ 9223372036854775807
  k4 : -9223372036854775808 ≤ d.writes ∧ d.writes ≤ 9223372036854775807
  k5 : -9223372036854775808 ≤ d.stop ∧ d.stop ≤ 9223372036854775807
theorem world_open {w : World} {lo hi : Nat} {d : WorldD} {cs : List Value} (h : OwnT layWorld w lo hi d cs) : ∃ p1 c1 p2 c2 p3 c3 K1 K2 K3, cs = [.int .i64 (d.shape 0), .int .i64 (d.shape 1), .int .i64 (d.shape 2), .int .i64 (d.shape 3), .int .i64 (d.shape 4), .int .i64 (d.shape 5), .int .i64 (d.shape 6), .int .i64 (d.shape 7), .int .i64 (d.shape 8), .slice p1 d.groups.1 c1, .slice p2 d.on.1 c2, .slice p3 d.tapes.1 c3, .int .i64 d.writes, .int .i64 d.stop, .bool d.down] ∧ WOpen w lo hi d (.slice p1 d.groups.1 c1) (.slice p2 d.on.1 c2) (.slice p3 d.tapes.1 c3) K1 K2 K3 := by
  obtain ⟨M, h1, h2, h3⟩ := h
  obtain ⟨a1, b1, a2, b2, a3, b3, K1, K2, K3, e, hM, o1, o2, o3, k0, k4, k5⟩ := World_own h1
  subst hM
  simp only [List.append_nil] at h2 h3
  exact ⟨a1, b1, a2, b2, a3, b3, K1, K2, K3, e, o1, o2, o3, h2, h3, k0, k4, k5⟩
theorem WOpen.own {w : World} {lo hi : Nat} {d : WorldD} {p1 p2 p3 : Option Addr} {c1 c2 c3 : Nat} {K1 K2 K3 : List Nat} (h : WOpen w lo hi d (.slice p1 d.groups.1 c1) (.slice p2 d.on.1 c2) (.slice p3 d.tapes.1 c3) K1 K2 K3) : OwnT layWorld w lo hi d [.int .i64 (d.shape 0), .int .i64 (d.shape 1), .int .i64 (d.shape 2), .int .i64 (d.shape 3), .int .i64 (d.shape 4), .int .i64 (d.shape 5), .int .i64 (d.shape 6), .int .i64 (d.shape 7), .int .i64 (d.shape 8), .slice p1 d.groups.1 c1, .slice p2 d.on.1 c2, .slice p3 d.tapes.1 c3, .int .i64 d.writes, .int .i64 d.stop, .bool d.down] :=
  ⟨K1 ++ (K2 ++ (K3 ++ [])), World_mk d h.g h.o h.t h.k0 h.k4 h.k5, by simpa using h.nd, by simpa using h.inn⟩
/-- three lists of blocks, one of which has turned -/
theorem nodup_mid {A B C B' : List Nat} {N M : Nat} (nd : (A ++ (B ++ C)).Nodup) (hN : ∀ b, b ∈ A ++ (B ++ C) → b < N) (hn : B'.Nodup) (hs : ∀ b, b ∈ B' → b ∈ B ∨ (N ≤ b ∧ b < M)) : (A ++ (B' ++ C)).Nodup := by
  obtain ⟨a1, a2, a3⟩ := List.nodup_append.1 nd
  obtain ⟨b1, b2, b3⟩ := List.nodup_append.1 a2
  refine List.nodup_append.2 ⟨a1, List.nodup_append.2 ⟨hn, b2, fun b hb c hc hh => ?_⟩, fun b hb c hc hh => ?_⟩
  · subst hh
    rcases hs b hb with h | h
    · exact b3 b h b hc rfl
    · have := hN b (List.mem_append_right _ (List.mem_append_right _ hc)); omega
  · subst hh
    rcases List.mem_append.1 hc with hc | hc
    · rcases hs b hc with h | h
      · exact a3 b hb b (List.mem_append_left _ h) rfl
      · have := hN b (List.mem_append_left _ hb); omega
    · exact a3 b hb b (List.mem_append_right _ hc) rfl
section
variable {w w' : World} {lo hi : Nat} {d : WorldD} {v1 v2 v3 : Value} {K1 K2 K3 : List Nat}
theorem WOpen.ap12 (h : WOpen w lo hi d v1 v2 v3 K1 K2 K3) {b : Nat} (hb : b ∈ K1) : b ∉ K2 := fun h2 => (List.nodup_append.1 h.nd).2.2 b hb b (List.mem_append_left _ h2) rfl
theorem WOpen.ap13 (h : WOpen w lo hi d v1 v2 v3 K1 K2 K3) {b : Nat} (hb : b ∈ K1) : b ∉ K3 := fun h2 => (List.nodup_append.1 h.nd).2.2 b hb b (List.mem_append_right _ h2) rfl
theorem WOpen.ap23 (h : WOpen w lo hi d v1 v2 v3 K1 K2 K3) {b : Nat} (hb : b ∈ K2) : b ∉ K3 := fun h2 => (List.nodup_append.1 (List.nodup_append.1 h.nd).2.1).2.2 b hb b h2 rfl
theorem WOpen.on (h : WOpen w lo hi d v1 v2 v3 K1 K2 K3) (hhi : hi ≤ w.heap.size) (hlo : lo ≤ w.heap.size) {o' : Nat × (Nat → Int)} {v' : Value} {K' : List Nat} (ht : Turn layInts w K2 w' o' [v'] K') : WOpen w' lo w'.heap.size { d with on := o' } v1 v' v3 K1 K' K3 := by
  have hN : ∀ b, b ∈ K1 ++ (K2 ++ K3) → b < w.heap.size := fun b hb => by have := (h.inn b hb).2; omega
  refine ⟨Lay.own_chgL _ h.g ht.chg (fun b hb => h.ap12 hb), ht.own, Lay.own_chgL _ h.t ht.chg (fun b hb hb2 => h.ap23 hb2 hb), nodup_mid h.nd hN ht.nd ht.sub, fun b hb => ?_, h.k0, h.k4, h.k5⟩
  have hz := ht.chg.size
  rcases List.mem_append.1 hb with hb | hb
  · have := h.inn b (List.mem_append_left _ hb); omega
  · rcases List.mem_append.1 hb with hb | hb
    · rcases ht.sub b hb with hb | hb
      · have := h.inn b (List.mem_append_right _ (List.mem_append_left _ hb)); omega
      · omega
    · have := h.inn b (List.mem_append_right _ (List.mem_append_right _ hb)); omega
theorem WOpen.tapes (h : WOpen w lo hi d v1 v2 v3 K1 K2 K3) (hhi : hi ≤ w.heap.size) (hlo : lo ≤ w.heap.size) {o' : Nat × (Nat → TapeD)} {v' : Value} {K' : List Nat} (ht : Turn (layTape.slice 94) w K3 w' o' [v'] K') : WOpen w' lo w'.heap.size { d with tapes := o' } v1 v2 v' K1 K2 K' := by
  have hN : ∀ b, b ∈ (K1 ++ K2) ++ (K3 ++ []) → b < w.heap.size := fun b hb => by have := (h.inn b (by simpa using hb)).2; omega
  have hnd : ((K1 ++ K2) ++ (K3 ++ [])).Nodup := by simpa using h.nd
  have n2 := nodup_mid hnd hN ht.nd ht.sub
  refine ⟨Lay.own_chgL _ h.g ht.chg (fun b hb => h.ap13 hb), Lay.own_chgL _ h.o ht.chg (fun b hb => h.ap23 hb), ht.own, by simpa using n2, fun b hb => ?_, h.k0, h.k4, h.k5⟩
  have hz := ht.chg.size
  rcases List.mem_append.1 hb with hb | hb
  · have := h.inn b (List.mem_append_left _ hb); omega
  · rcases List.mem_append.1 hb with hb | hb
    · have := h.inn b (List.mem_append_right _ (List.mem_append_left _ hb)); omega
    · rcases ht.sub b hb with hb | hb
      · have := h.inn b (List.mem_append_right _ (List.mem_append_right _ hb)); omega
      · omega
theorem WOpen.groups (h : WOpen w lo hi d v1 v2 v3 K1 K2 K3) (hhi : hi ≤ w.heap.size) (hlo : lo ≤ w.heap.size) {o' : Nat × (Nat → Nat × (Nat → DriveD))} {v' : Value} {K' : List Nat} (ht : Turn ((layDrive.slice 84).slice 85) w K1 w' o' [v'] K') : WOpen w' lo w'.heap.size { d with groups := o' } v' v2 v3 K' K2 K3 := by
  have hN : ∀ b, b ∈ [] ++ (K1 ++ (K2 ++ K3)) → b < w.heap.size := fun b hb => by have := (h.inn b (by simpa using hb)).2; omega
  have hnd : ([] ++ (K1 ++ (K2 ++ K3))).Nodup := by simpa using h.nd
  have n2 := nodup_mid hnd hN ht.nd ht.sub
  refine ⟨ht.own, Lay.own_chgL _ h.o ht.chg (fun b hb hb1 => h.ap12 hb1 hb), Lay.own_chgL _ h.t ht.chg (fun b hb hb1 => h.ap13 hb1 hb), by simpa using n2, fun b hb => ?_, h.k0, h.k4, h.k5⟩
  have hz := ht.chg.size
  rcases List.mem_append.1 hb with hb | hb
  · rcases ht.sub b hb with hb | hb
    · have := h.inn b (List.mem_append_left _ hb); omega
    · omega
  · have := h.inn b (List.mem_append_right _ hb); omega
theorem WOpen.below (h : WOpen w lo hi d v1 v2 v3 K1 K2 K3) {B : Nat} (hb : Below B w w') (hB : hi ≤ B) : WOpen w' lo hi d v1 v2 v3 K1 K2 K3 :=
  ⟨Lay.own_kept _ h.g (fun b hb' => hb.block b (by have := h.inn b (List.mem_append_left _ hb'); omega)), Lay.own_kept _ h.o (fun b hb' => hb.block b (by have := h.inn b (List.mem_append_right _ (List.mem_append_left _ hb')); omega)), Lay.own_kept _ h.t (fun b hb' => hb.block b (by have := h.inn b (List.mem_append_right _ (List.mem_append_right _ hb')); omega)), h.nd, h.inn, h.k0, h.k4, h.k5⟩
end
/-- append(v, x) of numbers: only the list's own block is touched -/
theorem run_appendOn (w : World) (ty : TypeId) {v : Value} {n : Nat} {f : Nat → Int} {L : List Nat} (h : layInts.own w (n, f) [v] L) (u : Int) (hu : -9223372036854775808 ≤ u ∧ u ≤ 9223372036854775807) (b c : Nat) (hcell : w.cell? ⟨b, 0, none⟩ = some (.int .i64 u)) (hn : n + 1 ≤ 1000000000) :
    ∃ v' w' L', (Builtin.append_ #[25, 25] ty #[v, .slice (some ⟨b, 0, none⟩) 1 c]).run Tryz.prog w = .ok v' w' ∧ Turn layInts w L w' (n + 1, upd f n u) [v'] L' := by
  obtain ⟨_, e, rfl, hown, hf⟩ := h
  cases e
  obtain ⟨i0, hi0, hz0, hz1, hz2⟩ := info_parts info_i64
  obtain ⟨v', w', hr, h2, h3, _, h5⟩ := run_append_own_at (P := Tryz.prog) w 0 25 ty 2 i0 (.int .i64 0) 1 8 Tryz.underlying25 hi0 hz0 hz1 hz2 rfl (by decide) v n (intsOf n f) hown.1 ⟨b, 0, none⟩ 1 c [.int .i64 u] rfl
    (fun j u' hj => by
      match j, hj with
      | 0, hj => simp at hj; subst hj; simpa [Addr.add] using hcell)
    (fun u' hu' => by simp at hu'; subst hu'; rfl) (by unfold maxLen; omega) (by omega) (Nat.zero_le _)
  have e : intsOf n f ++ [.int .i64 u] = intsOf (n + 1) (upd f n u) := by
    rw [← intsOf_snoc, upd_at, intsOf_eq (f := f) (g := upd f n u) (fun i hi => (upd_ne f u (by omega)).symm)]
  rw [e] at h2
  refine ⟨v', w', v'.ownBlock.toList, hr, ⟨v', rfl, rfl, ⟨h2, fun k hk => (h2.lt k hk).2⟩, fun i => ?_⟩, ?_, fun k hk => ?_, ?_⟩
  · show -9223372036854775808 ≤ upd f n u i ∧ upd f n u i ≤ 9223372036854775807
    by_cases c : i = n
    · subst c; rw [upd_at]; exact hu
    · rw [upd_ne f u c]; exact hf i
  · cases v'.ownBlock <;> simp
  · have hk' : v'.ownBlock = some k := by simpa using hk
    rcases h5 with h5 | h5
    · exact .inl (by rw [← h5]; exact hk)
    · rw [h5] at hk'
      cases hk'
      exact .inr ⟨Nat.le_refl _, (h2.lt _ h5).2⟩
  · exact ⟨h3.os, h3.tape, h3.output, h3.size, fun k hk hn' => h3.block k hk (fun he => hn' (by rw [← he]; simp))⟩
/-- append(v, a): only the list's own block is touched; a came in W -/
theorem run_appendTurn {α : Type} {E : Lay α} {T e : TypeId} {by_ : Nat} {zs : List Value} (I : ElInfo E T e by_ zs) (ty : TypeId) {w0 W : World} {n : Nat} {v : Value} {x : Nat → α} {L : List Nat} (h : (E.slice e).own w0 (n, x) [v] L) (nd : L.Nodup) (hW : Below w0.heap.size w0 W) {d : α} {cs : List Value} {La : List Nat} (ha : E.own W d cs La) (hnd : La.Nodup) (hLa : ∀ b, b ∈ La → w0.heap.size ≤ b) (b c : Nat) (hcell : ∀ j, j < E.sz → W.cell? ⟨b, j, none⟩ = cs[j]?) (hn : n ≤ 10000000) :
    ∃ v' w' L', (Builtin.append_ #[T, T] ty #[v, .slice (some ⟨b, 0, none⟩) 1 c]).run Tryz.prog W = .ok v' w' ∧ Turn (E.slice e) w0 L w' (n + 1, upd x n d) [v'] L' := by
  obtain ⟨hs, hzs, hu, hi, few⟩ := I
  obtain ⟨i0, hi0⟩ : ∃ i0, Tryz.prog.info? e = some i0 := by
    cases h : Tryz.prog.info? e with
    | none => rw [h] at hi; cases hi
    | some i0 => exact ⟨i0, rfl⟩
  rw [hi0] at hi
  simp only [Option.map_some, Option.some.injEq, Prod.mk.injEq] at hi
  obtain ⟨h1, h2, h3⟩ := hi
  obtain ⟨z, hz, hzc⟩ : ∃ z, i0.zero = some z ∧ z.cells = zs.toArray := by
    cases h : i0.zero with
    | none => rw [h] at h1; cases h1
    | some z => rw [h] at h1; exact ⟨z, rfl, by simpa using h1⟩
  have hlt := Lay.own_lt _ h
  obtain ⟨_, ce, Ls, ev, rfl, hrow, heach⟩ := h
  cases ev
  have hG1 : SlG E e w0 0 v n x ce Ls := ⟨hrow, heach, nd, fun _ _ => Nat.zero_le _⟩
  have hG2 : SlG E e W 0 v n x ce Ls := hG1.below hW
  have hcs := E.own_len ha
  obtain ⟨v', w', hr, r1, r2, r3, r4⟩ := run_append_own_at (P := Tryz.prog) W 0 T ty e i0 z E.sz by_ hu hi0 hz h2 h3 (by rw [hzc]; simpa using hzs) hs v n (catN n ce) hG2.row ⟨b, 0, none⟩ 1 c cs (by rw [hcs, Nat.one_mul])
    (fun j u hj => by
      have hlt : j < cs.length := (List.getElem?_eq_some_iff.1 hj).1
      have := hcell j (by omega)
      rw [hj] at this
      rw [add_o]
      exact this) (E.own_one ha) (by unfold maxLen; omega) (by
        have : (n + 1) * by_ ≤ 10000001 * 1000 := Nat.mul_le_mul (by omega) few
        omega) (Nat.zero_le _)
  have hG3 := hG2.grown ha hnd (fun k hk => ⟨Nat.zero_le _, fun hh => by have := hlt k hh; have := hLa k hk; omega⟩) r1 r2 r4
  have hz' := hW.size
  refine ⟨v', w', v'.ownBlock.toList ++ catN (n + 1) (upd Ls n La), hr, ⟨v', _, _, rfl, rfl, hG3.row, hG3.each⟩, hG3.nd, fun k hk => ?_, ?_⟩
  · have hkl : k < w'.heap.size := Lay.own_lt (E.slice e) (⟨v', _, _, rfl, rfl, hG3.row, hG3.each⟩ : (E.slice e).own w' (n + 1, upd x n d) [v'] _) k hk
    rcases List.mem_append.1 hk with hk | hk
    · have hk' : v'.ownBlock = some k := by simpa using hk
      rcases r4 with r4 | r4
      · exact .inl (List.mem_append_left _ (by rw [← r4]; exact hk))
      · rw [r4] at hk'
        cases hk'
        exact .inr ⟨hz', hkl⟩
    · obtain ⟨i, hi, hki⟩ := mem_catN.1 hk
      by_cases c : i = n
      · subst c
        rw [upd_at] at hki
        exact .inr ⟨hLa k hki, hkl⟩
      · rw [upd_ne Ls La c] at hki
        exact .inl (List.mem_append_right _ (mem_catN.2 ⟨i, by omega, hki⟩))
  · exact ⟨r2.os.trans hW.os, r2.tape.trans hW.tape, r2.output.trans hW.output, Nat.le_trans hW.size r2.size, fun k hk hn' => (r2.block k (by omega) (fun he => hn' (List.mem_append_left _ (by rw [← he]; simp)))).trans (hW.block k hk)⟩
end Go.Proofs.YtbmfndjglndnlaaGreat

namespace Go.Proofs.YtbmfndjglndnlaaGreat
open Go.RowKit F256
set_option linter.unusedVariables false
set_option linter.unusedSimpArgs false
def wipedT : TapeD := ⟨true, (0, fun _ => noRec)⟩
def wipeW (d : WorldD) (t : Int) : WorldD := { d with tapes := (d.tapes.1, upd d.tapes.2 t.toNat wipedT) }
theorem own_wipedT (w : World) : layTape.own w wipedT [.bool true, .slice none 0 0] [] := ⟨_, _, [], [], rfl, rfl, ⟨rfl, trivial, rfl⟩, own_noSl w _⟩
def WipeTAns (d : WorldD) (t : Int) (r : WorldResultD) : Prop := (∃ x, x ≠ 0 ∧ WldAns d x ∧ r = ⟨x, zeroW⟩) ∨ (WldAns d 0 ∧ ((¬ InP t 0 1 ∧ r = ⟨3, zeroW⟩) ∨ (InP t 0 1 ∧ r = ⟨0, wipeW d t⟩)))
theorem WipeTAns.one {d : WorldD} {t : Int} {r q : WorldResultD} (h : WipeTAns d t r) (k : WipeTAns d t q) : r = q := by
  rcases h with ⟨x, h1, h2, rfl⟩ | ⟨h1, h⟩ <;> rcases k with ⟨y, k1, k2, rfl⟩ | ⟨k1, k⟩
  · rw [h2.one k2]
  · exact absurd (h2.one k1) h1
  · exact absurd (k2.one h1) k1
  · rcases h with ⟨h2, rfl⟩ | ⟨h2, rfl⟩ <;> rcases k with ⟨k2, rfl⟩ | ⟨k2, rfl⟩
    · rfl
    · exact absurd k2 h2
    · exact absurd h2 k2
    · rfl
theorem Two.chgK {w wc w' : World} {c1 c2 : Array Value} {t1 t2 : TypeId} {K : List Nat} (h : Two w wc c1 c2 t1 t2) (hc : ChgL K wc w') (hK : ∀ b, b ∈ K → w.heap.size + 1 < b) : Two w w' c1 c2 t1 t2 :=
  ⟨h.b1.chgl hc (fun hb => by have := hK _ hb; omega), h.b2.chgl hc (fun hb => by have := hK _ hb; omega), h.bel.trans (hc.bel (fun b hb => by have := hK b hb; omega) h.bel.size)⟩
end Go.Proofs.YtbmfndjglndnlaaGreat

namespace Go.Proofs.YtbmfndjglndnlaaGreat
open Go.RowKit F256
set_option linter.unusedVariables false
set_option linter.unusedSimpArgs false
set_option maxHeartbeats 32000000 in
set_option maxRecDepth 20000 in
theorem specWipeT_any (d : WorldD) (t : Int) (cs : List Value) (hi : Nat) (w : World) (h : layWorld.rd w hi d cs) (hhi : hi ≤ w.heap.size) (hsz : szWorldD d ≤ 1048576) (ht : -9223372036854775808 ≤ t ∧ t ≤ 9223372036854775807) :
    Calls Tryz.prog 27 #[.agg cs.toArray, .int .i64 t] w (ResPost (WipeTAns d t) w) := by
  have h' := h
  obtain ⟨ao1, cap1, ao2, cap2, ao3, cap3, rfl, g1, g2, g3, k0, k4, k5⟩ := World_rd h'
  have HRD : Hid (layWorld.rd w hi d [.int .i64 (d.shape 0), .int .i64 (d.shape 1), .int .i64 (d.shape 2), .int .i64 (d.shape 3), .int .i64 (d.shape 4), .int .i64 (d.shape 5), .int .i64 (d.shape 6), .int .i64 (d.shape 7), .int .i64 (d.shape 8), .slice ao1 d.groups.1 cap1, .slice ao2 d.on.1 cap2, .slice ao3 d.tapes.1 cap3, .int .i64 d.writes, .int .i64 d.stop, .bool d.down]) := h
  have HSZ : Hid (szWorldD d ≤ 1048576) := hsz
  have Ht : Hid (-9223372036854775808 ≤ t ∧ t ≤ 9223372036854775807) := ht
  clear h h' hsz g1 g2 g3 k0 k4 k5 ht
  have T0 := two_newb w #[.int .i64 (d.shape 0), .int .i64 (d.shape 1), .int .i64 (d.shape 2), .int .i64 (d.shape 3), .int .i64 (d.shape 4), .int .i64 (d.shape 5), .int .i64 (d.shape 6), .int .i64 (d.shape 7), .int .i64 (d.shape 8), .slice ao1 d.groups.1 cap1, .slice ao2 d.on.1 cap2, .slice ao3 d.tapes.1 cap3, .int .i64 d.writes, .int .i64 d.stop, .bool d.down] #[.int .i64 0, .int .i64 0, .int .i64 0, .int .i64 0, .int .i64 0, .int .i64 0, .int .i64 0, .int .i64 0, .int .i64 0, .int .i64 0, .slice none 0 0, .slice none 0 0, .slice none 0 0, .int .i64 0, .int .i64 0, .bool false] 34 36
  go_enter Tryz.func27, Tryz.ntmps27
  go_wp2_with (refine wp_loadBox 34 (.tmp 2) rfl rfl (w.heap.size) rfl (cs := [.int .i64 (d.shape 0), .int .i64 (d.shape 1), .int .i64 (d.shape 2), .int .i64 (d.shape 3), .int .i64 (d.shape 4), .int .i64 (d.shape 5), .int .i64 (d.shape 6), .int .i64 (d.shape 7), .int .i64 (d.shape 8), .slice ao1 d.groups.1 cap1, .slice ao2 d.on.1 cap2, .slice ao3 d.tapes.1 cap3, .int .i64 d.writes, .int .i64 d.stop, .bool d.down]) (T0.b1) Tryz.underlying34 size_W rfl ?_)
  refine (specWorld_any d _ hi _ (layWorld.rd_below HRD.out T0.bel hhi) (Nat.le_trans hhi T0.bel.size) (wld_ok_names HSZ.out)).mono ?_
  rintro e w1 ⟨x, rfl, hx, b1⟩
  have HT1 : Hid (Two w w1 #[.int .i64 (d.shape 0), .int .i64 (d.shape 1), .int .i64 (d.shape 2), .int .i64 (d.shape 3), .int .i64 (d.shape 4), .int .i64 (d.shape 5), .int .i64 (d.shape 6), .int .i64 (d.shape 7), .int .i64 (d.shape 8), .slice ao1 d.groups.1 cap1, .slice ao2 d.on.1 cap2, .slice ao3 d.tapes.1 cap3, .int .i64 d.writes, .int .i64 d.stop, .bool d.down] #[.int .i64 0, .int .i64 0, .int .i64 0, .int .i64 0, .int .i64 0, .int .i64 0, .int .i64 0, .int .i64 0, .int .i64 0, .int .i64 0, .slice none 0 0, .slice none 0 0, .slice none 0 0, .int .i64 0, .int .i64 0, .bool false] 34 36) := T0.call b1
  have HX : Hid (WldAns d x) := hx
  have z1 : w.heap.size + 1 < w1.heap.size := HT1.out.b2.lt
  clear b1 T0 hx
  by_cases hx0 : x = 0
  case neg =>
    have hne : (x != 0) = true := by simp [hx0]
    go_wp2_with (refine wp_storeBox 36 _ _ rfl rfl (w.heap.size + 1) rfl (cs := [.int .i64 x, .int .i64 0, .int .i64 0, .int .i64 0, .int .i64 0, .int .i64 0, .int .i64 0, .int .i64 0, .int .i64 0, .int .i64 0, .slice none 0 0, .slice none 0 0, .slice none 0 0, .int .i64 0, .int .i64 0, .bool false]) (old := [.int .i64 0, .int .i64 0, .int .i64 0, .int .i64 0, .int .i64 0, .int .i64 0, .int .i64 0, .int .i64 0, .int .i64 0, .int .i64 0, .slice none 0 0, .slice none 0 0, .slice none 0 0, .int .i64 0, .int .i64 0, .bool false]) rfl (HT1.out.b2) size_WR rfl rfl (code_one _ (wld_small HX.out) w) ?_; intro w9 X9 C9 z9)
    refine ret_box Tryz.results27 rfl X9 Tryz.underlying36 size_WR rfl rfl ?_
    exact post_code (wld_small HX.out) HT1.out.bel C9 (.inl ⟨x, hx0, HX.out, rfl⟩)
  subst hx0
  have HOK : Hid (OkWorld d) := WldAns.ok HX.out
  obtain ⟨b, hb⟩ := exB (InP t 0 1)
  have Hb : Hid (b = true ↔ InP t 0 1) := hb
  have CI := fun w' => l1In_b hb w'
  clear hb
  go_wp2_with fail
  refine (CI _).mono ?_
  rintro e w1' ⟨rfl, e1⟩
  obtain rfl := e1.symm
  clear CI
  cases b with
  | false =>
    go_wp2_with (refine wp_storeBox 36 _ _ rfl rfl (w.heap.size + 1) rfl (cs := [.int .i64 3, .int .i64 0, .int .i64 0, .int .i64 0, .int .i64 0, .int .i64 0, .int .i64 0, .int .i64 0, .int .i64 0, .int .i64 0, .slice none 0 0, .slice none 0 0, .slice none 0 0, .int .i64 0, .int .i64 0, .bool false]) (old := [.int .i64 0, .int .i64 0, .int .i64 0, .int .i64 0, .int .i64 0, .int .i64 0, .int .i64 0, .int .i64 0, .int .i64 0, .int .i64 0, .slice none 0 0, .slice none 0 0, .slice none 0 0, .int .i64 0, .int .i64 0, .bool false]) rfl (HT1.out.b2) size_WR rfl rfl (code_one _ (by decide) w) ?_; intro w9 X9 C9 z9)
    refine ret_box Tryz.results27 rfl X9 Tryz.underlying36 size_WR rfl rfl ?_
    exact post_code (by decide) HT1.out.bel C9 (.inr ⟨HX.out, .inl ⟨fun h => (by have := Hb.out.2 h; cases this), rfl⟩⟩)
  | true =>
  go_wp2_with (refine wp_loadBox 34 (.tmp 2) rfl rfl (w.heap.size) rfl (cs := [.int .i64 (d.shape 0), .int .i64 (d.shape 1), .int .i64 (d.shape 2), .int .i64 (d.shape 3), .int .i64 (d.shape 4), .int .i64 (d.shape 5), .int .i64 (d.shape 6), .int .i64 (d.shape 7), .int .i64 (d.shape 8), .slice ao1 d.groups.1 cap1, .slice ao2 d.on.1 cap2, .slice ao3 d.tapes.1 cap3, .int .i64 d.writes, .int .i64 d.stop, .bool d.down]) (HT1.out.b1) Tryz.underlying34 size_W rfl ?_)
  refine (l5Copy_is _ d hi _ (layWorld.rd_below HRD.out HT1.out.bel hhi) (Nat.le_trans hhi HT1.out.bel.size) HSZ.out).mono ?_
  rintro e w2 ⟨c2, rfl, o2, b2⟩
  obtain ⟨p1, c1, p2, c2, p3, c3, K1, K2, K3, rfl, WO2⟩ := world_open o2
  have z2 : w1.heap.size ≤ w2.heap.size := b2.size
  go_upto_region 7 with (refine wp_allocStore 34 6 (.tmp 18) [.int .i64 (d.shape 0), .int .i64 (d.shape 1), .int .i64 (d.shape 2), .int .i64 (d.shape 3), .int .i64 (d.shape 4), .int .i64 (d.shape 5), .int .i64 (d.shape 6), .int .i64 (d.shape 7), .int .i64 (d.shape 8), .slice p1 d.groups.1 c1, .slice p2 d.on.1 c2, .slice p3 d.tapes.1 c3, .int .i64 d.writes, .int .i64 d.stop, .bool d.down] _ 15 rfl rfl rfl rfl rfl rfl rfl rfl info_W rfl rfl o2.one ?_)
  have bA : Below w2.heap.size w2 (w2.alloc (.cells #[.int .i64 (d.shape 0), .int .i64 (d.shape 1), .int .i64 (d.shape 2), .int .i64 (d.shape 3), .int .i64 (d.shape 4), .int .i64 (d.shape 5), .int .i64 (d.shape 6), .int .i64 (d.shape 7), .int .i64 (d.shape 8), .slice p1 d.groups.1 c1, .slice p2 d.on.1 c2, .slice p3 d.tapes.1 c3, .int .i64 d.writes, .int .i64 d.stop, .bool d.down] 34)) := (Below.refl _ _).alloc (Nat.le_refl _) _
  have X3 : Box (w2.alloc (.cells #[.int .i64 (d.shape 0), .int .i64 (d.shape 1), .int .i64 (d.shape 2), .int .i64 (d.shape 3), .int .i64 (d.shape 4), .int .i64 (d.shape 5), .int .i64 (d.shape 6), .int .i64 (d.shape 7), .int .i64 (d.shape 8), .slice p1 d.groups.1 c1, .slice p2 d.on.1 c2, .slice p3 d.tapes.1 c3, .int .i64 d.writes, .int .i64 d.stop, .bool d.down] 34)) w2.heap.size #[.int .i64 (d.shape 0), .int .i64 (d.shape 1), .int .i64 (d.shape 2), .int .i64 (d.shape 3), .int .i64 (d.shape 4), .int .i64 (d.shape 5), .int .i64 (d.shape 6), .int .i64 (d.shape 7), .int .i64 (d.shape 8), .slice p1 d.groups.1 c1, .slice p2 d.on.1 c2, .slice p3 d.tapes.1 c3, .int .i64 d.writes, .int .i64 d.stop, .bool d.down] 34 := box_new _ _ _
  obtain ⟨W3, hW3⟩ : ∃ x, x = w2.alloc (.cells #[.int .i64 (d.shape 0), .int .i64 (d.shape 1), .int .i64 (d.shape 2), .int .i64 (d.shape 3), .int .i64 (d.shape 4), .int .i64 (d.shape 5), .int .i64 (d.shape 6), .int .i64 (d.shape 7), .int .i64 (d.shape 8), .slice p1 d.groups.1 c1, .slice p2 d.on.1 c2, .slice p3 d.tapes.1 c3, .int .i64 d.writes, .int .i64 d.stop, .bool d.down] 34) := ⟨_, rfl⟩
  rw [← hW3] at bA X3 ⊢
  have T3 := (HT1.out.call b2).call bA
  have WO := WO2.below bA (Nat.le_refl _)
  have z3 : w2.heap.size < W3.heap.size := X3.lt
  clear bA hW3 o2 b2 WO2
  have hin : InP t 0 1 := Hb.out.1 (by simp)
  obtain ⟨k, rfl⟩ : ∃ k : Nat, t = (k : Int) := ⟨t.toNat, by have := hin.1; omega⟩
  have HIN : Hid (InP (k : Int) 0 1) := hin
  have hk : k < d.tapes.1 := by rw [HOK.out.form.2.2]; have := hin.2; omega
  obtain ⟨g, cap, ce, Ls, e3, eL, S3⟩ := slice_form WO.t (by omega)
  simp only [List.cons.injEq, Value.slice.injEq, and_true, true_and] at e3
  obtain ⟨rfl, rfl⟩ := e3
  subst eL
  have nd3 : (g :: catN d.tapes.1 Ls).Nodup := (List.nodup_append.1 (List.nodup_append.1 WO.nd).2.1).2.1
  obtain ⟨ao7, cap7, K7, e7, -, -⟩ := Tape_own (S3.each k hk)
  have y0 : W3.cell? ⟨g, k * 2, none⟩ = some (.bool (d.tapes.2 k).wiped) := (S3.cell hk (j := 0) (by decide)).trans (by rw [e7]; rfl)
  have y1 : W3.cell? ⟨g, k * 2 + 1, none⟩ = some (.slice ao7 (d.tapes.2 k).recs.1 cap7) := (S3.cell hk (j := 1) (by decide)).trans (by rw [e7]; rfl)
  have f0 : W3.frozen? ⟨g, k * 2, none⟩ = false := S3.frozen _
  have f1 : W3.frozen? ⟨g, k * 2 + 1, none⟩ = false := S3.frozen _
  have x3 : W3.cell? ⟨w2.heap.size, 11, none⟩ = some (.slice (some ⟨g, 0, none⟩) d.tapes.1 c3) := X3.cell 11
  have i1 : (0 : Int) ≤ (k : Int) := by omega
  have i2 : (k : Int) < (d.tapes.1 : Int) := by omega
  have TT := S3.turn_at nd3 hk (w' := stN W3 g (k * layTape.sz) [.bool true, .slice none 0 0]) (ht := (⟨own_wipedT W3, List.nodup_nil, fun b hb => by (cases hb), ChgL.refl _ _⟩ : Turn layTape W3 (Ls k) W3 wipedT [.bool true, .slice none 0 0] [])) rfl
  have hK : ∀ b, b ∈ g :: catN d.tapes.1 Ls → w1.heap.size ≤ b ∧ b < w2.heap.size := fun b hb => WO.inn b (List.mem_append_right _ (List.mem_append_right _ hb))
  have WO5 := WO.tapes (by omega) (by omega) TT
  have X5 := X3.chgl TT.chg (fun hb => by have := hK _ hb; omega)
  have T5 := T3.chgK TT.chg (fun b hb => by have := hK _ hb; omega)
  have O5 : OwnT layWorld (stN W3 g (k * layTape.sz) [.bool true, .slice none 0 0]) w1.heap.size (stN W3 g (k * layTape.sz) [.bool true, .slice none 0 0]).heap.size (wipeW d k) [.int .i64 (d.shape 0), .int .i64 (d.shape 1), .int .i64 (d.shape 2), .int .i64 (d.shape 3), .int .i64 (d.shape 4), .int .i64 (d.shape 5), .int .i64 (d.shape 6), .int .i64 (d.shape 7), .int .i64 (d.shape 8), .slice p1 d.groups.1 c1, .slice p2 d.on.1 c2, .slice (some ⟨g, 0, none⟩) d.tapes.1 c3, .int .i64 d.writes, .int .i64 d.stop, .bool d.down] := WO5.own
  clear S3 nd3 TT WO5 WO e7 hin
  go_upto_region 8 with fail
  obtain ⟨W5, hW5⟩ : ∃ x, x = stN W3 g (k * layTape.sz) [.bool true, .slice none 0 0] := ⟨_, rfl⟩
  change Code.wp Tryz.prog _ _ _ (stN W3 g (k * layTape.sz) [.bool true, .slice none 0 0])
  rw [← hW5] at X5 T5 O5 ⊢
  have z5 : W5.heap.size = W3.heap.size := by rw [hW5, stN_size]
  clear hW5 X3 T3 y0 y1 f0 f1 x3
  go_wp2_with (first | (refine wp_loadBox 34 (.tmp 6) rfl rfl (w2.heap.size) rfl (cs := [.int .i64 (d.shape 0), .int .i64 (d.shape 1), .int .i64 (d.shape 2), .int .i64 (d.shape 3), .int .i64 (d.shape 4), .int .i64 (d.shape 5), .int .i64 (d.shape 6), .int .i64 (d.shape 7), .int .i64 (d.shape 8), .slice p1 d.groups.1 c1, .slice p2 d.on.1 c2, .slice (some ⟨g, 0, none⟩) d.tapes.1 c3, .int .i64 d.writes, .int .i64 d.stop, .bool d.down]) (X5) Tryz.underlying34 size_W rfl ?_) | (refine wp_storeBox 36 _ _ rfl rfl (w.heap.size + 1) rfl (cs := [.int .i64 0, .int .i64 (d.shape 0), .int .i64 (d.shape 1), .int .i64 (d.shape 2), .int .i64 (d.shape 3), .int .i64 (d.shape 4), .int .i64 (d.shape 5), .int .i64 (d.shape 6), .int .i64 (d.shape 7), .int .i64 (d.shape 8), .slice p1 d.groups.1 c1, .slice p2 d.on.1 c2, .slice (some ⟨g, 0, none⟩) d.tapes.1 c3, .int .i64 d.writes, .int .i64 d.stop, .bool d.down]) (old := [.int .i64 0, .int .i64 0, .int .i64 0, .int .i64 0, .int .i64 0, .int .i64 0, .int .i64 0, .int .i64 0, .int .i64 0, .int .i64 0, .slice none 0 0, .slice none 0 0, .slice none 0 0, .int .i64 0, .int .i64 0, .bool false]) rfl (T5.b2) size_WR rfl rfl ((own_resOf 0 (by decide) O5).one) ?_; intro w9 X9 C9 z9))
  refine ret_box Tryz.results27 rfl X9 Tryz.underlying36 size_WR rfl rfl ?_
  exact post_world (by decide) T5.bel C9 O5 (by omega) (by omega) (.inr ⟨HX.out, .inr ⟨HIN.out, rfl⟩⟩)
end Go.Proofs.YtbmfndjglndnlaaGreat

namespace Go.Proofs.YtbmfndjglndnlaaGreat
open Go.RowKit F256
set_option linter.unusedVariables false
set_option linter.unusedSimpArgs false
theorem isTape_b {t : Int} {b : Bool} (hb : b = true ↔ InP t 0 1) (w : World) : Calls Tryz.prog 70 #[.int .i64 t] w fun e w' => e = .returned (.bool b) ∧ w' = w := by
  have CI := fun w' => inBounds_b (show (0 : Int) ≤ 1 by decide) hb w'
  clear hb
  go_enter Tryz.func70, Tryz.ntmps70
  go_wp2_with fail
  refine (CI _).mono ?_
  rintro e w1 ⟨rfl, e1⟩
  obtain rfl := e1.symm
  go_wp2
  go_ret
  exact ⟨rfl, rfl⟩
set_option maxHeartbeats 32000000 in
set_option maxRecDepth 20000 in
theorem implWipeT_any (d : WorldD) (t : Int) (cs : List Value) (hi : Nat) (w : World) (h : layWorld.rd w hi d cs) (hhi : hi ≤ w.heap.size) (hsz : szWorldD d ≤ 1048576) (ht : -9223372036854775808 ≤ t ∧ t ≤ 9223372036854775807) :
    Calls Tryz.prog 28 #[.agg cs.toArray, .int .i64 t] w (ResPost (WipeTAns d t) w) := by
  have h' := h
  obtain ⟨ao1, cap1, ao2, cap2, ao3, cap3, rfl, g1, g2, g3, k0, k4, k5⟩ := World_rd h'
  have HRD : Hid (layWorld.rd w hi d [.int .i64 (d.shape 0), .int .i64 (d.shape 1), .int .i64 (d.shape 2), .int .i64 (d.shape 3), .int .i64 (d.shape 4), .int .i64 (d.shape 5), .int .i64 (d.shape 6), .int .i64 (d.shape 7), .int .i64 (d.shape 8), .slice ao1 d.groups.1 cap1, .slice ao2 d.on.1 cap2, .slice ao3 d.tapes.1 cap3, .int .i64 d.writes, .int .i64 d.stop, .bool d.down]) := h
  have HSZ : Hid (szWorldD d ≤ 1048576) := hsz
  have Ht : Hid (-9223372036854775808 ≤ t ∧ t ≤ 9223372036854775807) := ht
  clear h h' hsz g1 g2 g3 k0 k4 k5 ht
  have T0 := two_newb w #[.int .i64 (d.shape 0), .int .i64 (d.shape 1), .int .i64 (d.shape 2), .int .i64 (d.shape 3), .int .i64 (d.shape 4), .int .i64 (d.shape 5), .int .i64 (d.shape 6), .int .i64 (d.shape 7), .int .i64 (d.shape 8), .slice ao1 d.groups.1 cap1, .slice ao2 d.on.1 cap2, .slice ao3 d.tapes.1 cap3, .int .i64 d.writes, .int .i64 d.stop, .bool d.down] #[.int .i64 0, .int .i64 0, .int .i64 0, .int .i64 0, .int .i64 0, .int .i64 0, .int .i64 0, .int .i64 0, .int .i64 0, .int .i64 0, .slice none 0 0, .slice none 0 0, .slice none 0 0, .int .i64 0, .int .i64 0, .bool false] 34 36
  go_enter Tryz.func28, Tryz.ntmps28
  go_wp2_with (refine wp_loadBox 34 (.tmp 2) rfl rfl (w.heap.size) rfl (cs := [.int .i64 (d.shape 0), .int .i64 (d.shape 1), .int .i64 (d.shape 2), .int .i64 (d.shape 3), .int .i64 (d.shape 4), .int .i64 (d.shape 5), .int .i64 (d.shape 6), .int .i64 (d.shape 7), .int .i64 (d.shape 8), .slice ao1 d.groups.1 cap1, .slice ao2 d.on.1 cap2, .slice ao3 d.tapes.1 cap3, .int .i64 d.writes, .int .i64 d.stop, .bool d.down]) (T0.b1) Tryz.underlying34 size_W rfl ?_)
  refine (implWorld_any d _ hi _ (layWorld.rd_below HRD.out T0.bel hhi) (Nat.le_trans hhi T0.bel.size) (wld_ok_names HSZ.out)).mono ?_
  rintro e w1 ⟨x, rfl, hx, b1⟩
  have HT1 : Hid (Two w w1 #[.int .i64 (d.shape 0), .int .i64 (d.shape 1), .int .i64 (d.shape 2), .int .i64 (d.shape 3), .int .i64 (d.shape 4), .int .i64 (d.shape 5), .int .i64 (d.shape 6), .int .i64 (d.shape 7), .int .i64 (d.shape 8), .slice ao1 d.groups.1 cap1, .slice ao2 d.on.1 cap2, .slice ao3 d.tapes.1 cap3, .int .i64 d.writes, .int .i64 d.stop, .bool d.down] #[.int .i64 0, .int .i64 0, .int .i64 0, .int .i64 0, .int .i64 0, .int .i64 0, .int .i64 0, .int .i64 0, .int .i64 0, .int .i64 0, .slice none 0 0, .slice none 0 0, .slice none 0 0, .int .i64 0, .int .i64 0, .bool false] 34 36) := T0.call b1
  have HX : Hid (WldAns d x) := hx
  have z1 : w.heap.size + 1 < w1.heap.size := HT1.out.b2.lt
  clear b1 T0 hx
  by_cases hx0 : x = 0
  case neg =>
    have hne : (x != 0) = true := by simp [hx0]
    go_wp2_with (refine wp_storeBox 36 _ _ rfl rfl (w.heap.size + 1) rfl (cs := [.int .i64 x, .int .i64 0, .int .i64 0, .int .i64 0, .int .i64 0, .int .i64 0, .int .i64 0, .int .i64 0, .int .i64 0, .int .i64 0, .slice none 0 0, .slice none 0 0, .slice none 0 0, .int .i64 0, .int .i64 0, .bool false]) (old := [.int .i64 0, .int .i64 0, .int .i64 0, .int .i64 0, .int .i64 0, .int .i64 0, .int .i64 0, .int .i64 0, .int .i64 0, .int .i64 0, .slice none 0 0, .slice none 0 0, .slice none 0 0, .int .i64 0, .int .i64 0, .bool false]) rfl (HT1.out.b2) size_WR rfl rfl (code_one _ (wld_small HX.out) w) ?_; intro w9 X9 C9 z9)
    refine ret_box Tryz.results28 rfl X9 Tryz.underlying36 size_WR rfl rfl ?_
    exact post_code (wld_small HX.out) HT1.out.bel C9 (.inl ⟨x, hx0, HX.out, rfl⟩)
  subst hx0
  have HOK : Hid (OkWorld d) := WldAns.ok HX.out
  obtain ⟨b, hb⟩ := exB (InP t 0 1)
  have Hb : Hid (b = true ↔ InP t 0 1) := hb
  have CI := fun w' => isTape_b hb w'
  clear hb
  go_wp2_with fail
  refine (CI _).mono ?_
  rintro e w1' ⟨rfl, e1⟩
  obtain rfl := e1.symm
  clear CI
  cases b with
  | false =>
    go_wp2_with (refine wp_storeBox 36 _ _ rfl rfl (w.heap.size + 1) rfl (cs := [.int .i64 3, .int .i64 0, .int .i64 0, .int .i64 0, .int .i64 0, .int .i64 0, .int .i64 0, .int .i64 0, .int .i64 0, .int .i64 0, .slice none 0 0, .slice none 0 0, .slice none 0 0, .int .i64 0, .int .i64 0, .bool false]) (old := [.int .i64 0, .int .i64 0, .int .i64 0, .int .i64 0, .int .i64 0, .int .i64 0, .int .i64 0, .int .i64 0, .int .i64 0, .int .i64 0, .slice none 0 0, .slice none 0 0, .slice none 0 0, .int .i64 0, .int .i64 0, .bool false]) rfl (HT1.out.b2) size_WR rfl rfl (code_one _ (by decide) w) ?_; intro w9 X9 C9 z9)
    refine ret_box Tryz.results28 rfl X9 Tryz.underlying36 size_WR rfl rfl ?_
    exact post_code (by decide) HT1.out.bel C9 (.inr ⟨HX.out, .inl ⟨fun h => (by have := Hb.out.2 h; cases this), rfl⟩⟩)
  | true =>
  go_wp2_with (refine wp_loadBox 34 (.tmp 2) rfl rfl (w.heap.size) rfl (cs := [.int .i64 (d.shape 0), .int .i64 (d.shape 1), .int .i64 (d.shape 2), .int .i64 (d.shape 3), .int .i64 (d.shape 4), .int .i64 (d.shape 5), .int .i64 (d.shape 6), .int .i64 (d.shape 7), .int .i64 (d.shape 8), .slice ao1 d.groups.1 cap1, .slice ao2 d.on.1 cap2, .slice ao3 d.tapes.1 cap3, .int .i64 d.writes, .int .i64 d.stop, .bool d.down]) (HT1.out.b1) Tryz.underlying34 size_W rfl ?_)
  refine (copyWorld_is _ d hi _ (layWorld.rd_below HRD.out HT1.out.bel hhi) (Nat.le_trans hhi HT1.out.bel.size) HSZ.out).mono ?_
  rintro e w2 ⟨c2, rfl, o2, b2⟩
  obtain ⟨p1, c1, p2, c2, p3, c3, K1, K2, K3, rfl, WO2⟩ := world_open o2
  have z2 : w1.heap.size ≤ w2.heap.size := b2.size
  go_upto_region 7 with (refine wp_allocStore 34 6 (.tmp 18) [.int .i64 (d.shape 0), .int .i64 (d.shape 1), .int .i64 (d.shape 2), .int .i64 (d.shape 3), .int .i64 (d.shape 4), .int .i64 (d.shape 5), .int .i64 (d.shape 6), .int .i64 (d.shape 7), .int .i64 (d.shape 8), .slice p1 d.groups.1 c1, .slice p2 d.on.1 c2, .slice p3 d.tapes.1 c3, .int .i64 d.writes, .int .i64 d.stop, .bool d.down] _ 15 rfl rfl rfl rfl rfl rfl rfl rfl info_W rfl rfl o2.one ?_)
  have bA : Below w2.heap.size w2 (w2.alloc (.cells #[.int .i64 (d.shape 0), .int .i64 (d.shape 1), .int .i64 (d.shape 2), .int .i64 (d.shape 3), .int .i64 (d.shape 4), .int .i64 (d.shape 5), .int .i64 (d.shape 6), .int .i64 (d.shape 7), .int .i64 (d.shape 8), .slice p1 d.groups.1 c1, .slice p2 d.on.1 c2, .slice p3 d.tapes.1 c3, .int .i64 d.writes, .int .i64 d.stop, .bool d.down] 34)) := (Below.refl _ _).alloc (Nat.le_refl _) _
  have X3 : Box (w2.alloc (.cells #[.int .i64 (d.shape 0), .int .i64 (d.shape 1), .int .i64 (d.shape 2), .int .i64 (d.shape 3), .int .i64 (d.shape 4), .int .i64 (d.shape 5), .int .i64 (d.shape 6), .int .i64 (d.shape 7), .int .i64 (d.shape 8), .slice p1 d.groups.1 c1, .slice p2 d.on.1 c2, .slice p3 d.tapes.1 c3, .int .i64 d.writes, .int .i64 d.stop, .bool d.down] 34)) w2.heap.size #[.int .i64 (d.shape 0), .int .i64 (d.shape 1), .int .i64 (d.shape 2), .int .i64 (d.shape 3), .int .i64 (d.shape 4), .int .i64 (d.shape 5), .int .i64 (d.shape 6), .int .i64 (d.shape 7), .int .i64 (d.shape 8), .slice p1 d.groups.1 c1, .slice p2 d.on.1 c2, .slice p3 d.tapes.1 c3, .int .i64 d.writes, .int .i64 d.stop, .bool d.down] 34 := box_new _ _ _
  obtain ⟨W3, hW3⟩ : ∃ x, x = w2.alloc (.cells #[.int .i64 (d.shape 0), .int .i64 (d.shape 1), .int .i64 (d.shape 2), .int .i64 (d.shape 3), .int .i64 (d.shape 4), .int .i64 (d.shape 5), .int .i64 (d.shape 6), .int .i64 (d.shape 7), .int .i64 (d.shape 8), .slice p1 d.groups.1 c1, .slice p2 d.on.1 c2, .slice p3 d.tapes.1 c3, .int .i64 d.writes, .int .i64 d.stop, .bool d.down] 34) := ⟨_, rfl⟩
  rw [← hW3] at bA X3 ⊢
  have T3 := (HT1.out.call b2).call bA
  have WO := WO2.below bA (Nat.le_refl _)
  have z3 : w2.heap.size < W3.heap.size := X3.lt
  clear bA hW3 o2 b2 WO2
  have hin : InP t 0 1 := Hb.out.1 (by simp)
  obtain ⟨k, rfl⟩ : ∃ k : Nat, t = (k : Int) := ⟨t.toNat, by have := hin.1; omega⟩
  have HIN : Hid (InP (k : Int) 0 1) := hin
  have hk : k < d.tapes.1 := by rw [HOK.out.form.2.2]; have := hin.2; omega
  obtain ⟨g, cap, ce, Ls, e3, eL, S3⟩ := slice_form WO.t (by omega)
  simp only [List.cons.injEq, Value.slice.injEq, and_true, true_and] at e3
  obtain ⟨rfl, rfl⟩ := e3
  subst eL
  have nd3 : (g :: catN d.tapes.1 Ls).Nodup := (List.nodup_append.1 (List.nodup_append.1 WO.nd).2.1).2.1
  obtain ⟨ao7, cap7, K7, e7, -, -⟩ := Tape_own (S3.each k hk)
  have y0 : W3.cell? ⟨g, k * 2, none⟩ = some (.bool (d.tapes.2 k).wiped) := (S3.cell hk (j := 0) (by decide)).trans (by rw [e7]; rfl)
  have y1 : W3.cell? ⟨g, k * 2 + 1, none⟩ = some (.slice ao7 (d.tapes.2 k).recs.1 cap7) := (S3.cell hk (j := 1) (by decide)).trans (by rw [e7]; rfl)
  have f0 : W3.frozen? ⟨g, k * 2, none⟩ = false := S3.frozen _
  have f1 : W3.frozen? ⟨g, k * 2 + 1, none⟩ = false := S3.frozen _
  have x3 : W3.cell? ⟨w2.heap.size, 11, none⟩ = some (.slice (some ⟨g, 0, none⟩) d.tapes.1 c3) := X3.cell 11
  have i1 : (0 : Int) ≤ (k : Int) := by omega
  have i2 : (k : Int) < (d.tapes.1 : Int) := by omega
  have TT := S3.turn_at nd3 hk (w' := stN W3 g (k * layTape.sz) [.bool true, .slice none 0 0]) (ht := (⟨own_wipedT W3, List.nodup_nil, fun b hb => by (cases hb), ChgL.refl _ _⟩ : Turn layTape W3 (Ls k) W3 wipedT [.bool true, .slice none 0 0] [])) rfl
  have hK : ∀ b, b ∈ g :: catN d.tapes.1 Ls → w1.heap.size ≤ b ∧ b < w2.heap.size := fun b hb => WO.inn b (List.mem_append_right _ (List.mem_append_right _ hb))
  have WO5 := WO.tapes (by omega) (by omega) TT
  have X5 := X3.chgl TT.chg (fun hb => by have := hK _ hb; omega)
  have T5 := T3.chgK TT.chg (fun b hb => by have := hK _ hb; omega)
  have O5 : OwnT layWorld (stN W3 g (k * layTape.sz) [.bool true, .slice none 0 0]) w1.heap.size (stN W3 g (k * layTape.sz) [.bool true, .slice none 0 0]).heap.size (wipeW d k) [.int .i64 (d.shape 0), .int .i64 (d.shape 1), .int .i64 (d.shape 2), .int .i64 (d.shape 3), .int .i64 (d.shape 4), .int .i64 (d.shape 5), .int .i64 (d.shape 6), .int .i64 (d.shape 7), .int .i64 (d.shape 8), .slice p1 d.groups.1 c1, .slice p2 d.on.1 c2, .slice (some ⟨g, 0, none⟩) d.tapes.1 c3, .int .i64 d.writes, .int .i64 d.stop, .bool d.down] := WO5.own
  clear S3 nd3 TT WO5 WO e7 hin
  go_upto_region 8 with fail
  obtain ⟨W5, hW5⟩ : ∃ x, x = stN W3 g (k * layTape.sz) [.bool true, .slice none 0 0] := ⟨_, rfl⟩
  change Code.wp Tryz.prog _ _ _ (stN W3 g (k * layTape.sz) [.bool true, .slice none 0 0])
  rw [← hW5] at X5 T5 O5 ⊢
  have z5 : W5.heap.size = W3.heap.size := by rw [hW5, stN_size]
  clear hW5 X3 T3 y0 y1 f0 f1 x3
  go_wp2_with (first | (refine wp_loadBox 34 (.tmp 6) rfl rfl (w2.heap.size) rfl (cs := [.int .i64 (d.shape 0), .int .i64 (d.shape 1), .int .i64 (d.shape 2), .int .i64 (d.shape 3), .int .i64 (d.shape 4), .int .i64 (d.shape 5), .int .i64 (d.shape 6), .int .i64 (d.shape 7), .int .i64 (d.shape 8), .slice p1 d.groups.1 c1, .slice p2 d.on.1 c2, .slice (some ⟨g, 0, none⟩) d.tapes.1 c3, .int .i64 d.writes, .int .i64 d.stop, .bool d.down]) (X5) Tryz.underlying34 size_W rfl ?_) | (refine wp_storeBox 36 _ _ rfl rfl (w.heap.size + 1) rfl (cs := [.int .i64 0, .int .i64 (d.shape 0), .int .i64 (d.shape 1), .int .i64 (d.shape 2), .int .i64 (d.shape 3), .int .i64 (d.shape 4), .int .i64 (d.shape 5), .int .i64 (d.shape 6), .int .i64 (d.shape 7), .int .i64 (d.shape 8), .slice p1 d.groups.1 c1, .slice p2 d.on.1 c2, .slice (some ⟨g, 0, none⟩) d.tapes.1 c3, .int .i64 d.writes, .int .i64 d.stop, .bool d.down]) (old := [.int .i64 0, .int .i64 0, .int .i64 0, .int .i64 0, .int .i64 0, .int .i64 0, .int .i64 0, .int .i64 0, .int .i64 0, .int .i64 0, .slice none 0 0, .slice none 0 0, .slice none 0 0, .int .i64 0, .int .i64 0, .bool false]) rfl (T5.b2) size_WR rfl rfl ((own_resOf 0 (by decide) O5).one) ?_; intro w9 X9 C9 z9))
  refine ret_box Tryz.results28 rfl X9 Tryz.underlying36 size_WR rfl rfl ?_
  exact post_world (by decide) T5.bel C9 O5 (by omega) (by omega) (.inr ⟨HX.out, .inr ⟨HIN.out, rfl⟩⟩)
end Go.Proofs.YtbmfndjglndnlaaGreat
