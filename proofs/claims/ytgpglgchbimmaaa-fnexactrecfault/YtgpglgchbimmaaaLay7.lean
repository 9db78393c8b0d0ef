/- Structs in boxes, elements of owned slices laid open: what the walks of the helpers lean on. -/
import Derived.Test.YtgpglgchbimmaaaLay6
namespace Go.Proofs.Ytgpglgchbimmaaa
open Go.RowKit F256
set_option linter.unusedVariables false

/-- the form of a slice's cell -/
theorem bytes_form {w : World} {hi : Nat} {p : Nat × (Nat → Nat)} {c : List Value} (h : layBytes.rd w hi p c) : ∃ ao cap, c = [.slice ao p.1 cap] := by
  obtain ⟨v, rfl, ⟨ao, cap, rfl, _⟩, _⟩ := h
  exact ⟨ao, cap, rfl⟩
theorem ints_form {w : World} {hi : Nat} {p : Nat × (Nat → Int)} {c : List Value} (h : layInts.rd w hi p c) : ∃ ao cap, c = [.slice ao p.1 cap] := by
  obtain ⟨v, rfl, ⟨⟨ao, cap, rfl, _⟩, _⟩, _⟩ := h
  exact ⟨ao, cap, rfl⟩
theorem sl_form {α : Type} {E : Lay α} {t : TypeId} {w : World} {hi : Nat} {p : Nat × (Nat → α)} {c : List Value} (h : (E.slice t).rd w hi p c) : ∃ ao cap, c = [.slice ao p.1 cap] := by
  obtain ⟨ao, cap, rfl, _⟩ := h
  exact ⟨ao, cap, rfl⟩
theorem bytes_formO {w : World} {p : Nat × (Nat → Nat)} {c : List Value} {L : List Nat} (h : layBytes.own w p c L) : ∃ ao cap, c = [.slice ao p.1 cap] := bytes_form (layBytes.own_rd (hi := w.heap.size) h (layBytes.own_lt h))
theorem ints_formO {w : World} {p : Nat × (Nat → Int)} {c : List Value} {L : List Nat} (h : layInts.own w p c L) : ∃ ao cap, c = [.slice ao p.1 cap] := ints_form (layInts.own_rd (hi := w.heap.size) h (layInts.own_lt h))
theorem sl_formO {α : Type} {E : Lay α} {t : TypeId} {w : World} {p : Nat × (Nat → α)} {c : List Value} {L : List Nat} (h : (E.slice t).own w p c L) : ∃ ao cap, c = [.slice ao p.1 cap] := sl_form ((E.slice t).own_rd (hi := w.heap.size) h ((E.slice t).own_lt h))
theorem bytes_formT {w : World} {lo hi : Nat} {p : Nat × (Nat → Nat)} {c : List Value} (h : OwnT layBytes w lo hi p c) : ∃ ao cap, c = [.slice ao p.1 cap] := bytes_form h.rd
theorem ints_formT {w : World} {lo hi : Nat} {p : Nat × (Nat → Int)} {c : List Value} (h : OwnT layInts w lo hi p c) : ∃ ao cap, c = [.slice ao p.1 cap] := ints_form h.rd
theorem sl_formT {α : Type} {E : Lay α} {t : TypeId} {w : World} {lo hi : Nat} {p : Nat × (Nat → α)} {c : List Value} (h : OwnT (E.slice t) w lo hi p c) : ∃ ao cap, c = [.slice ao p.1 cap] := sl_form h.rd
theorem one_eq {v : Value} {u : Value} (h : [v] = [u]) : v = u := by simpa using h

/-- composing what is owned -/
theorem OwnT.two {α β : Type} {A : Lay α} {B : Lay β} {w : World} {l1 e1 l2 e2 : Nat} {a : α} {b : β} {c d : List Value} (h1 : OwnT A w l1 e1 a c) (h2 : OwnT B w l2 e2 b d) (h : e1 ≤ l2) (h3 : l1 ≤ l2) (h4 : e1 ≤ e2) : OwnT (A.two B) w l1 e2 (a, b) (c ++ d) := by
  obtain ⟨K, a1, a2, a3⟩ := h1
  obtain ⟨M, b1, b2, b3⟩ := h2
  refine ⟨K ++ M, ⟨c, d, K, M, rfl, rfl, a1, b1⟩, List.nodup_append.2 ⟨a2, b2, fun x hx y hy hh => ?_⟩, fun x hx => ?_⟩
  · subst hh
    have := a3 x hx
    have := b3 x hy
    omega
  · rcases List.mem_append.1 hx with h | h
    · have := a3 x h; omega
    · have := b3 x h; omega
/-- a value that holds no memory ahead -/
theorem OwnT.pre {α β : Type} {A : Lay α} {B : Lay β} {w : World} {l e : Nat} {a : α} {b : β} {c d : List Value} (h1 : A.own w a c []) (h2 : OwnT B w l e b d) : OwnT (A.two B) w l e (a, b) (c ++ d) := by
  obtain ⟨M, b1, b2, b3⟩ := h2
  exact ⟨M, ⟨c, d, [], M, rfl, rfl, h1, b1⟩, b2, b3⟩
theorem OwnT.nil {α : Type} {A : Lay α} {w : World} {a : α} {c : List Value} (h : A.own w a c []) (l e : Nat) : OwnT A w l e a c := ⟨[], h, List.nodup_nil, fun b hb => by cases hb⟩
theorem OwnT.set {α : Type} {A : Lay α} {w : World} {lo hi b j : Nat} {u : Value} {a : α} {cs : List Value} (h : OwnT A w lo hi a cs) (hb : b < lo) : OwnT A (w.setCell ⟨b, j, none⟩ u) lo hi a cs :=
  h.chg (out_store w b (b + 1) b j u (Nat.le_refl _) (Nat.lt_succ_self _)).chg (.inr hb)
theorem OwnT.call {α : Type} {A : Lay α} {w w' : World} {lo hi : Nat} {a : α} {cs : List Value} (h : OwnT A w lo hi a cs) (hb : Below w.heap.size w w') : OwnT A w' lo hi a cs := by
  obtain ⟨L, h1, h2, h3⟩ := h
  exact ⟨L, A.own_kept h1 (fun b hb' => hb.block b (A.own_lt h1 b hb')), h2, h3⟩
theorem OwnT.conv {α β : Type} {A : Lay α} {to : β → α} {w : World} {lo hi : Nat} {b : β} {cs : List Value} (h : OwnT A w lo hi (to b) cs) : OwnT (A.as to) w lo hi b cs := h

theorem OwnT.stN {α : Type} {A : Lay α} {w : World} {lo hi : Nat} {a : α} {cs : List Value} (h : OwnT A w lo hi a cs) (b off : Nat) (l : List Value) (hb : b < lo) : OwnT A (stN w b off l) lo hi a cs := by
  obtain ⟨L, h1, h2, h3⟩ := h
  exact ⟨L, A.own_kept h1 (fun k hk => stN_heap b k (by have := h3 k hk; omega) l w off), h2, h3⟩
/-- stored into two boxes ahead -/
theorem OwnT.fin {α : Type} {A : Lay α} {w : World} {s : Nat} {a : α} {cs : List Value} (h : OwnT A w (s + 1 + 1 + 1) w.heap.size a cs) (o1 o2 : Nat) (l1 l2 : List Value) (w' : World) (e : w' = Go.Proofs.Ytgpglgchbimmaaa.stN (Go.Proofs.Ytgpglgchbimmaaa.stN w (s + 1 + 1) o1 l1) (s + 1) o2 l2) : OwnT A w' s w'.heap.size a cs := by
  subst e
  exact ((h.stN (s + 1 + 1) o1 l1 (by omega)).stN (s + 1) o2 l2 (by omega)).weaken (by omega) (by rw [stN_size, stN_size]; exact Nat.le_refl _)
theorem below_fin {w0 w : World} {s : Nat} (h : Below s w0 w) (o1 o2 : Nat) (l1 l2 : List Value) (w' : World) (e : w' = Go.Proofs.Ytgpglgchbimmaaa.stN (Go.Proofs.Ytgpglgchbimmaaa.stN w (s + 1 + 1) o1 l1) (s + 1) o2 l2) : Below s w0 w' := by
  subst e
  exact (h.trans (stN_below (by omega) _ _)).trans (stN_below (by omega) _ _)
theorem below_set {B b j : Nat} {a w : World} {u : Value} (h : Below B a w) (hb : B ≤ b) : Below B a (w.setCell ⟨b, j, none⟩ u) := h.setCell hb _
theorem Box.setc {w : World} {b : Nat} {cs : Array Value} {t : TypeId} (h : Box w b cs t) (j : Nat) (u : Value) : Box (w.setCell ⟨b, j, none⟩ u) b (cs.setIfInBounds j u) t := by
  unfold Box at h ⊢
  have hlt := (Array.getElem?_eq_some_iff.1 h).1
  have he := (Array.getElem?_eq_some_iff.1 h).2
  simp [World.setCell, hlt, Array.getElem_modify, he]
theorem Box.seto {w : World} {b b' : Nat} {cs : Array Value} {t : TypeId} (h : Box w b cs t) (j : Nat) (u : Value) (hne : b ≠ b') : Box (w.setCell ⟨b', j, none⟩ u) b cs t := (heap_setCell_other w ⟨b', j, none⟩ b u hne).trans h
theorem Box.stL : ∀ (l : List Value) {w : World} {b : Nat} {cs : Array Value} {t : TypeId} (off : Nat), Box w b cs t → Box (Go.Proofs.Ytgpglgchbimmaaa.stN w b off l) b (setL cs.toList off l).toArray t
  | [], w, b, cs, t, off, h => by simpa [Go.Proofs.Ytgpglgchbimmaaa.stN, setL] using h
  | c :: l, w, b, cs, t, off, h => by
    have h1 := Box.stL l (off + 1) (h.setc off c)
    rw [Array.toList_setIfInBounds] at h1
    exact h1
theorem Box.call {w w' : World} {b : Nat} {cs : Array Value} {t : TypeId} (h : Box w b cs t) (hb : Below w.heap.size w w') : Box w' b cs t := h.below hb h.lt

/-- a parameter's box -/
structure One (w wc : World) (c1 : Array Value) (t1 : TypeId) : Prop where
  b1 : Box wc w.heap.size c1 t1
  bel : Below w.heap.size w wc
theorem one_new (w : World) (c1 : Array Value) (t1 : TypeId) : One w (w.alloc (.cells c1 t1)) c1 t1 := ⟨box_new _ _ _, (Below.refl _ _).alloc (Nat.le_refl _) _⟩
theorem One.call {w wc w' : World} {c1 : Array Value} {t1 : TypeId} (h : One w wc c1 t1) (hb : Below wc.heap.size wc w') : One w w' c1 t1 := ⟨h.b1.call hb, h.bel.trans (hb.mono h.bel.size)⟩
/-- two parameters' boxes -/
structure Two (w wc : World) (c1 c2 : Array Value) (t1 t2 : TypeId) : Prop where
  b1 : Box wc w.heap.size c1 t1
  b2 : Box wc (w.heap.size + 1) c2 t2
  bel : Below w.heap.size w wc
theorem two_newb (w : World) (c1 c2 : Array Value) (t1 t2 : TypeId) : Two w ((w.alloc (.cells c1 t1)).alloc (.cells c2 t2)) c1 c2 t1 t2 := by
  have h := box_new (w.alloc (.cells c1 t1)) c2 t2
  have e : (w.alloc (.cells c1 t1)).heap.size = w.heap.size + 1 := by simp
  rw [e] at h
  exact ⟨((box_new w c1 t1).below (B := w.heap.size + 1) ((Below.refl _ _).alloc (by simp) _) (by omega)), h, ((Below.refl _ _).alloc (Nat.le_refl _) _).alloc (by simp) _⟩
theorem Two.call {w wc w' : World} {c1 c2 : Array Value} {t1 t2 : TypeId} (h : Two w wc c1 c2 t1 t2) (hb : Below wc.heap.size wc w') : Two w w' c1 c2 t1 t2 := ⟨h.b1.call hb, h.b2.call hb, h.bel.trans (hb.mono h.bel.size)⟩
/-- a parameter's box, a result's, a variable's -/
structure Three (w wc : World) (c1 c2 c3 : Array Value) (t1 t2 t3 : TypeId) : Prop where
  b1 : Box wc w.heap.size c1 t1
  b2 : Box wc (w.heap.size + 1) c2 t2
  b3 : Box wc (w.heap.size + 1 + 1) c3 t3
  bel : Below w.heap.size w wc
theorem three_newb (w : World) (c1 c2 c3 : Array Value) (t1 t2 t3 : TypeId) : Three w (((w.alloc (.cells c1 t1)).alloc (.cells c2 t2)).alloc (.cells c3 t3)) c1 c2 c3 t1 t2 t3 := by
  have e1 : (w.alloc (.cells c1 t1)).heap.size = w.heap.size + 1 := by simp
  have e2 : ((w.alloc (.cells c1 t1)).alloc (.cells c2 t2)).heap.size = w.heap.size + 1 + 1 := by simp
  have k1 := box_new w c1 t1
  have k2 := box_new (w.alloc (.cells c1 t1)) c2 t2
  have k3 := box_new ((w.alloc (.cells c1 t1)).alloc (.cells c2 t2)) c3 t3
  rw [e1] at k2
  rw [e2] at k3
  have a2 : Below (w.heap.size + 1) (w.alloc (.cells c1 t1)) ((w.alloc (.cells c1 t1)).alloc (.cells c2 t2)) := (Below.refl _ _).alloc (by simp) _
  have a3 : Below (w.heap.size + 1 + 1) ((w.alloc (.cells c1 t1)).alloc (.cells c2 t2)) (((w.alloc (.cells c1 t1)).alloc (.cells c2 t2)).alloc (.cells c3 t3)) := (Below.refl _ _).alloc (by simp) _
  exact ⟨(k1.below a2 (by omega)).below a3 (by omega), k2.below a3 (by omega), k3, (((Below.refl _ _).alloc (Nat.le_refl _) _).alloc (by simp) _).alloc (by simp <;> omega) _⟩
section
variable {w wc w' : World} {c1 c2 c3 : Array Value} {t1 t2 t3 : TypeId}
theorem Three.call (h : Three w wc c1 c2 c3 t1 t2 t3) (hb : Below wc.heap.size wc w') : Three w w' c1 c2 c3 t1 t2 t3 := ⟨h.b1.call hb, h.b2.call hb, h.b3.call hb, h.bel.trans (hb.mono h.bel.size)⟩
theorem Three.set3 (h : Three w wc c1 c2 c3 t1 t2 t3) (j : Nat) (u : Value) : Three w (wc.setCell ⟨w.heap.size + 1 + 1, j, none⟩ u) c1 c2 (c3.setIfInBounds j u) t1 t2 t3 :=
  ⟨h.b1.seto _ _ (by omega), h.b2.seto _ _ (by omega), h.b3.setc j u, h.bel.setCell (by show w.heap.size ≤ w.heap.size + 1 + 1; omega) _⟩
theorem Three.st3 (h : Three w wc c1 c2 c3 t1 t2 t3) (off : Nat) (l : List Value) {c3' : List Value} (e : setL c3.toList off l = c3') : Three w (Go.Proofs.Ytgpglgchbimmaaa.stN wc (w.heap.size + 1 + 1) off l) c1 c2 c3'.toArray t1 t2 t3 := by
  subst e
  refine ⟨?_, ?_, h.b3.stL l off, h.bel.trans (stN_below (by omega) _ _)⟩
  · exact (stN_heap _ _ (by omega) l wc off).trans h.b1
  · exact (stN_heap _ _ (by omega) l wc off).trans h.b2
theorem Three.lt (h : Three w wc c1 c2 c3 t1 t2 t3) : w.heap.size + 1 + 1 + 1 ≤ wc.heap.size := h.b3.lt
end

/-- the element k of an owned slice, laid open: its value a, its cells cs -/
def SlK {α : Type} (E : Lay α) (t : TypeId) (w : World) (g cap n : Nat) (x : Nat → α) (ce : Nat → List Value) (Ls : Nat → List Nat) (k : Nat) (a : α) (cs : List Value) : Prop := SlO E t w g cap n (upd x k a) (upd ce k cs) Ls
theorem upd_self {β : Type} (f : Nat → β) (i : Nat) : upd f i (f i) = f := by
  funext k
  by_cases c : k = i
  · subst c; rw [upd_at]
  · rw [upd_ne f _ c]
theorem upd_upd {β : Type} (f : Nat → β) (i : Nat) (a b : β) : upd (upd f i a) i b = upd f i b := by
  funext k
  by_cases c : k = i
  · subst c; rw [upd_at, upd_at]
  · rw [upd_ne _ _ c, upd_ne _ _ c, upd_ne _ _ c]
section
variable {α : Type} {E : Lay α} {t : TypeId} {w w' : World} {g cap n : Nat} {x : Nat → α} {ce : Nat → List Value} {Ls : Nat → List Nat} {k : Nat} {a a' : α} {cs : List Value}
theorem SlO.at_ (h : SlO E t w g cap n x ce Ls) (k : Nat) : SlK E t w g cap n x ce Ls k (x k) (ce k) := by
  unfold SlK
  rw [upd_self, upd_self]
  exact h
theorem SlK.cell (h : SlK E t w g cap n x ce Ls k a cs) (hk : k < n) {j : Nat} (hj : j < E.sz) : w.cell? ⟨g, k * E.sz + j, none⟩ = cs[j]? := by
  have := SlO.cell h hk hj
  rw [upd_at] at this
  exact this
theorem SlK.frozen (h : SlK E t w g cap n x ce Ls k a cs) (j : Nat) : w.frozen? ⟨g, j, none⟩ = false := SlO.frozen h j
theorem SlK.own (h : SlK E t w g cap n x ce Ls k a cs) (hk : k < n) : E.own w a cs (Ls k) := by
  have := SlO.each h k hk
  rw [upd_at, upd_at] at this
  exact this
theorem SlK.store (h : SlK E t w g cap n x ce Ls k a cs) (nd : (g :: catN n Ls).Nodup) (hk : k < n) {j : Nat} (hj : j < E.sz) (u : Value) (ha : E.own w a' (cs.set j u) (Ls k)) :
    SlK E t (w.setCell ⟨g, k * E.sz + j, none⟩ u) g cap n x ce Ls k a' (cs.set j u) := by
  have := SlO.store (a' := a') h nd hk hj u (by rw [upd_at]; exact ha)
  rw [upd_at, upd_upd, upd_upd] at this
  exact this
theorem SlK.into (h : SlK E t w g cap n x ce Ls k a cs) (nd : (g :: catN n Ls).Nodup) (hk : k < n) (hc : ChgL (Ls k) w w') (ha : E.own w' a' cs (Ls k)) : SlK E t w' g cap n x ce Ls k a' cs := by
  have := SlO.into (a' := a') h nd hk hc (by rw [upd_at]; exact ha)
  rw [upd_upd] at this
  exact this
theorem SlO.sub (k : Nat) (hk : k < n) : ∀ b, b ∈ Ls k → b ∈ g :: catN n Ls := fun b hb => List.mem_cons_of_mem _ (mem_catN.2 ⟨k, hk, hb⟩)
theorem nodup_at (nd : (g :: catN n Ls).Nodup) (k : Nat) (hk : k < n) : (Ls k).Nodup := by
  have h := (List.nodup_cons.1 nd).2
  clear nd
  induction n with
  | zero => omega
  | succ n ih =>
    rw [catN_succ] at h
    obtain ⟨h1, h2, _⟩ := List.nodup_append.1 h
    by_cases c : k = n
    · subst c; exact h2
    · exact ih (by omega) h1
theorem slice_congr {p q : Nat × (Nat → α)} {L : List Nat} (h : (E.slice t).own w p cs L) (e : p.1 = q.1) (hx : ∀ i, i < p.1 → p.2 i = q.2 i) : (E.slice t).own w q cs L := by
  obtain ⟨v, ce, Ls, h1, h2, h3, h4⟩ := h
  exact ⟨v, ce, Ls, h1, by rw [← e]; exact h2, by rw [← e]; exact h3, fun i hi => by rw [← hx i (by omega)]; exact h4 i (by omega)⟩
theorem SlO.congr {y : Nat → α} (h : SlO E t w g cap n x ce Ls) (hx : ∀ i, i < n → x i = y i) : SlO E t w g cap n y ce Ls := ⟨h.row, fun i hi => by rw [← hx i hi]; exact h.each i hi⟩
end
/-- the first k elements are marked -/
def mkTo {α : Type} (c : α → Nat) (mk : Nat → α → α) (j : Nat) (x : Nat → α) (k : Nat) : Nat → α := fun i => if i < k then mk (j + sumN (fun i => c (x i)) i) (x i) else x i
theorem mkTo_at {α : Type} (c : α → Nat) (mk : Nat → α → α) (j : Nat) (x : Nat → α) (k : Nat) : mkTo c mk j x k k = x k := by simp [mkTo]
theorem mkTo_next {α : Type} (c : α → Nat) (mk : Nat → α → α) (j : Nat) (x : Nat → α) (k : Nat) : upd (mkTo c mk j x k) k (mk (j + sumN (fun i => c (x i)) k) (x k)) = mkTo c mk j x (k + 1) := by
  funext i
  by_cases h : i = k
  · subst h; rw [upd_at]; simp [mkTo]
  · rw [upd_ne _ _ h]
    unfold mkTo
    by_cases h2 : i < k
    · rw [if_pos h2, if_pos (by omega)]
    · rw [if_neg h2, if_neg (by omega)]
theorem mkTo_zero {α : Type} (c : α → Nat) (mk : Nat → α → α) (j : Nat) (x : Nat → α) : mkTo c mk j x 0 = x := by
  funext i
  simp [mkTo]
theorem mkTo_done {α : Type} (c : α → Nat) (mk : Nat → α → α) (j : Nat) (x : Nat → α) (n i : Nat) (h : i < n) : mkTo c mk j x n i = (mkSl c mk j (n, x)).2 i := by simp [mkTo, mkSl, h]

theorem SlP.some {α : Type} {E : Lay α} {t : TypeId} {w w' : World} {lo g cap n k : Nat} {x : Nat → α} {ce : Nat → List Value} {Ls : Nat → List Nat} (h : SlP E t w lo g cap n k x ce Ls) (hb : Below w.heap.size w w') {i j : Nat} (hi : i < n) (hj : j < E.sz) : ∃ u, w'.cell? ⟨g, i * E.sz + j, none⟩ = some u := by
  have h' := h.below hb
  rw [h'.cell hi hj]
  exact ⟨_, List.getElem?_eq_getElem (by rw [h'.lens i hi]; exact hj)⟩
theorem SlP.next {α : Type} {E : Lay α} {t : TypeId} {w1 w : World} {lo g cap n k : Nat} {x : Nat → α} {ce : Nat → List Value} {Ls : Nat → List Nat} (h1 : SlP E t w1 lo g cap n k x ce Ls) (hb : Below w1.heap.size w1 w) (hk : k < n) {cs : List Value} (ha : OwnT E w w1.heap.size w.heap.size (x k) cs) (hlo : lo ≤ w1.heap.size) :
    ∃ ce' Ls', SlP E t (stN w g (k * E.sz) cs) lo g cap n (k + 1) x ce' Ls' := by
  obtain ⟨K, a1, a2, a3⟩ := ha
  have := h1.lay hb hk a1 a2 (fun b hb => (a3 b hb).1) hlo
  rw [upd_self] at this
  exact ⟨_, _, this⟩
/-- an element of what can be read -/
theorem elem_rd {α : Type} {E : Lay α} {t : TypeId} {w wr : World} {hi n : Nat} {x : Nat → α} {b off : Nat} (hel : ∀ i, i < n → ∃ ce, E.rd w hi (x i) ce ∧ ∀ j, j < E.sz → w.cell? ⟨b, off + (i * E.sz + j), none⟩ = ce[j]?) (hb : Below w.heap.size w wr) (hhi : hi ≤ w.heap.size) (hbh : b < hi) {k : Nat} (hk : k < n) :
    ∃ ce, E.rd wr hi (x k) ce ∧ ∀ j, j < E.sz → wr.cell? ⟨b, off + (k * E.sz + j), none⟩ = ce[j]? := by
  obtain ⟨ce, h1, h2⟩ := hel k hk
  exact ⟨ce, E.rd_below h1 hb hhi, fun j hj => (hb.cell (p := ⟨b, off + (k * E.sz + j), none⟩) (by show b < w.heap.size; omega)).trans (h2 j hj)⟩
theorem own_setg {α : Type} {A : Lay α} {w : World} {a : α} {cs : List Value} {K : List Nat} {g j : Nat} {u : Value} (h : A.own w a cs K) (hg : g ∉ K) : A.own (w.setCell ⟨g, j, none⟩ u) a cs K :=
  A.own_kept h (fun b hb => heap_setCell_other w _ b u (fun hh => hg (by have e : b = g := hh; rw [← e]; exact hb)))
theorem not_in {g n k : Nat} {Ls : Nat → List Nat} (nd : (g :: catN n Ls).Nodup) (hk : k < n) : g ∉ Ls k := fun h => (List.nodup_cons.1 nd).1 (mem_catN.2 ⟨k, hk, h⟩)
theorem ChgL.st {K : List Nat} {w0 w : World} (h : ChgL K w0 w) (b j : Nat) (u : Value) (hb : b ∈ K) : ChgL K w0 (w.setCell ⟨b, j, none⟩ u) := h.trans (ChgL.store K w b j u hb)
theorem ChgL.sub {K M : List Nat} {w0 w w' : World} (h : ChgL K w0 w) (h2 : ChgL M w w') (hs : ∀ b, b ∈ M → b ∈ K) : ChgL K w0 w' := h.trans (h2.mono hs)
theorem SlO.mem_lt {α : Type} {E : Lay α} {t : TypeId} {w : World} {g cap n : Nat} {x : Nat → α} {ce : Nat → List Value} {Ls : Nat → List Nat} (h : SlO E t w g cap n x ce Ls) : ∀ b, b ∈ g :: catN n Ls → b < w.heap.size := fun b hb => by
  rcases List.mem_cons.1 hb with rfl | hb
  · exact h.lt
  · obtain ⟨i, hi, hbi⟩ := mem_catN.1 hb
    exact E.own_lt (h.each i hi) b hbi
end Go.Proofs.Ytgpglgchbimmaaa
