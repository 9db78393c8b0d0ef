/- The change that lays a record on a tape; its raw write. -/
import Derived.Test.YtfafbojaeedhfaaGreatZfQ
import Derived.Test.YtfafbojaeedhfaaGreatZeJ
import Derived.Deep.DeepCutAuto
import Derived.BigQuiet
import Derived.Deep.QuietTactic
namespace Go.Proofs.YtfafbojaeedhfaaGreat
open Go.RowKit F256
set_option linter.unusedVariables false
set_option linter.unusedSimpArgs false
def laidT (x : TapeD) (r : RecD) : TapeD := ⟨false, (x.recs.1 + 1, upd x.recs.2 x.recs.1 r)⟩
def appendW (d : WorldD) (T : Nat) (r : RecD) : WorldD := { d with tapes := (d.tapes.1, upd d.tapes.2 T (laidT (d.tapes.2 T) r)) }
theorem own_slice {α : Type} {E : Lay α} {t : TypeId} {w : World} {p : Nat × (Nat → α)} {v : Value} {K : List Nat} (h : (E.slice t).own w p [v] K) : ∃ ao cap, v = .slice ao p.1 cap := by
  obtain ⟨v', ce, Ls, e, _, hr, _⟩ := h
  cases e
  rcases hr.2 with ⟨rfl, h0⟩ | ⟨g, cap, cur, rfl, _⟩
  · exact ⟨none, 0, by rw [h0]⟩
  · exact ⟨_, _, rfl⟩
theorem run_appendTurn2 {α : Type} {E : Lay α} {T e : TypeId} {by_ : Nat} {zs : List Value} (I : ElInfo E T e by_ zs) (ty : TypeId) {w0 W : World} {n : Nat} {v : Value} {x : Nat → α} {L : List Nat} (h : (E.slice e).own w0 (n, x) [v] L) (nd : L.Nodup) (hW : Below w0.heap.size w0 W) {d : α} {cs : List Value} {La : List Nat} (ha : E.own W d cs La) (hnd : La.Nodup) (hLa : ∀ b, b ∈ La → w0.heap.size ≤ b) (b c : Nat) (hcell : ∀ j, j < E.sz → W.cell? ⟨b, j, none⟩ = cs[j]?) (hn : n ≤ 10000000) :
    ∃ ao cap w' L', (Builtin.append_ #[T, T] ty #[v, .slice (some ⟨b, 0, none⟩) 1 c]).run Tryz.prog W = .ok (.slice ao (n + 1) cap) w' ∧ Turn (E.slice e) w0 L w' (n + 1, upd x n d) [.slice ao (n + 1) cap] L' := by
  obtain ⟨v', w', L', hr, ht⟩ := run_appendTurn I ty h nd hW ha hnd hLa b c hcell hn
  obtain ⟨ao, cap, rfl⟩ := own_slice ht.own
  exact ⟨ao, cap, w', L', hr, ht⟩
theorem Rec_cellsT {w : World} {lo hi : Nat} {r : RecD} {cs : List Value} (h : OwnT layRec w lo hi r cs) : ∃ s6 m6 s7 m7 s8 m8, cs = [.int .i64 r.kind, .int .i64 r.seq, .string r.name, .int .i64 r.length, .int .i64 r.group, .int .i64 r.row, .slice s6 r.rows.1 m6, .slice s7 r.data.1 m7, .slice s8 r.delta.1 m8] := by
  obtain ⟨M, h1, _⟩ := h
  obtain ⟨a, b, c, e, f, g, K6, K7, K8, rfl, _⟩ := Rec_own h1
  exact ⟨a, b, c, e, f, g, rfl⟩
theorem app_rec {w0 W : World} {p : Nat × (Nat → RecD)} {v : Value} {K9 : List Nat} (o9 : (layRec.slice 78).own w0 p [v] K9) (nd9 : K9.Nodup) (hn : p.1 ≤ 10000000) (hW : Below w0.heap.size w0 W) {r : RecD} {cs : List Value} {La : List Nat} (ha : layRec.own W r cs La) (hnd : La.Nodup) (hLa : ∀ b, b ∈ La → w0.heap.size ≤ b) (b : Nat) (hcell : ∀ j, W.cell? ⟨b, j, none⟩ = cs[j]?) :
    ∃ ao cap w' L', (Builtin.append_ #[94, 94] 94 #[v, .slice (some ⟨b, 0, none⟩) 1 1]).run Tryz.prog W = .ok (.slice ao (p.1 + 1) cap) w' ∧ Turn (layRec.slice 78) w0 K9 w' (p.1 + 1, upd p.2 p.1 r) [.slice ao (p.1 + 1) cap] L' :=
  run_appendTurn2 el_Rec 94 o9 nd9 hW ha hnd hLa b 1 (fun j _ => hcell j) hn
set_option maxHeartbeats 16000000 in
set_option maxRecDepth 20000 in
theorem appendChange (E : Nat) (d : WorldD) (cs : List Value) (K : List Nat) (q0 q1 T : Nat) (r : RecD) (o6 o7 o8 : Option Addr) (k6 k7 k8 hi : Nat) (hT : T < d.tapes.1) (hn : (d.tapes.2 T).recs.1 ≤ 10000000) (w : World) (hX : Box w E (([.int .i32 1, .int .u32 0, .int .u32 0, .int .i32 0, .int .u32 0] : List Value) ++ cs).toArray 166) (hO : EncO w E d cs K) (h0 : w.cell? ⟨q0, 0, none⟩ = some (.int .i64 (T : Int))) (h1 : Box w q1 #[.int .i64 r.kind, .int .i64 r.seq, .string r.name, .int .i64 r.length, .int .i64 r.group, .int .i64 r.row, .slice o6 r.rows.1 k6, .slice o7 r.data.1 k7, .slice o8 r.delta.1 k8] 78) (hr : layRec.rd w hi r [.int .i64 r.kind, .int .i64 r.seq, .string r.name, .int .i64 r.length, .int .i64 r.group, .int .i64 r.row, .slice o6 r.rows.1 k6, .slice o7 r.data.1 k7, .slice o8 r.delta.1 k8]) (hhi : hi ≤ w.heap.size) (hsz : szRecD r ≤ 1048576) (l0 : q0 < w.heap.size ∧ q0 ∉ K) (l1 : q1 ∉ K) :
    Calls Tryz.prog 188 #[.pointer (some ⟨E, 5, none⟩), .pointer (some ⟨q0, 0, none⟩), .pointer (some ⟨q1, 0, none⟩)] w fun e w' => e = .returned (.tuple #[]) ∧ ∃ cs' K', Box w' E (([.int .i32 1, .int .u32 0, .int .u32 0, .int .i32 0, .int .u32 0] : List Value) ++ cs').toArray 166 ∧ EncO w' E (appendW d T r) cs' K' ∧ (∀ b, b ∈ K' → b ∈ K ∨ w.heap.size ≤ b) ∧ ChgL (E :: K) w w' := by
  have O0 : EncO w.drew E d cs K := hO.chg (ChgL.refl [E] _).drew
  obtain ⟨p1, c1, p2, c2, p3, c3, K1, K2, K3, rfl, rfl, WO⟩ := O0.open
  obtain ⟨gt, cap, ce, Ls, e3, eL, S3⟩ := slice_form WO.t (by omega)
  simp only [List.cons.injEq, Value.slice.injEq, and_true, true_and] at e3
  obtain ⟨rfl, rfl⟩ := e3
  subst eL
  have nd3 : (gt :: catN d.tapes.1 Ls).Nodup := (List.nodup_append.1 (List.nodup_append.1 WO.nd).2.1).2.1
  obtain ⟨ao9, cap9, K9, e9, eK9, o9⟩ := Tape_own (S3.each T hT)
  have nd9 : K9.Nodup := by rw [← eK9]; exact catN_each (List.nodup_cons.1 nd3).2 hT
  have in9 : ∀ b, b ∈ K9 → b ∈ gt :: catN d.tapes.1 Ls := fun b hb => SlO.sub T hT b (by rw [eK9]; exact hb)
  have inK : ∀ b, b ∈ gt :: catN d.tapes.1 Ls → b ∈ K1 ++ (K2 ++ (gt :: catN d.tapes.1 Ls)) := fun b hb => List.mem_append_right _ (List.mem_append_right _ hb)
  have hE9 : E ∉ K9 := fun hb => hO.ne (inK _ (in9 _ hb))
  have hgt : gt ∉ K9 := fun hb => (List.nodup_cons.1 nd3).1 (mem_catN.2 ⟨T, hT, by rw [eK9]; exact hb⟩)
  have x16 : w.cell? ⟨E, 16, none⟩ = some (.slice (some ⟨gt, 0, none⟩) d.tapes.1 c3) := hX.cell 16
  have y0 : w.drew.cell? ⟨gt, T * 2, none⟩ = some (.bool (d.tapes.2 T).wiped) := (S3.cell hT (j := 0) (by decide)).trans (by rw [e9]; rfl)
  have y1 : w.drew.cell? ⟨gt, T * 2 + 1, none⟩ = some (.slice ao9 (d.tapes.2 T).recs.1 cap9) := (S3.cell hT (j := 1) (by decide)).trans (by rw [e9]; rfl)
  have hEl := hX.lt
  have hql := h1.lt
  have hgl : gt < w.drew.heap.size := S3.lt
  have KS : ∀ w', ChgL K9 w.drew w' → (w'.cell? ⟨E, 16, none⟩ = some (.slice (some ⟨gt, 0, none⟩) d.tapes.1 c3) ∧ w'.cell? ⟨q0, 0, none⟩ = some (.int .i64 (T : Int)) ∧ w'.cell? ⟨gt, T * 2 + 1, none⟩ = some (.slice ao9 (d.tapes.2 T).recs.1 cap9) ∧ w'.cell? ⟨q1, 0, none⟩ = some (.int .i64 r.kind) ∧ w'.cell? ⟨q1, 1, none⟩ = some (.int .i64 r.seq) ∧ w'.cell? ⟨q1, 2, none⟩ = some (.string r.name) ∧ w'.cell? ⟨q1, 3, none⟩ = some (.int .i64 r.length) ∧ w'.cell? ⟨q1, 4, none⟩ = some (.int .i64 r.group) ∧ w'.cell? ⟨q1, 5, none⟩ = some (.int .i64 r.row) ∧ w'.cell? ⟨q1, 6, none⟩ = some (.slice o6 r.rows.1 k6) ∧ w'.cell? ⟨q1, 7, none⟩ = some (.slice o7 r.data.1 k7) ∧ w'.cell? ⟨q1, 8, none⟩ = some (.slice o8 r.delta.1 k8)) := fun w' hc => ⟨(World.cell?_of_block (hc.block E hEl hE9)).trans x16, (World.cell?_of_block (hc.block q0 l0.1 (fun hb => l0.2 (inK _ (in9 _ hb))))).trans h0, (World.cell?_of_block (hc.block gt hgl hgt)).trans y1, (World.cell?_of_block (hc.block q1 hql (fun hb => l1 (inK _ (in9 _ hb))))).trans (h1.cell 0), (World.cell?_of_block (hc.block q1 hql (fun hb => l1 (inK _ (in9 _ hb))))).trans (h1.cell 1), (World.cell?_of_block (hc.block q1 hql (fun hb => l1 (inK _ (in9 _ hb))))).trans (h1.cell 2), (World.cell?_of_block (hc.block q1 hql (fun hb => l1 (inK _ (in9 _ hb))))).trans (h1.cell 3), (World.cell?_of_block (hc.block q1 hql (fun hb => l1 (inK _ (in9 _ hb))))).trans (h1.cell 4), (World.cell?_of_block (hc.block q1 hql (fun hb => l1 (inK _ (in9 _ hb))))).trans (h1.cell 5), (World.cell?_of_block (hc.block q1 hql (fun hb => l1 (inK _ (in9 _ hb))))).trans (h1.cell 6), (World.cell?_of_block (hc.block q1 hql (fun hb => l1 (inK _ (in9 _ hb))))).trans (h1.cell 7), (World.cell?_of_block (hc.block q1 hql (fun hb => l1 (inK _ (in9 _ hb))))).trans (h1.cell 8)⟩
  have CC := (copyRec_is [.int .i64 r.kind, .int .i64 r.seq, .string r.name, .int .i64 r.length, .int .i64 r.group, .int .i64 r.row, .slice o6 r.rows.1 k6, .slice o7 r.data.1 k7, .slice o8 r.delta.1 k8] r hi w.drew (layRec.rd_below (B := w.heap.size) hr ⟨rfl, rfl, rfl, Nat.le_refl _, fun _ _ => rfl⟩ hhi) hhi hsz).mono (R' := fun e w' => ∃ s6 m6 s7 m7 s8 m8, e = .returned (.agg #[.int .i64 r.kind, .int .i64 r.seq, .string r.name, .int .i64 r.length, .int .i64 r.group, .int .i64 r.row, .slice s6 r.rows.1 m6, .slice s7 r.data.1 m7, .slice s8 r.delta.1 m8]) ∧ OwnT layRec w' w.drew.heap.size w'.heap.size r [.int .i64 r.kind, .int .i64 r.seq, .string r.name, .int .i64 r.length, .int .i64 r.group, .int .i64 r.row, .slice s6 r.rows.1 m6, .slice s7 r.data.1 m7, .slice s8 r.delta.1 m8] ∧ Below w.drew.heap.size w.drew w') (fun e w' ⟨cs', he, o5, b5⟩ => by
    obtain ⟨s6, m6, s7, m7, s8, m8, rfl⟩ := Rec_cellsT o5
    exact ⟨s6, m6, s7, m7, s8, m8, he, o5, b5⟩)
  have AP := fun (W : World) (hW : Below w.drew.heap.size w.drew W) (La : List Nat) (cs : List Value) (ha : layRec.own W r cs La) => app_rec o9 nd9 hn hW ha
  have i1 : (0 : Int) ≤ (T : Int) := by omega
  have i2 : (T : Int) < (d.tapes.1 : Int) := by omega
  have HX : Hid (Box w.drew E #[.int .i32 1, .int .u32 0, .int .u32 0, .int .i32 0, .int .u32 0, .int .i64 (d.shape 0), .int .i64 (d.shape 1), .int .i64 (d.shape 2), .int .i64 (d.shape 3), .int .i64 (d.shape 4), .int .i64 (d.shape 5), .int .i64 (d.shape 6), .int .i64 (d.shape 7), .int .i64 (d.shape 8), .slice p1 d.groups.1 c1, .slice p2 d.on.1 c2, .slice (some ⟨gt, 0, none⟩) d.tapes.1 c3, .int .i64 d.writes, .int .i64 d.stop, .bool d.down] 166) := hX
  have HNE : Hid (E ∉ K1 ++ (K2 ++ (gt :: catN d.tapes.1 Ls))) := hO.ne
  clear hX hO O0 h1
  go_enter Tryz.func188, Tryz.ntmps188
  go_upto_region 0 with fail
  refine wp_region_L 19 (fun w' => w'.cell? ⟨E, 16, none⟩ = some (.slice (some ⟨gt, 0, none⟩) d.tapes.1 c3) ∧ w'.cell? ⟨q0, 0, none⟩ = some (.int .i64 (T : Int)) ∧ w'.cell? ⟨gt, T * 2 + 1, none⟩ = some (.slice ao9 (d.tapes.2 T).recs.1 cap9) ∧ w'.cell? ⟨q1, 0, none⟩ = some (.int .i64 r.kind) ∧ w'.cell? ⟨q1, 1, none⟩ = some (.int .i64 r.seq) ∧ w'.cell? ⟨q1, 2, none⟩ = some (.string r.name) ∧ w'.cell? ⟨q1, 3, none⟩ = some (.int .i64 r.length) ∧ w'.cell? ⟨q1, 4, none⟩ = some (.int .i64 r.group) ∧ w'.cell? ⟨q1, 5, none⟩ = some (.int .i64 r.row) ∧ w'.cell? ⟨q1, 6, none⟩ = some (.slice o6 r.rows.1 k6) ∧ w'.cell? ⟨q1, 7, none⟩ = some (.slice o7 r.data.1 k7) ∧ w'.cell? ⟨q1, 8, none⟩ = some (.slice o8 r.delta.1 k8)) (by kernel_rfl) (KS _ (ChgL.refl _ _)) (fun hHeld => ?_)
  refine wpAnyL_take (i := 0) (oi := _) (v := ?_) 16 rfl (by kernel_rfl) (fun _ _ _ h => h) (Or.inl ⟨by rfl, ?_⟩) (by assumption) ?_
  rotate_left
  · intro w' hSw
    try dsimp only at hSw
    obtain ⟨hq0, hq1, hq2, hq3, hq4, hq5, hq6, hq7, hq8, hq9, hq10, hq11⟩ := hSw
    go_simp
    try with_reducible rfl
  try simp only [Act.put, List.setIfInBounds_toArray, List.set_cons_zero, List.set_cons_succ]
  refine wpAnyL_take (i := 1) (oi := _) (v := ?_) 16 rfl (by kernel_rfl) (fun _ _ _ h => h) (Or.inl ⟨by rfl, ?_⟩) (by assumption) ?_
  rotate_left
  · intro w' hSw
    try dsimp only at hSw
    obtain ⟨hq0, hq1, hq2, hq3, hq4, hq5, hq6, hq7, hq8, hq9, hq10, hq11⟩ := hSw
    go_simp
    try with_reducible rfl
  try simp only [Act.put, List.setIfInBounds_toArray, List.set_cons_zero, List.set_cons_succ]
  refine wpAnyL_take (i := 2) (oi := _) (v := ?_) 16 rfl (by kernel_rfl) (fun _ _ _ h => h) (Or.inl ⟨by rfl, ?_⟩) (by assumption) ?_
  rotate_left
  · intro w' hSw
    try dsimp only at hSw
    obtain ⟨hq0, hq1, hq2, hq3, hq4, hq5, hq6, hq7, hq8, hq9, hq10, hq11⟩ := hSw
    go_simp
    try with_reducible rfl
  try simp only [Act.put, List.setIfInBounds_toArray, List.set_cons_zero, List.set_cons_succ]
  refine wpAnyL_take (i := 3) (oi := _) (v := ?_) 16 rfl (by kernel_rfl) (fun _ _ _ h => h) (Or.inl ⟨by rfl, ?_⟩) (by assumption) ?_
  rotate_left
  · intro w' hSw
    try dsimp only at hSw
    obtain ⟨hq0, hq1, hq2, hq3, hq4, hq5, hq6, hq7, hq8, hq9, hq10, hq11⟩ := hSw
    go_simp
    try with_reducible rfl
  try simp only [Act.put, List.setIfInBounds_toArray, List.set_cons_zero, List.set_cons_succ]
  refine wpAnyL_take (i := 4) (oi := _) (v := ?_) 16 rfl (by kernel_rfl) (fun _ _ _ h => h) (Or.inl ⟨by rfl, ?_⟩) (by assumption) ?_
  rotate_left
  · intro w' hSw
    try dsimp only at hSw
    obtain ⟨hq0, hq1, hq2, hq3, hq4, hq5, hq6, hq7, hq8, hq9, hq10, hq11⟩ := hSw
    go_simp
    try with_reducible rfl
  try simp only [Act.put, List.setIfInBounds_toArray, List.set_cons_zero, List.set_cons_succ]
  refine wpAnyL_take (i := 5) (oi := _) (v := ?_) 16 rfl (by kernel_rfl) (fun _ _ _ h => h) (Or.inl ⟨by rfl, ?_⟩) (by assumption) ?_
  rotate_left
  · intro w' hSw
    try dsimp only at hSw
    obtain ⟨hq0, hq1, hq2, hq3, hq4, hq5, hq6, hq7, hq8, hq9, hq10, hq11⟩ := hSw
    go_simp
    try with_reducible rfl
  try simp only [Act.put, List.setIfInBounds_toArray, List.set_cons_zero, List.set_cons_succ]
  refine wpAnyL_take (i := 6) (oi := _) (v := ?_) 16 rfl (by kernel_rfl) (fun _ _ _ h => h) (Or.inl ⟨by rfl, ?_⟩) (by assumption) ?_
  rotate_left
  · intro w' hSw
    try dsimp only at hSw
    obtain ⟨hq0, hq1, hq2, hq3, hq4, hq5, hq6, hq7, hq8, hq9, hq10, hq11⟩ := hSw
    go_simp
    try with_reducible rfl
  try simp only [Act.put, List.setIfInBounds_toArray, List.set_cons_zero, List.set_cons_succ]
  refine wpAnyL_take (i := 7) (oi := _) (v := ?_) 16 rfl (by kernel_rfl) (fun _ _ _ h => h) (Or.inl ⟨by rfl, ?_⟩) (by assumption) ?_
  rotate_left
  · intro w' hSw
    try dsimp only at hSw
    obtain ⟨hq0, hq1, hq2, hq3, hq4, hq5, hq6, hq7, hq8, hq9, hq10, hq11⟩ := hSw
    go_simp
    try with_reducible rfl
  try simp only [Act.put, List.setIfInBounds_toArray, List.set_cons_zero, List.set_cons_succ]
  refine wpAnyL_take (i := 8) (oi := _) (v := ?_) 16 rfl (by kernel_rfl) (fun _ _ _ h => h) (Or.inl ⟨by rfl, ?_⟩) (by assumption) ?_
  rotate_left
  · intro w' hSw
    try dsimp only at hSw
    obtain ⟨hq0, hq1, hq2, hq3, hq4, hq5, hq6, hq7, hq8, hq9, hq10, hq11⟩ := hSw
    go_simp
    try with_reducible rfl
  try simp only [Act.put, List.setIfInBounds_toArray, List.set_cons_zero, List.set_cons_succ]
  refine wpAnyL_take (i := 9) (oi := _) (v := ?_) 16 rfl (by kernel_rfl) (fun _ _ _ h => h) (Or.inl ⟨by rfl, ?_⟩) (by assumption) ?_
  rotate_left
  · intro w' hSw
    try dsimp only at hSw
    obtain ⟨hq0, hq1, hq2, hq3, hq4, hq5, hq6, hq7, hq8, hq9, hq10, hq11⟩ := hSw
    go_simp
    try with_reducible rfl
  try simp only [Act.put, List.setIfInBounds_toArray, List.set_cons_zero, List.set_cons_succ]
  refine wpAnyL_take (i := 10) (oi := _) (v := ?_) 16 rfl (by kernel_rfl) (fun _ _ _ h => h) (Or.inl ⟨by rfl, ?_⟩) (by assumption) ?_
  rotate_left
  · intro w' hSw
    try dsimp only at hSw
    obtain ⟨hq0, hq1, hq2, hq3, hq4, hq5, hq6, hq7, hq8, hq9, hq10, hq11⟩ := hSw
    go_simp
    try with_reducible rfl
  try simp only [Act.put, List.setIfInBounds_toArray, List.set_cons_zero, List.set_cons_succ]
  refine wpAnyL_take (i := 11) (oi := _) (v := ?_) 16 rfl (by kernel_rfl) (fun _ _ _ h => h) (Or.inl ⟨by rfl, ?_⟩) (by assumption) ?_
  rotate_left
  · intro w' hSw
    try dsimp only at hSw
    obtain ⟨hq0, hq1, hq2, hq3, hq4, hq5, hq6, hq7, hq8, hq9, hq10, hq11⟩ := hSw
    go_simp
    try with_reducible rfl
  try simp only [Act.put, List.setIfInBounds_toArray, List.set_cons_zero, List.set_cons_succ]
  refine wpAnyL_take (i := 12) (oi := _) (v := ?_) 16 rfl (by kernel_rfl) (fun _ _ _ h => h) (Or.inl ⟨by rfl, ?_⟩) (by assumption) ?_
  rotate_left
  · intro w' hSw
    try dsimp only at hSw
    obtain ⟨hq0, hq1, hq2, hq3, hq4, hq5, hq6, hq7, hq8, hq9, hq10, hq11⟩ := hSw
    go_simp
    try with_reducible rfl
  try simp only [Act.put, List.setIfInBounds_toArray, List.set_cons_zero, List.set_cons_succ]
  refine wpAnyL_take (i := 13) (oi := _) (v := ?_) 16 rfl (by kernel_rfl) (fun _ _ _ h => h) (Or.inl ⟨by rfl, ?_⟩) (by assumption) ?_
  rotate_left
  · intro w' hSw
    try dsimp only at hSw
    obtain ⟨hq0, hq1, hq2, hq3, hq4, hq5, hq6, hq7, hq8, hq9, hq10, hq11⟩ := hSw
    go_simp
    try with_reducible rfl
  try simp only [Act.put, List.setIfInBounds_toArray, List.set_cons_zero, List.set_cons_succ]
  refine wpAnyL_one (i := 14) (o := _) rfl (by kernel_rfl) (fun KC hKC => ?_)
  refine step_call rfl 189 _ _ rfl #[.agg #[.int .i64 r.kind, .int .i64 r.seq, .string r.name, .int .i64 r.length, .int .i64 r.group, .int .i64 r.row, .slice o6 r.rows.1 k6, .slice o7 r.data.1 k7, .slice o8 r.delta.1 k8]] ?_ Tryz.func189 (by kernel_rfl) (by kernel_rfl) CC ?_; (simp [Act.eval, Act.put]); rintro ee w5 ⟨s6, m6, s7, m7, s8, m8, rfl, o5, b5⟩; have k5 := KS w5 (ChgL.of_below b5); have bA : Below w5.heap.size w5 (w5.alloc (.cells #[.int .i64 r.kind, .int .i64 r.seq, .string r.name, .int .i64 r.length, .int .i64 r.group, .int .i64 r.row, .slice s6 r.rows.1 m6, .slice s7 r.data.1 m7, .slice s8 r.delta.1 m8] 78)) := (Below.refl _ _).alloc (Nat.le_refl _) _; have kA := KS _ (ChgL.of_below (b5.trans (bA.mono b5.size))); obtain ⟨La, a1, a2, a3⟩ := o5; have e1 : Below w.drew.heap.size w.drew (w5.alloc (.cells #[.int .i64 r.kind, .int .i64 r.seq, .string r.name, .int .i64 r.length, .int .i64 r.group, .int .i64 r.row, .slice s6 r.rows.1 m6, .slice s7 r.data.1 m7, .slice s8 r.delta.1 m8] 78)) := b5.trans (bA.mono b5.size); have e2 : layRec.own (w5.alloc (.cells #[.int .i64 r.kind, .int .i64 r.seq, .string r.name, .int .i64 r.length, .int .i64 r.group, .int .i64 r.row, .slice s6 r.rows.1 m6, .slice s7 r.data.1 m7, .slice s8 r.delta.1 m8] 78)) r [.int .i64 r.kind, .int .i64 r.seq, .string r.name, .int .i64 r.length, .int .i64 r.group, .int .i64 r.row, .slice s6 r.rows.1 m6, .slice s7 r.data.1 m7, .slice s8 r.delta.1 m8] La := layRec.own_kept a1 (fun b hb => bA.block b (a3 b hb).2); have e3 : ∀ b, b ∈ La → w.drew.heap.size ≤ b := fun b hb => (a3 b hb).1; have e4 := cells_new w5 [.int .i64 r.kind, .int .i64 r.seq, .string r.name, .int .i64 r.length, .int .i64 r.group, .int .i64 r.row, .slice s6 r.rows.1 m6, .slice s7 r.data.1 m7, .slice s8 r.delta.1 m8] 78; have e5 := AP (w5.alloc (.cells #[.int .i64 r.kind, .int .i64 r.seq, .string r.name, .int .i64 r.length, .int .i64 r.group, .int .i64 r.row, .slice s6 r.rows.1 m6, .slice s7 r.data.1 m7, .slice s8 r.delta.1 m8] 78)) e1 La [.int .i64 r.kind, .int .i64 r.seq, .string r.name, .int .i64 r.length, .int .i64 r.group, .int .i64 r.row, .slice s6 r.rows.1 m6, .slice s7 r.data.1 m7, .slice s8 r.delta.1 m8] e2 a2 e3 w5.heap.size e4; clear e1 e2 e3 e4; obtain ⟨s9, m9, w6, L', hrun, TT⟩ := e5; have k6' := KS w6 TT.chg; have f0 : w6.frozen? ⟨gt, T * 2, none⟩ = false := (World.frozen?_of_block (a := ⟨gt, T * 2, none⟩) (TT.chg.block gt S3.lt hgt)).trans (S3.frozen _); have f1 : w6.frozen? ⟨gt, T * 2 + 1, none⟩ = false := (World.frozen?_of_block (a := ⟨gt, T * 2 + 1, none⟩) (TT.chg.block gt S3.lt hgt)).trans (S3.frozen _); have t0 : w6.cell? ⟨gt, T * 2, none⟩ = some (.bool (d.tapes.2 T).wiped) := (World.cell?_of_block (a := ⟨gt, T * 2, none⟩) (TT.chg.block gt S3.lt hgt)).trans y0; have t1 : w6.cell? ⟨gt, T * 2 + 1, none⟩ = some (.slice ao9 (d.tapes.2 T).recs.1 cap9) := k6'.2.2.1; refine ⟨_, rfl, ?_⟩
  refine hKC.out _ _ (k5) (fun hHeld => ?_)
  clear hKC KC
  try simp only [Act.put, List.setIfInBounds_toArray, List.set_cons_zero, List.set_cons_succ]
  refine wpAnyL_one (i := 15) (o := _) rfl (by kernel_rfl) (fun KC hKC => ?_)
  go_simp
  refine hKC.out _ _ (kA) (fun hHeld => ?_)
  clear hKC KC
  try simp only [Act.put, List.setIfInBounds_toArray, List.set_cons_zero, List.set_cons_succ]
  refine wpAnyL_one (i := 16) (o := _) rfl (by kernel_rfl) (fun KC hKC => ?_)
  refine step_run2 rfl (.tmp 16) (.tmp 19) rfl ?_ ?_ hrun ?_; (simp [Act.eval, Act.put]); (simp [Act.eval, Act.put])
  refine hKC.out _ _ (k6') (fun hHeld => ?_)
  clear hKC KC
  try simp only [Act.put, List.setIfInBounds_toArray, List.set_cons_zero, List.set_cons_succ]
  refine wpAnyL_take (i := 17) (oi := _) (v := ?_) 16 rfl (by kernel_rfl) (fun _ _ _ h => h) (Or.inl ⟨by rfl, ?_⟩) (by assumption) ?_
  rotate_left
  · intro w' hSw
    try dsimp only at hSw
    obtain ⟨hq0, hq1, hq2, hq3, hq4, hq5, hq6, hq7, hq8, hq9, hq10, hq11⟩ := hSw
    go_simp
    try with_reducible rfl
  try simp only [Act.put, List.setIfInBounds_toArray, List.set_cons_zero, List.set_cons_succ]
  refine wpAnyL_take (i := 18) (oi := _) (v := ?_) 16 rfl (by kernel_rfl) (fun _ _ _ h => h) (Or.inl ⟨by rfl, ?_⟩) (by assumption) ?_
  rotate_left
  · intro w' hSw
    try dsimp only at hSw
    obtain ⟨hq0, hq1, hq2, hq3, hq4, hq5, hq6, hq7, hq8, hq9, hq10, hq11⟩ := hSw
    go_simp
    try with_reducible rfl
  try simp only [Act.put, List.setIfInBounds_toArray, List.set_cons_zero, List.set_cons_succ]
  refine wpAnyL_last (o := _) rfl (by kernel_rfl) (fun KC hKC => ?_)
  go_simp
  refine hKC.out _ _ ?_
  clear hKC KC
  try simp only [Act.put, List.setIfInBounds_toArray, List.set_cons_zero, List.set_cons_succ]
  refine wpAnyL_done (by kernel_rfl) ?_ _
  have TK : Turn layTape w.drew (Ls T) w6 (laidT (d.tapes.2 T) r) [.bool false, (.slice s9 ((d.tapes.2 T).recs.1 + 1) m9)] L' := by
    rw [eK9]
    exact ⟨Tape_mk (laidT (d.tapes.2 T) r) TT.own, TT.nd, TT.sub, TT.chg⟩
  have T7 := S3.turn_at nd3 hT TK (w' := (stN w6 gt (T * layTape.sz) [.bool false, (.slice s9 ((d.tapes.2 T).recs.1 + 1) m9)])) rfl
  have WO7 := WO.tapes (Nat.le_refl _) (Nat.zero_le _) T7
  have hin : ∀ b, b ∈ gt :: catN d.tapes.1 Ls → b ≠ E := fun b hb he => HNE.out (by rw [← he]; exact inK b hb)
  have X7 := HX.out.chgl T7.chg (fun hb => hin E hb rfl)
  have sub7 : ∀ b, b ∈ K1 ++ (K2 ++ (gt :: catN d.tapes.1 (upd Ls T L'))) → b ∈ K1 ++ (K2 ++ (gt :: catN d.tapes.1 Ls)) ∨ w.heap.size ≤ b := fun b hb => by
    rcases List.mem_append.1 hb with h | h
    · exact .inl (List.mem_append_left _ h)
    · rcases List.mem_append.1 h with h | h
      · exact .inl (List.mem_append_right _ (List.mem_append_left _ h))
      · rcases T7.sub b h with h | h
        · exact .inl (inK b h)
        · exact .inr h.1
  have hE7 : E ∉ K1 ++ (K2 ++ (gt :: catN d.tapes.1 (upd Ls T L'))) := fun hm => by
    rcases sub7 E hm with h | h
    · exact HNE.out h
    · omega
  have HO7 : Hid (EncO (stN w6 gt (T * layTape.sz) [.bool false, (.slice s9 ((d.tapes.2 T).recs.1 + 1) m9)]) E (appendW d T r) [.int .i64 (d.shape 0), .int .i64 (d.shape 1), .int .i64 (d.shape 2), .int .i64 (d.shape 3), .int .i64 (d.shape 4), .int .i64 (d.shape 5), .int .i64 (d.shape 6), .int .i64 (d.shape 7), .int .i64 (d.shape 8), .slice p1 d.groups.1 c1, .slice p2 d.on.1 c2, .slice (some ⟨gt, 0, none⟩) d.tapes.1 c3, .int .i64 d.writes, .int .i64 d.stop, .bool d.down] (K1 ++ (K2 ++ ((gt :: catN d.tapes.1 (upd Ls T L')) ++ [])))) := WO7.encO hE7
  have HC7 : Hid (ChgL (E :: (K1 ++ (K2 ++ (gt :: catN d.tapes.1 Ls)))) w (stN w6 gt (T * layTape.sz) [.bool false, (.slice s9 ((d.tapes.2 T).recs.1 + 1) m9)])) := ((ChgL.refl _ w).drew).trans (T7.chg.mono (fun b hb => List.mem_cons_of_mem _ (inK b hb)))
  have HX7 : Hid (Box (stN w6 gt (T * layTape.sz) [.bool false, (.slice s9 ((d.tapes.2 T).recs.1 + 1) m9)]) E #[.int .i32 1, .int .u32 0, .int .u32 0, .int .i32 0, .int .u32 0, .int .i64 (d.shape 0), .int .i64 (d.shape 1), .int .i64 (d.shape 2), .int .i64 (d.shape 3), .int .i64 (d.shape 4), .int .i64 (d.shape 5), .int .i64 (d.shape 6), .int .i64 (d.shape 7), .int .i64 (d.shape 8), .slice p1 d.groups.1 c1, .slice p2 d.on.1 c2, .slice (some ⟨gt, 0, none⟩) d.tapes.1 c3, .int .i64 d.writes, .int .i64 d.stop, .bool d.down] 166) := X7
  have HS : Hid (∀ b, b ∈ K1 ++ (K2 ++ ((gt :: catN d.tapes.1 (upd Ls T L')) ++ [])) → b ∈ K1 ++ (K2 ++ (gt :: catN d.tapes.1 Ls)) ∨ w.heap.size ≤ b) := fun b hb => sub7 b (by simpa using hb)
  clear X7 WO7 T7 TK TT WO S3 CC KS sub7 hE7 hin k5 kA k6' hrun o9 nd9 AP
  go_wp2
  go_end0
  exact ⟨rfl, _, _, HX7.out, HO7.out, HS.out, HC7.out⟩
set_option maxRecDepth 100000 in
set_option maxHeartbeats 8000000 in
theorem rawWrite_append (E : Nat) (v0 v1 v2 v3 v4 v5 v6 v7 v8 vp0 vl0 vq0 vp1 vl1 vq1 vp2 vl2 vq2 v9 v10 vb : _) (d d' : WorldD) (K : List Nat) (q0 q1 : Nat) (w : World) (hX : Box w E #[.int .i32 0, .int .u32 0, .int .u32 0, .int .i32 0, .int .u32 0, .int .i64 v0, .int .i64 v1, .int .i64 v2, .int .i64 v3, .int .i64 v4, .int .i64 v5, .int .i64 v6, .int .i64 v7, .int .i64 v8, .slice vp0 vl0 vq0, .slice vp1 vl1 vq1, .slice vp2 vl2 vq2, .int .i64 v9, .int .i64 v10, .bool vb] 166) (hO : EncO w E d [.int .i64 v0, .int .i64 v1, .int .i64 v2, .int .i64 v3, .int .i64 v4, .int .i64 v5, .int .i64 v6, .int .i64 v7, .int .i64 v8, .slice vp0 vl0 vq0, .slice vp1 vl1 vq1, .slice vp2 vl2 vq2, .int .i64 v9, .int .i64 v10, .bool vb] K) (hpw : ¬ (v10 ≠ -1 ∧ v10 ≤ v9)) (hwr : -9223372036854775808 ≤ d'.writes ∧ d'.writes + 1 ≤ 9223372036854775807)
    (hch : ∀ W, Box W E #[.int .i32 1, .int .u32 0, .int .u32 0, .int .i32 0, .int .u32 0, .int .i64 v0, .int .i64 v1, .int .i64 v2, .int .i64 v3, .int .i64 v4, .int .i64 v5, .int .i64 v6, .int .i64 v7, .int .i64 v8, .slice vp0 vl0 vq0, .slice vp1 vl1 vq1, .slice vp2 vl2 vq2, .int .i64 v9, .int .i64 v10, .bool vb] 166 → EncO W E d [.int .i64 v0, .int .i64 v1, .int .i64 v2, .int .i64 v3, .int .i64 v4, .int .i64 v5, .int .i64 v6, .int .i64 v7, .int .i64 v8, .slice vp0 vl0 vq0, .slice vp1 vl1 vq1, .slice vp2 vl2 vq2, .int .i64 v9, .int .i64 v10, .bool vb] K → ChgL [E] w W → Calls Tryz.prog 188 #[.pointer (some ⟨E, 5, none⟩), .pointer (some ⟨q0, 0, none⟩), .pointer (some ⟨q1, 0, none⟩)] W fun e w' => e = .returned (.tuple #[]) ∧ ∃ cs' K', Box w' E ([.int .i32 1, .int .u32 0, .int .u32 0, .int .i32 0, .int .u32 0] ++ cs').toArray 166 ∧ EncO w' E d' cs' K' ∧ (∀ b, b ∈ K' → b ∈ K ∨ W.heap.size ≤ b) ∧ ChgL (E :: K) W w') :
    Calls Tryz.prog 154 #[.pointer (some ⟨E, 0, none⟩), .func (.func 188) #[] #[.pointer (some ⟨q0, 0, none⟩), .pointer (some ⟨q1, 0, none⟩)]] w fun e w' => e = .returned (.tuple #[]) ∧ ∃ cs' K', Box w' E ([.int .i32 0, .int .u32 0, .int .u32 0, .int .i32 0, .int .u32 0] ++ cs').toArray 166 ∧ EncO w' E { d' with writes := d'.writes + 1 } cs' K' ∧ (∀ b, b ∈ K' → b ∈ K ∨ w.heap.size ≤ b) ∧ ChgL (E :: K) w w' := by
  have HWR : Hid (-9223372036854775808 ≤ d'.writes ∧ d'.writes + 1 ≤ 9223372036854775807) := hwr
  have CH : Hid (∀ W, Box W E #[.int .i32 1, .int .u32 0, .int .u32 0, .int .i32 0, .int .u32 0, .int .i64 v0, .int .i64 v1, .int .i64 v2, .int .i64 v3, .int .i64 v4, .int .i64 v5, .int .i64 v6, .int .i64 v7, .int .i64 v8, .slice vp0 vl0 vq0, .slice vp1 vl1 vq1, .slice vp2 vl2 vq2, .int .i64 v9, .int .i64 v10, .bool vb] 166 → EncO W E d [.int .i64 v0, .int .i64 v1, .int .i64 v2, .int .i64 v3, .int .i64 v4, .int .i64 v5, .int .i64 v6, .int .i64 v7, .int .i64 v8, .slice vp0 vl0 vq0, .slice vp1 vl1 vq1, .slice vp2 vl2 vq2, .int .i64 v9, .int .i64 v10, .bool vb] K → ChgL [E] w W → Calls Tryz.prog 188 #[.pointer (some ⟨E, 5, none⟩), .pointer (some ⟨q0, 0, none⟩), .pointer (some ⟨q1, 0, none⟩)] W fun e w' => e = .returned (.tuple #[]) ∧ ∃ cs' K', Box w' E ([.int .i32 1, .int .u32 0, .int .u32 0, .int .i32 0, .int .u32 0] ++ cs').toArray 166 ∧ EncO w' E d' cs' K' ∧ (∀ b, b ∈ K' → b ∈ K ∨ W.heap.size ≤ b) ∧ ChgL (E :: K) W w') := hch
  have hO' : Hid (EncO w E d [.int .i64 v0, .int .i64 v1, .int .i64 v2, .int .i64 v3, .int .i64 v4, .int .i64 v5, .int .i64 v6, .int .i64 v7, .int .i64 v8, .slice vp0 vl0 vq0, .slice vp1 vl1 vq1, .slice vp2 vl2 vq2, .int .i64 v9, .int .i64 v10, .bool vb] K) := hO
  by_cases hs : v10 = -1
  · have d1 : (v10 != -1) = false := by simpa using hs
    clear hpw hwr hch hO hs
    have hE : E < w.heap.size := hX.lt
    have hmf : ∀ (fn : Fn) (first cap : Array Value) (w : World), (Instr.makeFunc fn first cap).run Tryz.prog w = .ok (.func fn first cap) w := fun _ _ _ _ => rfl
    have bA : Below w.heap.size w (w.alloc (.cells #[.pointer (some ⟨E, 0, none⟩)] 104)) := (Below.refl _ _).alloc (Nat.le_refl _) _
    have P1 : Box (w.alloc (.cells #[.pointer (some ⟨E, 0, none⟩)] 104)) w.heap.size #[.pointer (some ⟨E, 0, none⟩)] 104 := box_new _ _ _
    have X1 := hX.below bA hE
    go_enter_defers Tryz.func154, Tryz.ntmps154
    go_upto_region 1 with fail
    obtain ⟨W1, hW1⟩ : ∃ x, x = w.alloc (.cells #[.pointer (some ⟨E, 0, none⟩)] 104) := ⟨_, rfl⟩
    rw [← hW1] at bA P1 X1 ⊢
    have zW : W1.heap.size = w.heap.size + 1 := by rw [hW1]; simp
    clear hW1
    have hp1 : W1.cell? ⟨w.heap.size, 0, none⟩ = some (.pointer (some ⟨E, 0, none⟩)) := P1.cell 0
    have c0 : W1.cell? ⟨E, 0, none⟩ = some (.int .i32 0) := X1.cell 0
    have f0 : W1.frozen? ⟨E, 0, none⟩ = false := X1.frozen 0
    have X2 : Box (W1.setCell ⟨E, 0, none⟩ (.int .i32 1)) E #[.int .i32 1, .int .u32 0, .int .u32 0, .int .i32 0, .int .u32 0, .int .i64 v0, .int .i64 v1, .int .i64 v2, .int .i64 v3, .int .i64 v4, .int .i64 v5, .int .i64 v6, .int .i64 v7, .int .i64 v8, .slice vp0 vl0 vq0, .slice vp1 vl1 vq1, .slice vp2 vl2 vq2, .int .i64 v9, .int .i64 v10, .bool vb] 166 := X1.setc 0 _
    have P2 : Box (W1.setCell ⟨E, 0, none⟩ (.int .i32 1)) w.heap.size #[.pointer (some ⟨E, 0, none⟩)] 104 := P1.seto 0 _ (by omega)
    have C2' : ChgL [E] w (W1.setCell ⟨E, 0, none⟩ (.int .i32 1)) := (ChgL.of_below bA).st _ 0 _ (by simp)
    go_upto_region 2 with (go_at_call 198; refine (lock_one ⟨E, 0, none⟩ _ c0 f0).mono ?_; rintro e w' ⟨rfl, rfl⟩)
    obtain ⟨W2, hW2⟩ : ∃ x, x = W1.setCell ⟨E, 0, none⟩ (.int .i32 1) := ⟨_, rfl⟩
    rw [← hW2] at X2 P2 C2' ⊢
    have z2 : W2.heap.size = w.heap.size + 1 := by rw [hW2]; simpa using zW
    clear hW2 hp1 c0 f0 X1 P1 bA hX
    have hp2 : W2.cell? ⟨w.heap.size, 0, none⟩ = some (.pointer (some ⟨E, 0, none⟩)) := P2.cell 0
    have x17 : W2.cell? ⟨E, 17, none⟩ = some (.int .i64 v9) := X2.cell 17
    have x18 : W2.cell? ⟨E, 18, none⟩ = some (.int .i64 v10) := X2.cell 18
    go_upto_region 3 with fail
    go_quiet (fail)
    go_upto_region 6 with fail
    obtain ⟨W3, hW3⟩ : ∃ x, x = W2.drewN nq := ⟨_, rfl⟩
    rw [← hW3]
    have X3 : Box W3 E #[.int .i32 1, .int .u32 0, .int .u32 0, .int .i32 0, .int .u32 0, .int .i64 v0, .int .i64 v1, .int .i64 v2, .int .i64 v3, .int .i64 v4, .int .i64 v5, .int .i64 v6, .int .i64 v7, .int .i64 v8, .slice vp0 vl0 vq0, .slice vp1 vl1 vq1, .slice vp2 vl2 vq2, .int .i64 v9, .int .i64 v10, .bool vb] 166 := by rw [hW3]; exact X2
    have P3 : Box W3 w.heap.size #[.pointer (some ⟨E, 0, none⟩)] 104 := by rw [hW3]; exact P2
    have C3' : ChgL [E] w W3 := by rw [hW3]; exact ⟨C2'.os, C2'.tape, C2'.output, C2'.size, C2'.block⟩
    have z3 : W3.heap.size = w.heap.size + 1 := by rw [hW3]; exact z2
    have hp3 : W3.cell? ⟨w.heap.size, 0, none⟩ = some (.pointer (some ⟨E, 0, none⟩)) := P3.cell 0
    clear hW3 X2 P2 C2' z2 hp2 x17 x18
    have O3 := hO'.out.chg C3'
    have CC := (CH.out W3 X3 O3 C3').mono (R' := fun e w' => e = .returned (.tuple #[]) ∧ ∃ y0 y1 y2 y3 y4 y5 y6 y7 y8 yp0 yl0 yq0 yp1 yl1 yq1 yp2 yl2 yq2 y9 y10 yb K', Box w' E #[.int .i32 1, .int .u32 0, .int .u32 0, .int .i32 0, .int .u32 0, .int .i64 y0, .int .i64 y1, .int .i64 y2, .int .i64 y3, .int .i64 y4, .int .i64 y5, .int .i64 y6, .int .i64 y7, .int .i64 y8, .slice yp0 yl0 yq0, .slice yp1 yl1 yq1, .slice yp2 yl2 yq2, .int .i64 y9, .int .i64 y10, .bool yb] 166 ∧ EncO w' E d' [.int .i64 y0, .int .i64 y1, .int .i64 y2, .int .i64 y3, .int .i64 y4, .int .i64 y5, .int .i64 y6, .int .i64 y7, .int .i64 y8, .slice yp0 yl0 yq0, .slice yp1 yl1 yq1, .slice yp2 yl2 yq2, .int .i64 y9, .int .i64 y10, .bool yb] K' ∧ (∀ b, b ∈ K' → b ∈ K ∨ W3.heap.size ≤ b) ∧ ChgL (E :: K) W3 w') (fun e w' ⟨he, cs', K', hX', hO', hs', hC'⟩ => by
      obtain ⟨y0, y1, y2, y3, y4, y5, y6, y7, y8, yp0, yl0, yq0, yp1, yl1, yq1, yp2, yl2, yq2, y9, y10, yb, rfl⟩ := world15L hO'.own
      exact ⟨he, y0, y1, y2, y3, y4, y5, y6, y7, y8, yp0, yl0, yq0, yp1, yl1, yq1, yp2, yl2, yq2, y9, y10, yb, K', hX', hO', hs', hC'⟩)
    have hKl : ∀ b, b ∈ K → b < w.heap.size := fun b hb => layWorld.own_lt hO'.out.own b hb
    go_wp2_with (go_at_call 188; refine CC.mono ?_; rintro e w5 ⟨rfl, y0, y1, y2, y3, y4, y5, y6, y7, y8, yp0, yl0, yq0, yp1, yl1, yq1, yp2, yl2, yq2, y9, y10, yb, K5, X5, O5, s5, C5⟩; have P5 := P3.chgl C5 (by intro hm; rcases List.mem_cons.1 hm with h | h; omega; have := hKl _ h; omega); have hp5 : w5.cell? ⟨w.heap.size, 0, none⟩ = some (.pointer (some ⟨E, 0, none⟩)) := P5.cell 0; have x17 : w5.cell? ⟨E, 17, none⟩ = some (.int .i64 y9) := X5.cell 17; have f17 : w5.frozen? ⟨E, 17, none⟩ = false := X5.frozen 17; have HY9 : Hid (y9 = d'.writes) := writes_of O5.own; have zz : IntKind.i64.wrap (y9 + 1) = y9 + 1 := by rw [IntKind.wrap_i64]; have := HWR.out; have := HY9.out; omega)
    refine leaves_cons (f := 199) (args := #[.pointer (some ⟨E, 0, none⟩)]) (by simp) (by simp [go_sem]) ?_
    have X6 : Box (w5.setCell ⟨E, 17, none⟩ (.int .i64 (y9 + 1))) E #[.int .i32 1, .int .u32 0, .int .u32 0, .int .i32 0, .int .u32 0, .int .i64 y0, .int .i64 y1, .int .i64 y2, .int .i64 y3, .int .i64 y4, .int .i64 y5, .int .i64 y6, .int .i64 y7, .int .i64 y8, .slice yp0 yl0 yq0, .slice yp1 yl1 yq1, .slice yp2 yl2 yq2, .int .i64 (y9 + 1), .int .i64 y10, .bool yb] 166 := X5.setc 17 _
    refine (unlock_door ⟨E, 0, none⟩ _ _ (X6.cell 0) (X6.frozen 0)).mono ?_
    rintro e u' w'' ⟨rfl, rfl, rfl⟩
    have X7 : Box ((w5.setCell ⟨E, 17, none⟩ (.int .i64 (y9 + 1))).setCell ⟨E, 0, none⟩ (.int .i32 0)) E #[.int .i32 0, .int .u32 0, .int .u32 0, .int .i32 0, .int .u32 0, .int .i64 y0, .int .i64 y1, .int .i64 y2, .int .i64 y3, .int .i64 y4, .int .i64 y5, .int .i64 y6, .int .i64 y7, .int .i64 y8, .slice yp0 yl0 yq0, .slice yp1 yl1 yq1, .slice yp2 yl2 yq2, .int .i64 (y9 + 1), .int .i64 y10, .bool yb] 166 := X6.setc 0 _
    have C7 : ChgL [E] w5 ((w5.setCell ⟨E, 17, none⟩ (.int .i64 (y9 + 1))).setCell ⟨E, 0, none⟩ (.int .i32 0)) := ((ChgL.refl _ _).st _ 17 _ (by simp)).st _ 0 _ (by simp)
    have O7 : EncO w5 E { d' with writes := d'.writes + 1 } [.int .i64 y0, .int .i64 y1, .int .i64 y2, .int .i64 y3, .int .i64 y4, .int .i64 y5, .int .i64 y6, .int .i64 y7, .int .i64 y8, .slice yp0 yl0 yq0, .slice yp1 yl1 yq1, .slice yp2 yl2 yq2, .int .i64 (y9 + 1), .int .i64 y10, .bool yb] K5 := by
      rw [← HY9.out]
      exact ⟨own_writesK (y9 + 1) (by have := HWR.out; have := HY9.out; omega) O5.own, O5.nd, O5.ne⟩
    simp only [Leaves, settle]
    refine ⟨_, results_none rfl _ _ _, rfl, _, K5, X7, O7.chg C7, fun b hb => ?_, ?_⟩
    · rcases s5 b hb with h | h
      · exact .inl h
      · exact .inr (by omega)
    · exact (C3'.mono (fun b hb => by simp at hb; simp [hb])).trans (C5.trans (C7.mono (fun b hb => by simp at hb; simp [hb])))
  · have d1 : (v10 != -1) = true := by simpa using hs
    have d2 : decide (v10 ≤ v9) = false := by
      simp only [decide_eq_false_iff_not]
      exact fun h => hpw ⟨hs, h⟩
    clear hpw hwr hch hO hs
    have hE : E < w.heap.size := hX.lt
    have hmf : ∀ (fn : Fn) (first cap : Array Value) (w : World), (Instr.makeFunc fn first cap).run Tryz.prog w = .ok (.func fn first cap) w := fun _ _ _ _ => rfl
    have bA : Below w.heap.size w (w.alloc (.cells #[.pointer (some ⟨E, 0, none⟩)] 104)) := (Below.refl _ _).alloc (Nat.le_refl _) _
    have P1 : Box (w.alloc (.cells #[.pointer (some ⟨E, 0, none⟩)] 104)) w.heap.size #[.pointer (some ⟨E, 0, none⟩)] 104 := box_new _ _ _
    have X1 := hX.below bA hE
    go_enter_defers Tryz.func154, Tryz.ntmps154
    go_upto_region 1 with fail
    obtain ⟨W1, hW1⟩ : ∃ x, x = w.alloc (.cells #[.pointer (some ⟨E, 0, none⟩)] 104) := ⟨_, rfl⟩
    rw [← hW1] at bA P1 X1 ⊢
    have zW : W1.heap.size = w.heap.size + 1 := by rw [hW1]; simp
    clear hW1
    have hp1 : W1.cell? ⟨w.heap.size, 0, none⟩ = some (.pointer (some ⟨E, 0, none⟩)) := P1.cell 0
    have c0 : W1.cell? ⟨E, 0, none⟩ = some (.int .i32 0) := X1.cell 0
    have f0 : W1.frozen? ⟨E, 0, none⟩ = false := X1.frozen 0
    have X2 : Box (W1.setCell ⟨E, 0, none⟩ (.int .i32 1)) E #[.int .i32 1, .int .u32 0, .int .u32 0, .int .i32 0, .int .u32 0, .int .i64 v0, .int .i64 v1, .int .i64 v2, .int .i64 v3, .int .i64 v4, .int .i64 v5, .int .i64 v6, .int .i64 v7, .int .i64 v8, .slice vp0 vl0 vq0, .slice vp1 vl1 vq1, .slice vp2 vl2 vq2, .int .i64 v9, .int .i64 v10, .bool vb] 166 := X1.setc 0 _
    have P2 : Box (W1.setCell ⟨E, 0, none⟩ (.int .i32 1)) w.heap.size #[.pointer (some ⟨E, 0, none⟩)] 104 := P1.seto 0 _ (by omega)
    have C2' : ChgL [E] w (W1.setCell ⟨E, 0, none⟩ (.int .i32 1)) := (ChgL.of_below bA).st _ 0 _ (by simp)
    go_upto_region 2 with (go_at_call 198; refine (lock_one ⟨E, 0, none⟩ _ c0 f0).mono ?_; rintro e w' ⟨rfl, rfl⟩)
    obtain ⟨W2, hW2⟩ : ∃ x, x = W1.setCell ⟨E, 0, none⟩ (.int .i32 1) := ⟨_, rfl⟩
    rw [← hW2] at X2 P2 C2' ⊢
    have z2 : W2.heap.size = w.heap.size + 1 := by rw [hW2]; simpa using zW
    clear hW2 hp1 c0 f0 X1 P1 bA hX
    have hp2 : W2.cell? ⟨w.heap.size, 0, none⟩ = some (.pointer (some ⟨E, 0, none⟩)) := P2.cell 0
    have x17 : W2.cell? ⟨E, 17, none⟩ = some (.int .i64 v9) := X2.cell 17
    have x18 : W2.cell? ⟨E, 18, none⟩ = some (.int .i64 v10) := X2.cell 18
    go_upto_region 3 with fail
    go_quiet (fail)
    go_upto_region 6 with fail
    obtain ⟨W3, hW3⟩ : ∃ x, x = W2.drewN nq := ⟨_, rfl⟩
    rw [← hW3]
    have X3 : Box W3 E #[.int .i32 1, .int .u32 0, .int .u32 0, .int .i32 0, .int .u32 0, .int .i64 v0, .int .i64 v1, .int .i64 v2, .int .i64 v3, .int .i64 v4, .int .i64 v5, .int .i64 v6, .int .i64 v7, .int .i64 v8, .slice vp0 vl0 vq0, .slice vp1 vl1 vq1, .slice vp2 vl2 vq2, .int .i64 v9, .int .i64 v10, .bool vb] 166 := by rw [hW3]; exact X2
    have P3 : Box W3 w.heap.size #[.pointer (some ⟨E, 0, none⟩)] 104 := by rw [hW3]; exact P2
    have C3' : ChgL [E] w W3 := by rw [hW3]; exact ⟨C2'.os, C2'.tape, C2'.output, C2'.size, C2'.block⟩
    have z3 : W3.heap.size = w.heap.size + 1 := by rw [hW3]; exact z2
    have hp3 : W3.cell? ⟨w.heap.size, 0, none⟩ = some (.pointer (some ⟨E, 0, none⟩)) := P3.cell 0
    clear hW3 X2 P2 C2' z2 hp2 x17 x18
    have O3 := hO'.out.chg C3'
    have CC := (CH.out W3 X3 O3 C3').mono (R' := fun e w' => e = .returned (.tuple #[]) ∧ ∃ y0 y1 y2 y3 y4 y5 y6 y7 y8 yp0 yl0 yq0 yp1 yl1 yq1 yp2 yl2 yq2 y9 y10 yb K', Box w' E #[.int .i32 1, .int .u32 0, .int .u32 0, .int .i32 0, .int .u32 0, .int .i64 y0, .int .i64 y1, .int .i64 y2, .int .i64 y3, .int .i64 y4, .int .i64 y5, .int .i64 y6, .int .i64 y7, .int .i64 y8, .slice yp0 yl0 yq0, .slice yp1 yl1 yq1, .slice yp2 yl2 yq2, .int .i64 y9, .int .i64 y10, .bool yb] 166 ∧ EncO w' E d' [.int .i64 y0, .int .i64 y1, .int .i64 y2, .int .i64 y3, .int .i64 y4, .int .i64 y5, .int .i64 y6, .int .i64 y7, .int .i64 y8, .slice yp0 yl0 yq0, .slice yp1 yl1 yq1, .slice yp2 yl2 yq2, .int .i64 y9, .int .i64 y10, .bool yb] K' ∧ (∀ b, b ∈ K' → b ∈ K ∨ W3.heap.size ≤ b) ∧ ChgL (E :: K) W3 w') (fun e w' ⟨he, cs', K', hX', hO', hs', hC'⟩ => by
      obtain ⟨y0, y1, y2, y3, y4, y5, y6, y7, y8, yp0, yl0, yq0, yp1, yl1, yq1, yp2, yl2, yq2, y9, y10, yb, rfl⟩ := world15L hO'.own
      exact ⟨he, y0, y1, y2, y3, y4, y5, y6, y7, y8, yp0, yl0, yq0, yp1, yl1, yq1, yp2, yl2, yq2, y9, y10, yb, K', hX', hO', hs', hC'⟩)
    have hKl : ∀ b, b ∈ K → b < w.heap.size := fun b hb => layWorld.own_lt hO'.out.own b hb
    go_wp2_with (go_at_call 188; refine CC.mono ?_; rintro e w5 ⟨rfl, y0, y1, y2, y3, y4, y5, y6, y7, y8, yp0, yl0, yq0, yp1, yl1, yq1, yp2, yl2, yq2, y9, y10, yb, K5, X5, O5, s5, C5⟩; have P5 := P3.chgl C5 (by intro hm; rcases List.mem_cons.1 hm with h | h; omega; have := hKl _ h; omega); have hp5 : w5.cell? ⟨w.heap.size, 0, none⟩ = some (.pointer (some ⟨E, 0, none⟩)) := P5.cell 0; have x17 : w5.cell? ⟨E, 17, none⟩ = some (.int .i64 y9) := X5.cell 17; have f17 : w5.frozen? ⟨E, 17, none⟩ = false := X5.frozen 17; have HY9 : Hid (y9 = d'.writes) := writes_of O5.own; have zz : IntKind.i64.wrap (y9 + 1) = y9 + 1 := by rw [IntKind.wrap_i64]; have := HWR.out; have := HY9.out; omega)
    refine leaves_cons (f := 199) (args := #[.pointer (some ⟨E, 0, none⟩)]) (by simp) (by simp [go_sem]) ?_
    have X6 : Box (w5.setCell ⟨E, 17, none⟩ (.int .i64 (y9 + 1))) E #[.int .i32 1, .int .u32 0, .int .u32 0, .int .i32 0, .int .u32 0, .int .i64 y0, .int .i64 y1, .int .i64 y2, .int .i64 y3, .int .i64 y4, .int .i64 y5, .int .i64 y6, .int .i64 y7, .int .i64 y8, .slice yp0 yl0 yq0, .slice yp1 yl1 yq1, .slice yp2 yl2 yq2, .int .i64 (y9 + 1), .int .i64 y10, .bool yb] 166 := X5.setc 17 _
    refine (unlock_door ⟨E, 0, none⟩ _ _ (X6.cell 0) (X6.frozen 0)).mono ?_
    rintro e u' w'' ⟨rfl, rfl, rfl⟩
    have X7 : Box ((w5.setCell ⟨E, 17, none⟩ (.int .i64 (y9 + 1))).setCell ⟨E, 0, none⟩ (.int .i32 0)) E #[.int .i32 0, .int .u32 0, .int .u32 0, .int .i32 0, .int .u32 0, .int .i64 y0, .int .i64 y1, .int .i64 y2, .int .i64 y3, .int .i64 y4, .int .i64 y5, .int .i64 y6, .int .i64 y7, .int .i64 y8, .slice yp0 yl0 yq0, .slice yp1 yl1 yq1, .slice yp2 yl2 yq2, .int .i64 (y9 + 1), .int .i64 y10, .bool yb] 166 := X6.setc 0 _
    have C7 : ChgL [E] w5 ((w5.setCell ⟨E, 17, none⟩ (.int .i64 (y9 + 1))).setCell ⟨E, 0, none⟩ (.int .i32 0)) := ((ChgL.refl _ _).st _ 17 _ (by simp)).st _ 0 _ (by simp)
    have O7 : EncO w5 E { d' with writes := d'.writes + 1 } [.int .i64 y0, .int .i64 y1, .int .i64 y2, .int .i64 y3, .int .i64 y4, .int .i64 y5, .int .i64 y6, .int .i64 y7, .int .i64 y8, .slice yp0 yl0 yq0, .slice yp1 yl1 yq1, .slice yp2 yl2 yq2, .int .i64 (y9 + 1), .int .i64 y10, .bool yb] K5 := by
      rw [← HY9.out]
      exact ⟨own_writesK (y9 + 1) (by have := HWR.out; have := HY9.out; omega) O5.own, O5.nd, O5.ne⟩
    simp only [Leaves, settle]
    refine ⟨_, results_none rfl _ _ _, rfl, _, K5, X7, O7.chg C7, fun b hb => ?_, ?_⟩
    · rcases s5 b hb with h | h
      · exact .inl h
      · exact .inr (by omega)
    · exact (C3'.mono (fun b hb => by simp at hb; simp [hb])).trans (C5.trans (C7.mono (fun b hb => by simp at hb; simp [hb])))
end Go.Proofs.YtfafbojaeedhfaaGreat

namespace Go.Proofs.YtfafbojaeedhfaaGreat
open Go.RowKit F256
set_option linter.unusedVariables false
set_option linter.unusedSimpArgs false
theorem size_R : (Tryz.prog.info? 78).map (·.size) = some 9 := by kernel_rfl
set_option maxHeartbeats 8000000 in
set_option maxRecDepth 20000 in
theorem append_ok (E : Nat) (v0 v1 v2 v3 v4 v5 v6 v7 v8 vp0 vl0 vq0 vp1 vl1 vq1 vp2 vl2 vq2 v9 v10 vb : _) (d : WorldD) (K : List Nat) (T : Nat) (r : RecD) (o6 o7 o8 : Option Addr) (k6 k7 k8 hi : Nat) (w : World) (hX : Box w E #[.int .i32 0, .int .u32 0, .int .u32 0, .int .i32 0, .int .u32 0, .int .i64 v0, .int .i64 v1, .int .i64 v2, .int .i64 v3, .int .i64 v4, .int .i64 v5, .int .i64 v6, .int .i64 v7, .int .i64 v8, .slice vp0 vl0 vq0, .slice vp1 vl1 vq1, .slice vp2 vl2 vq2, .int .i64 v9, .int .i64 v10, .bool vb] 166) (hO : EncO w E d [.int .i64 v0, .int .i64 v1, .int .i64 v2, .int .i64 v3, .int .i64 v4, .int .i64 v5, .int .i64 v6, .int .i64 v7, .int .i64 v8, .slice vp0 vl0 vq0, .slice vp1 vl1 vq1, .slice vp2 vl2 vq2, .int .i64 v9, .int .i64 v10, .bool vb] K) (hT : T < d.tapes.1) (hn : (d.tapes.2 T).recs.1 ≤ 10000000) (hr : layRec.rd w hi r [.int .i64 r.kind, .int .i64 r.seq, .string r.name, .int .i64 r.length, .int .i64 r.group, .int .i64 r.row, .slice o6 r.rows.1 k6, .slice o7 r.data.1 k7, .slice o8 r.delta.1 k8]) (hiE : hi ≤ E) (hsr : szRecD r ≤ 1048576) (hpw : ¬ (v10 ≠ -1 ∧ v10 ≤ v9)) (hwr : -9223372036854775808 ≤ d.writes ∧ d.writes + 1 ≤ 9223372036854775807) :
    Calls Tryz.prog 130 #[.pointer (some ⟨E, 0, none⟩), .int .i64 (T : Int), .agg #[.int .i64 r.kind, .int .i64 r.seq, .string r.name, .int .i64 r.length, .int .i64 r.group, .int .i64 r.row, .slice o6 r.rows.1 k6, .slice o7 r.data.1 k7, .slice o8 r.delta.1 k8]] w fun e w' => e = .returned (.tuple #[]) ∧ ∃ cs' K', Box w' E (([.int .i32 0, .int .u32 0, .int .u32 0, .int .i32 0, .int .u32 0] : List Value) ++ cs').toArray 166 ∧ EncO w' E { appendW d T r with writes := d.writes + 1 } cs' K' ∧ (∀ b, b ∈ K' → b ∈ K ∨ w.heap.size ≤ b) ∧ ChgL (E :: K) w w' := by
  have hmf : ∀ (fn : Fn) (first cap : Array Value) (w : World), (Instr.makeFunc fn first cap).run Tryz.prog w = .ok (.func fn first cap) w := fun _ _ _ _ => rfl
  have hE : E < w.heap.size := hX.lt
  have TB := two_newb w #[.int .i64 (T : Int)] #[.int .i64 r.kind, .int .i64 r.seq, .string r.name, .int .i64 r.length, .int .i64 r.group, .int .i64 r.row, .slice o6 r.rows.1 k6, .slice o7 r.data.1 k7, .slice o8 r.delta.1 k8] 2 78
  have X1 := hX.below TB.bel hE
  go_enter Tryz.func130, Tryz.ntmps130
  go_upto_region 1 with fail
  obtain ⟨W, hW⟩ : ∃ x, x = ((w.alloc (.cells #[.int .i64 (T : Int)] 2)).alloc (.cells #[.int .i64 r.kind, .int .i64 r.seq, .string r.name, .int .i64 r.length, .int .i64 r.group, .int .i64 r.row, .slice o6 r.rows.1 k6, .slice o7 r.data.1 k7, .slice o8 r.delta.1 k8] 78)) := ⟨_, rfl⟩
  rw [← hW] at TB X1 ⊢
  have zW : w.heap.size ≤ W.heap.size := TB.bel.size
  clear hW hX
  have O1 : EncO W E d [.int .i64 v0, .int .i64 v1, .int .i64 v2, .int .i64 v3, .int .i64 v4, .int .i64 v5, .int .i64 v6, .int .i64 v7, .int .i64 v8, .slice vp0 vl0 vq0, .slice vp1 vl1 vq1, .slice vp2 vl2 vq2, .int .i64 v9, .int .i64 v10, .bool vb] K := ⟨Lay.own_kept _ hO.own (fun b hb => TB.bel.block b (layWorld.own_lt hO.own b hb)), hO.nd, hO.ne⟩
  have CR := rawWrite_append E v0 v1 v2 v3 v4 v5 v6 v7 v8 vp0 vl0 vq0 vp1 vl1 vq1 vp2 vl2 vq2 v9 v10 vb d (appendW d T r) K w.heap.size (w.heap.size + 1) W X1 O1 hpw hwr (fun W' hX' hO' hC' => appendChange E d _ K _ _ T r o6 o7 o8 k6 k7 k8 hi hT hn W' hX' hO' ((World.cell?_of_block (hC'.block w.heap.size TB.b1.lt (by simp; omega))).trans (TB.b1.cell 0)) (TB.b2.chgl hC' (by simp; omega)) (layRec.rd_below (layRec.rd_below hr TB.bel (by omega)) (hC'.bel (B := hi) (fun b hb => by simp at hb; omega) (by omega)) (Nat.le_refl _)) (by have := hC'.size; omega) hsr ⟨by have := hC'.size; have := TB.b2.lt; omega, fun hb => by have := layWorld.own_lt hO.own _ hb; omega⟩ (fun hb => by have := layWorld.own_lt hO.own _ hb; omega))
  have HCR := CR
  clear CR hO hpw hwr O1 X1
  go_wp2_with (go_at_call 154; refine HCR.mono ?_; rintro e w5 ⟨rfl, cs', K', X5, O5, s5, C5⟩)
  go_end0
  exact ⟨rfl, cs', K', X5, O5, fun b hb => (s5 b hb).imp id (fun h => by omega), (ChgL.of_below TB.bel).trans C5⟩
set_option maxHeartbeats 8000000 in
set_option maxRecDepth 20000 in
theorem append_fail (E : Nat) (v0 v1 v2 v3 v4 v5 v6 v7 v8 vp0 vl0 vq0 vp1 vl1 vq1 vp2 vl2 vq2 v9 v10 vb : _) (d : WorldD) (K : List Nat) (T : Nat) (r : RecD) (o6 o7 o8 : Option Addr) (k6 k7 k8 hi : Nat) (w : World) (hX : Box w E #[.int .i32 0, .int .u32 0, .int .u32 0, .int .i32 0, .int .u32 0, .int .i64 v0, .int .i64 v1, .int .i64 v2, .int .i64 v3, .int .i64 v4, .int .i64 v5, .int .i64 v6, .int .i64 v7, .int .i64 v8, .slice vp0 vl0 vq0, .slice vp1 vl1 vq1, .slice vp2 vl2 vq2, .int .i64 v9, .int .i64 v10, .bool vb] 166) (h1 : ∀ x, x ∈ ([.int .i64 v0, .int .i64 v1, .int .i64 v2, .int .i64 v3, .int .i64 v4, .int .i64 v5, .int .i64 v6, .int .i64 v7, .int .i64 v8, .slice vp0 vl0 vq0, .slice none 0 0, .slice vp2 vl2 vq2, .int .i64 v9, .int .i64 v10, .bool true] : List Value) → x.oneCell' = true) (hs : v10 ≠ -1) (hw : v10 ≤ v9) :
    Calls Tryz.prog 130 #[.pointer (some ⟨E, 0, none⟩), .int .i64 (T : Int), .agg #[.int .i64 r.kind, .int .i64 r.seq, .string r.name, .int .i64 r.length, .int .i64 r.group, .int .i64 r.row, .slice o6 r.rows.1 k6, .slice o7 r.data.1 k7, .slice o8 r.delta.1 k8]] w fun e w' => e = .panicked [{ v := .iface 199 (.agg #[]), recovered := false }] ∧ Box w' E #[.int .i32 0, .int .u32 0, .int .u32 1, .int .i32 0, .int .u32 0, .int .i64 v0, .int .i64 v1, .int .i64 v2, .int .i64 v3, .int .i64 v4, .int .i64 v5, .int .i64 v6, .int .i64 v7, .int .i64 v8, .slice vp0 vl0 vq0, .slice none 0 0, .slice vp2 vl2 vq2, .int .i64 v9, .int .i64 v10, .bool true] 166 ∧ ChgL [E] w w' := by
  have hmf : ∀ (fn : Fn) (first cap : Array Value) (w : World), (Instr.makeFunc fn first cap).run Tryz.prog w = .ok (.func fn first cap) w := fun _ _ _ _ => rfl
  have hE : E < w.heap.size := hX.lt
  have TB := two_newb w #[.int .i64 (T : Int)] #[.int .i64 r.kind, .int .i64 r.seq, .string r.name, .int .i64 r.length, .int .i64 r.group, .int .i64 r.row, .slice o6 r.rows.1 k6, .slice o7 r.data.1 k7, .slice o8 r.delta.1 k8] 2 78
  have X1 := hX.below TB.bel hE
  go_enter Tryz.func130, Tryz.ntmps130
  go_upto_region 1 with fail
  obtain ⟨W, hW⟩ : ∃ x, x = ((w.alloc (.cells #[.int .i64 (T : Int)] 2)).alloc (.cells #[.int .i64 r.kind, .int .i64 r.seq, .string r.name, .int .i64 r.length, .int .i64 r.group, .int .i64 r.row, .slice o6 r.rows.1 k6, .slice o7 r.data.1 k7, .slice o8 r.delta.1 k8] 78)) := ⟨_, rfl⟩
  rw [← hW] at TB X1 ⊢
  have zW : w.heap.size ≤ W.heap.size := TB.bel.size
  clear hW hX
  have CR := fun fv => rawWrite_fail E v0 v1 v2 v3 v4 v5 v6 v7 v8 vp0 vl0 vq0 vp1 vl1 vq1 vp2 vl2 vq2 v9 v10 vb fv W X1 h1 hs hw
  clear h1 hs hw X1
  go_wp2_with (go_at_call 154; refine (CR _).mono ?_; rintro e w5 ⟨rfl, X5, C5⟩)
  exact ⟨rfl, rfl, X5, (ChgL.of_below TB.bel).trans C5⟩
set_option maxHeartbeats 8000000 in
theorem appendWork_ok (E : Nat) (v0 v1 v2 v3 v4 v5 v6 v7 v8 vp0 vl0 vq0 vp1 vl1 vq1 vp2 vl2 vq2 v9 v10 vb : _) (d : WorldD) (K : List Nat) (T : Nat) (r : RecD) (o6 o7 o8 : Option Addr) (k6 k7 k8 hi : Nat) (w : World) (hX : Box w E #[.int .i32 0, .int .u32 0, .int .u32 0, .int .i32 0, .int .u32 0, .int .i64 v0, .int .i64 v1, .int .i64 v2, .int .i64 v3, .int .i64 v4, .int .i64 v5, .int .i64 v6, .int .i64 v7, .int .i64 v8, .slice vp0 vl0 vq0, .slice vp1 vl1 vq1, .slice vp2 vl2 vq2, .int .i64 v9, .int .i64 v10, .bool vb] 166) (a0 a1 : Nat) (h0 : w.cell? ⟨a0, 0, none⟩ = some (.int .i64 (T : Int))) (h01 : Box w a1 #[.int .i64 r.kind, .int .i64 r.seq, .string r.name, .int .i64 r.length, .int .i64 r.group, .int .i64 r.row, .slice o6 r.rows.1 k6, .slice o7 r.data.1 k7, .slice o8 r.delta.1 k8] 78) (hO : EncO w E d [.int .i64 v0, .int .i64 v1, .int .i64 v2, .int .i64 v3, .int .i64 v4, .int .i64 v5, .int .i64 v6, .int .i64 v7, .int .i64 v8, .slice vp0 vl0 vq0, .slice vp1 vl1 vq1, .slice vp2 vl2 vq2, .int .i64 v9, .int .i64 v10, .bool vb] K) (hT : T < d.tapes.1) (hn : (d.tapes.2 T).recs.1 ≤ 10000000) (hr : layRec.rd w hi r [.int .i64 r.kind, .int .i64 r.seq, .string r.name, .int .i64 r.length, .int .i64 r.group, .int .i64 r.row, .slice o6 r.rows.1 k6, .slice o7 r.data.1 k7, .slice o8 r.delta.1 k8]) (hiE : hi ≤ E) (hsr : szRecD r ≤ 1048576) (hpw : ¬ (v10 ≠ -1 ∧ v10 ≤ v9)) (hwr : -9223372036854775808 ≤ d.writes ∧ d.writes + 1 ≤ 9223372036854775807) :
    Calls Tryz.prog 129 #[.pointer (some ⟨E, 0, none⟩), .pointer (some ⟨a0, 0, none⟩), .pointer (some ⟨a1, 0, none⟩)] w fun e w' => e = .returned (.tuple #[]) ∧ ∃ cs' K', Box w' E (([.int .i32 0, .int .u32 0, .int .u32 0, .int .i32 0, .int .u32 0] : List Value) ++ cs').toArray 166 ∧ EncO w' E { appendW d T r with writes := d.writes + 1 } cs' K' ∧ (∀ b, b ∈ K' → b ∈ K ∨ w.heap.size ≤ b) ∧ ChgL (E :: K) w w' := by
  have CR := append_ok E v0 v1 v2 v3 v4 v5 v6 v7 v8 vp0 vl0 vq0 vp1 vl1 vq1 vp2 vl2 vq2 v9 v10 vb d K T r o6 o7 o8 k6 k7 k8 hi w hX hO hT hn hr hiE hsr hpw hwr
  clear hX hO hT hn hr hiE hsr hpw hwr
  go_enter Tryz.func129, Tryz.ntmps129
  go_wp2_with (first | (refine wp_loadBox 78 (.tmp 2) rfl rfl (a1) rfl (cs := [.int .i64 r.kind, .int .i64 r.seq, .string r.name, .int .i64 r.length, .int .i64 r.group, .int .i64 r.row, .slice o6 r.rows.1 k6, .slice o7 r.data.1 k7, .slice o8 r.delta.1 k8]) (h01) Tryz.underlying78 size_R rfl ?_) | (go_at_call 130; refine CR.mono ?_; rintro e w5 ⟨rfl, cs', K', X5, O5, s5, C5⟩))
  go_end0
  exact ⟨rfl, cs', K', X5, O5, s5, C5⟩
set_option maxHeartbeats 8000000 in
theorem appendWork_fail (E : Nat) (v0 v1 v2 v3 v4 v5 v6 v7 v8 vp0 vl0 vq0 vp1 vl1 vq1 vp2 vl2 vq2 v9 v10 vb : _) (d : WorldD) (K : List Nat) (T : Nat) (r : RecD) (o6 o7 o8 : Option Addr) (k6 k7 k8 hi : Nat) (w : World) (hX : Box w E #[.int .i32 0, .int .u32 0, .int .u32 0, .int .i32 0, .int .u32 0, .int .i64 v0, .int .i64 v1, .int .i64 v2, .int .i64 v3, .int .i64 v4, .int .i64 v5, .int .i64 v6, .int .i64 v7, .int .i64 v8, .slice vp0 vl0 vq0, .slice vp1 vl1 vq1, .slice vp2 vl2 vq2, .int .i64 v9, .int .i64 v10, .bool vb] 166) (a0 a1 : Nat) (h0 : w.cell? ⟨a0, 0, none⟩ = some (.int .i64 (T : Int))) (h01 : Box w a1 #[.int .i64 r.kind, .int .i64 r.seq, .string r.name, .int .i64 r.length, .int .i64 r.group, .int .i64 r.row, .slice o6 r.rows.1 k6, .slice o7 r.data.1 k7, .slice o8 r.delta.1 k8] 78) (h1 : ∀ x, x ∈ ([.int .i64 v0, .int .i64 v1, .int .i64 v2, .int .i64 v3, .int .i64 v4, .int .i64 v5, .int .i64 v6, .int .i64 v7, .int .i64 v8, .slice vp0 vl0 vq0, .slice none 0 0, .slice vp2 vl2 vq2, .int .i64 v9, .int .i64 v10, .bool true] : List Value) → x.oneCell' = true) (hs : v10 ≠ -1) (hw : v10 ≤ v9) :
    Calls Tryz.prog 129 #[.pointer (some ⟨E, 0, none⟩), .pointer (some ⟨a0, 0, none⟩), .pointer (some ⟨a1, 0, none⟩)] w fun e w' => e = .panicked [{ v := .iface 199 (.agg #[]), recovered := false }] ∧ Box w' E #[.int .i32 0, .int .u32 0, .int .u32 1, .int .i32 0, .int .u32 0, .int .i64 v0, .int .i64 v1, .int .i64 v2, .int .i64 v3, .int .i64 v4, .int .i64 v5, .int .i64 v6, .int .i64 v7, .int .i64 v8, .slice vp0 vl0 vq0, .slice none 0 0, .slice vp2 vl2 vq2, .int .i64 v9, .int .i64 v10, .bool true] 166 ∧ ChgL [E] w w' := by
  have CR := append_fail E v0 v1 v2 v3 v4 v5 v6 v7 v8 vp0 vl0 vq0 vp1 vl1 vq1 vp2 vl2 vq2 v9 v10 vb d K T r o6 o7 o8 k6 k7 k8 hi w hX h1 hs hw
  clear hX h1 hs hw
  go_enter Tryz.func129, Tryz.ntmps129
  go_wp2_with (first | (refine wp_loadBox 78 (.tmp 2) rfl rfl (a1) rfl (cs := [.int .i64 r.kind, .int .i64 r.seq, .string r.name, .int .i64 r.length, .int .i64 r.group, .int .i64 r.row, .slice o6 r.rows.1 k6, .slice o7 r.data.1 k7, .slice o8 r.delta.1 k8]) (h01) Tryz.underlying78 size_R rfl ?_) | (go_at_call 130; refine CR.mono ?_; rintro e w5 ⟨rfl, X5, C5⟩))
  exact ⟨rfl, rfl, X5, C5⟩
set_option maxHeartbeats 16000000 in
set_option maxRecDepth 100000 in
theorem power_append (d : WorldD) (cs : List Value) (hi : Nat) (T : Nat) (r : RecD) (o6 o7 o8 : Option Addr) (k6 k7 k8 hir : Nat) (a0 a1 : Nat) (w : World) (h : layWorld.rd w hi d cs) (hhi : hi ≤ w.heap.size) (hsz : szWorldD d ≤ 1048576) (hc0 : w.cell? ⟨a0, 0, none⟩ = some (.int .i64 (T : Int))) (hl0 : a0 < w.heap.size) (hc1 : Box w a1 #[.int .i64 r.kind, .int .i64 r.seq, .string r.name, .int .i64 r.length, .int .i64 r.group, .int .i64 r.row, .slice o6 r.rows.1 k6, .slice o7 r.data.1 k7, .slice o8 r.delta.1 k8] 78) (hT : T < d.tapes.1) (hn : (d.tapes.2 T).recs.1 ≤ 10000000) (hr : layRec.rd w hir r [.int .i64 r.kind, .int .i64 r.seq, .string r.name, .int .i64 r.length, .int .i64 r.group, .int .i64 r.row, .slice o6 r.rows.1 k6, .slice o7 r.data.1 k7, .slice o8 r.delta.1 k8]) (hhr : hir ≤ w.heap.size) (hsr : szRecD r ≤ 1048576) (hwr : -9223372036854775808 ≤ d.writes ∧ d.writes + 1 ≤ 9223372036854775807) (P : WorldResultD → Prop) (hPf : d.stop ≠ -1 ∧ d.stop ≤ d.writes → P ⟨9, cutW d⟩) (hPo : ¬ (d.stop ≠ -1 ∧ d.stop ≤ d.writes) → P ⟨0, { appendW d T r with writes := d.writes + 1 }⟩) :
    Calls Tryz.prog 87 #[.agg cs.toArray, .func (.func 129) #[] #[.pointer (some ⟨a0, 0, none⟩), .pointer (some ⟨a1, 0, none⟩)]] w (ResPost P w) := by
  obtain ⟨v0, v1, v2, v3, v4, v5, v6, v7, v8, vp0, vl0, vq0, vp1, vl1, vq1, vp2, vl2, vq2, v9, v10, vb, rfl⟩ := world15 h
  have hmf : ∀ (fn : Fn) (first cap : Array Value) (w : World), (Instr.makeFunc fn first cap).run Tryz.prog w = .ok (.func fn first cap) w := fun _ _ _ _ => rfl
  have T0 := two_newb w #[.int .i64 v0, .int .i64 v1, .int .i64 v2, .int .i64 v3, .int .i64 v4, .int .i64 v5, .int .i64 v6, .int .i64 v7, .int .i64 v8, .slice vp0 vl0 vq0, .slice vp1 vl1 vq1, .slice vp2 vl2 vq2, .int .i64 v9, .int .i64 v10, .bool vb] #[.int .i64 0, .int .i64 0, .int .i64 0, .int .i64 0, .int .i64 0, .int .i64 0, .int .i64 0, .int .i64 0, .int .i64 0, .int .i64 0, .slice none 0 0, .slice none 0 0, .slice none 0 0, .int .i64 0, .int .i64 0, .bool false] 30 34
  have CC := fun w' (hb : Below w.heap.size w w') => copyWorld_is [.int .i64 v0, .int .i64 v1, .int .i64 v2, .int .i64 v3, .int .i64 v4, .int .i64 v5, .int .i64 v6, .int .i64 v7, .int .i64 v8, .slice vp0 vl0 vq0, .slice vp1 vl1 vq1, .slice vp2 vl2 vq2, .int .i64 v9, .int .i64 v10, .bool vb] d hi w' (layWorld.rd_below h hb hhi) (Nat.le_trans hhi hb.size) hsz
  clear h
  go_enter_defers Tryz.func87, Tryz.ntmps87
  go_wp2_with (refine wp_loadBox 30 (.tmp 2) rfl rfl (w.heap.size) rfl (cs := [.int .i64 v0, .int .i64 v1, .int .i64 v2, .int .i64 v3, .int .i64 v4, .int .i64 v5, .int .i64 v6, .int .i64 v7, .int .i64 v8, .slice vp0 vl0 vq0, .slice vp1 vl1 vq1, .slice vp2 vl2 vq2, .int .i64 v9, .int .i64 v10, .bool vb]) (T0.b1) Tryz.underlying30 size_W rfl ?_)
  refine (CC _ T0.bel).mono ?_
  rintro e w2 ⟨c2, rfl, o2, b2⟩
  obtain ⟨u0, u1, u2, u3, u4, u5, u6, u7, u8, up0, ul0, uq0, up1, ul1, uq1, up2, ul2, uq2, u9, u10, ub, rfl⟩ := world15O o2
  have T2 := T0.call b2
  have z2 : w.heap.size + 1 < w2.heap.size := T2.b2.lt
  have TB := two_newb w2 #[.int .i32 0, .int .u32 0, .int .u32 0, .int .i32 0, .int .u32 0, .int .i64 u0, .int .i64 u1, .int .i64 u2, .int .i64 u3, .int .i64 u4, .int .i64 u5, .int .i64 u6, .int .i64 u7, .int .i64 u8, .slice up0 ul0 uq0, .slice up1 ul1 uq1, .slice up2 ul2 uq2, .int .i64 u9, .int .i64 u10, .bool ub] #[.pointer (some ⟨w2.heap.size, 0, none⟩)] 166 104
  obtain ⟨K, hk1, hk2, hk3⟩ := o2
  have hkz : ∀ b, b ∈ K → w.heap.size ≤ b ∧ b < w2.heap.size := fun b hb => ⟨by have := hk3 b hb; simp at this; omega, (hk3 b hb).2⟩
  go_upto_region 2 with fail
  obtain ⟨W3, hW3⟩ : ∃ x, x = (w2.alloc (.cells #[.int .i32 0, .int .u32 0, .int .u32 0, .int .i32 0, .int .u32 0, .int .i64 u0, .int .i64 u1, .int .i64 u2, .int .i64 u3, .int .i64 u4, .int .i64 u5, .int .i64 u6, .int .i64 u7, .int .i64 u8, .slice up0 ul0 uq0, .slice up1 ul1 uq1, .slice up2 ul2 uq2, .int .i64 u9, .int .i64 u10, .bool ub] 166)).alloc (.cells #[.pointer (some ⟨w2.heap.size, 0, none⟩)] 104) := ⟨_, rfl⟩
  rw [← hW3] at TB ⊢
  clear hW3
  have T3 := T2.call TB.bel
  have O3 : EncO W3 w2.heap.size d [.int .i64 u0, .int .i64 u1, .int .i64 u2, .int .i64 u3, .int .i64 u4, .int .i64 u5, .int .i64 u6, .int .i64 u7, .int .i64 u8, .slice up0 ul0 uq0, .slice up1 ul1 uq1, .slice up2 ul2 uq2, .int .i64 u9, .int .i64 u10, .bool ub] K := ⟨Lay.own_kept _ hk1 (fun b hb => TB.bel.block b (hkz b hb).2), hk2, fun hb => by have := hkz _ hb; omega⟩
  have z3 : w2.heap.size + 1 < W3.heap.size := TB.b2.lt
  have hst := stop_of hk1
  have hwt := writes_of hk1
  have q0 : W3.cell? ⟨a0, 0, none⟩ = some (.int .i64 (T : Int)) := (T3.bel.cell (p := ⟨a0, 0, none⟩) hl0).trans hc0
  have q1 : Box W3 a1 #[.int .i64 r.kind, .int .i64 r.seq, .string r.name, .int .i64 r.length, .int .i64 r.group, .int .i64 r.row, .slice o6 r.rows.1 k6, .slice o7 r.data.1 k7, .slice o8 r.delta.1 k8] 78 := hc1.below T3.bel hc1.lt
  have x5 : W3.cell? ⟨w2.heap.size + 1, 0, none⟩ = some (.pointer (some ⟨w2.heap.size, 0, none⟩)) := TB.b2.cell 0
  by_cases hf : u10 ≠ -1 ∧ u10 ≤ u9
  · have hP : P ⟨9, cutW d⟩ := hPf (by rw [← hst, ← hwt]; exact hf)
    obtain ⟨KC, kc1, kc2, kc3⟩ := own_cutK hk1 hk2
    have CF := appendWork_fail w2.heap.size u0 u1 u2 u3 u4 u5 u6 u7 u8 up0 ul0 uq0 up1 ul1 uq1 up2 ul2 uq2 u9 u10 ub d K T r o6 o7 o8 k6 k7 k8 hir W3 TB.b1 a0 a1 q0 q1 (fun x hx => layWorld.own_one kc1 x hx) hf.1 hf.2
    have HS : Hid (u10 = d.stop ∧ u9 = d.writes) := ⟨hst, hwt⟩
    clear hst hwt hf hPf hPo
    go_wp2_with (go_at_call 129; refine CF.mono ?_; rintro e w5 ⟨rfl, X5, C5⟩)
    have hR5 := T3.b2.chgl C5 (by simp; omega)
    have P5 := TB.b2.chgl C5 (by simp)
    refine leaves_cons (f := 153) (args := #[.pointer (some ⟨w.heap.size + 1, 0, none⟩), .pointer (some ⟨w2.heap.size + 1, 0, none⟩)]) (by simp) (by simp [go_sem]) ?_
    refine (tell_panic _ _ (w.heap.size + 1) (w2.heap.size + 1) w2.heap.size 0 1 0 _ _ _ _ _ _ _ _ _ _ _ _ _ _ _ _ _ _ _ _ _ _ hR5 (P5.cell 0) X5 (by omega) (by omega)).mono ?_
    rintro e u' w7 ⟨rfl, rfl, R7, C7⟩
    simp only [settle, Leaves, List.dropWhile]
    have z5 := C5.size
    have z7 := C7.size
    have B5 : Below w.heap.size w w5 := T3.bel.trans (C5.bel (fun b hb => by simp at hb; omega) T3.bel.size)
    have B7 : Below w.heap.size w w7 := B5.trans (C7.bel (fun b hb => by simp at hb; omega) B5.size)
    have O7 : OwnT layWorld w7 w.heap.size w7.heap.size (cutW d) [.int .i64 u0, .int .i64 u1, .int .i64 u2, .int .i64 u3, .int .i64 u4, .int .i64 u5, .int .i64 u6, .int .i64 u7, .int .i64 u8, .slice up0 ul0 uq0, .slice none 0 0, .slice up2 ul2 uq2, .int .i64 u9, .int .i64 u10, .bool true] := by
      refine ⟨KC, ?_, kc2, fun b hb => ⟨(hkz b (kc3 b hb)).1, by have := hkz b (kc3 b hb); omega⟩⟩
      refine Lay.own_chgL _ (Lay.own_chgL _ (Lay.own_kept _ kc1 (fun b hb => TB.bel.block b (hkz b (kc3 b hb)).2)) C5 (fun b hb hm => ?_)) C7 (fun b hb hm => ?_)
      · simp at hm; have := hkz b (kc3 b hb); omega
      · simp at hm; have := hk3 b (kc3 b hb); have := T0.b2.lt; omega
    have hT : ResPost P w (.returned (.agg #[.int .i64 9, .int .i64 u0, .int .i64 u1, .int .i64 u2, .int .i64 u3, .int .i64 u4, .int .i64 u5, .int .i64 u6, .int .i64 u7, .int .i64 u8, .slice up0 ul0 uq0, .slice none 0 0, .slice up2 ul2 uq2, .int .i64 u9, .int .i64 u10, .bool true])) w7 := by
      refine ⟨⟨9, _⟩, [.int .i64 9, .int .i64 u0, .int .i64 u1, .int .i64 u2, .int .i64 u3, .int .i64 u4, .int .i64 u5, .int .i64 u6, .int .i64 u7, .int .i64 u8, .slice up0 ul0 uq0, .slice none 0 0, .slice up2 ul2 uq2, .int .i64 u9, .int .i64 u10, .bool true], rfl, hP, ?_, B7⟩
      exact own_resOf 9 (by decide) O7
    exact ⟨_, results_cell_row Tryz.results87 _ w7 (w.heap.size + 1) 34 #[.int .i64 9, .int .i64 u0, .int .i64 u1, .int .i64 u2, .int .i64 u3, .int .i64 u4, .int .i64 u5, .int .i64 u6, .int .i64 u7, .int .i64 u8, .slice up0 ul0 uq0, .slice none 0 0, .slice up2 ul2 uq2, .int .i64 u9, .int .i64 u10, .bool true] (0, 0) (.struct _) rfl R7 Tryz.underlying34 rfl (by rw [size_WR]; rfl), hT⟩
  · have hP : P ⟨0, { appendW d T r with writes := d.writes + 1 }⟩ := hPo (by rw [← hst, ← hwt]; exact hf)
    have CF := (appendWork_ok w2.heap.size u0 u1 u2 u3 u4 u5 u6 u7 u8 up0 ul0 uq0 up1 ul1 uq1 up2 ul2 uq2 u9 u10 ub d K T r o6 o7 o8 k6 k7 k8 hir W3 TB.b1 a0 a1 q0 q1 O3 hT hn (layRec.rd_below hr T3.bel hhr) (by omega) hsr hf hwr).mono (R' := fun e w' => e = .returned (.tuple #[]) ∧ ∃ y0 y1 y2 y3 y4 y5 y6 y7 y8 yp0 yl0 yq0 yp1 yl1 yq1 yp2 yl2 yq2 y9 y10 yb K', Box w' w2.heap.size #[.int .i32 0, .int .u32 0, .int .u32 0, .int .i32 0, .int .u32 0, .int .i64 y0, .int .i64 y1, .int .i64 y2, .int .i64 y3, .int .i64 y4, .int .i64 y5, .int .i64 y6, .int .i64 y7, .int .i64 y8, .slice yp0 yl0 yq0, .slice yp1 yl1 yq1, .slice yp2 yl2 yq2, .int .i64 y9, .int .i64 y10, .bool yb] 166 ∧ EncO w' w2.heap.size { appendW d T r with writes := d.writes + 1 } [.int .i64 y0, .int .i64 y1, .int .i64 y2, .int .i64 y3, .int .i64 y4, .int .i64 y5, .int .i64 y6, .int .i64 y7, .int .i64 y8, .slice yp0 yl0 yq0, .slice yp1 yl1 yq1, .slice yp2 yl2 yq2, .int .i64 y9, .int .i64 y10, .bool yb] K' ∧ (∀ b, b ∈ K' → b ∈ K ∨ W3.heap.size ≤ b) ∧ ChgL (w2.heap.size :: K) W3 w') (fun e w' ⟨he, cs', K', hX', hO', hs', hC'⟩ => by
      obtain ⟨y0, y1, y2, y3, y4, y5, y6, y7, y8, yp0, yl0, yq0, yp1, yl1, yq1, yp2, yl2, yq2, y9, y10, yb, rfl⟩ := world15L hO'.own
      exact ⟨he, y0, y1, y2, y3, y4, y5, y6, y7, y8, yp0, yl0, yq0, yp1, yl1, yq1, yp2, yl2, yq2, y9, y10, yb, K', hX', hO', hs', hC'⟩)
    have hRK : w.heap.size + 1 ∉ w2.heap.size :: K := fun hm => by
      rcases List.mem_cons.1 hm with h | h
      · omega
      · have := hk3 _ h; have := T0.b2.lt; omega
    clear hst hwt hf hPf hPo
    go_wp2_with (first | (go_at_call 129; refine CF.mono ?_; rintro e w5 ⟨rfl, y0, y1, y2, y3, y4, y5, y6, y7, y8, yp0, yl0, yq0, yp1, yl1, yq1, yp2, yl2, yq2, y9, y10, yb, K5, X5, O5, s5, C5⟩; have hR5 := T3.b2.chgl C5 hRK) | (refine wp_loadBox 34 (.tmp 4) rfl rfl (w.heap.size + 1) rfl (cs := [.int .i64 0, .int .i64 0, .int .i64 0, .int .i64 0, .int .i64 0, .int .i64 0, .int .i64 0, .int .i64 0, .int .i64 0, .int .i64 0, .slice none 0 0, .slice none 0 0, .slice none 0 0, .int .i64 0, .int .i64 0, .bool false]) (hR5) Tryz.underlying34 size_WR rfl ?_) | (refine wp_storeBox 34 _ _ rfl rfl (w.heap.size + 1) rfl (cs := [.int .i64 0, .int .i64 0, .int .i64 0, .int .i64 0, .int .i64 0, .int .i64 0, .int .i64 0, .int .i64 0, .int .i64 0, .int .i64 0, .slice none 0 0, .slice none 0 0, .slice none 0 0, .int .i64 0, .int .i64 0, .bool false]) (old := [.int .i64 0, .int .i64 0, .int .i64 0, .int .i64 0, .int .i64 0, .int .i64 0, .int .i64 0, .int .i64 0, .int .i64 0, .int .i64 0, .slice none 0 0, .slice none 0 0, .slice none 0 0, .int .i64 0, .int .i64 0, .bool false]) rfl hR5 size_WR rfl rfl (code_one 0 (by decide) w) ?_; intro w6 R6 C6 z6))
    have z5 := C5.size
    have P5 := TB.b2.chgl C5 (fun hm => by
      rcases List.mem_cons.1 hm with h | h
      · omega
      · have := hkz _ h; omega)
    have P6 := P5.chgl C6 (by simp; omega)
    have X6 := X5.chgl C6 (by simp; omega)
    refine leaves_cons (f := 153) (args := #[.pointer (some ⟨w.heap.size + 1, 0, none⟩), .pointer (some ⟨w2.heap.size + 1, 0, none⟩)]) (by simp) (by simp [go_sem]) ?_
    refine (tell_idle (w.heap.size + 1) (w2.heap.size + 1) w2.heap.size 0 0 0 _ _ _ _ _ _ _ _ _ _ _ _ _ _ _ _ _ _ _ _ _ _ R6 (P6.cell 0) X6 (by omega) (by omega)).mono ?_
    rintro e u' w7 ⟨rfl, rfl, R7, C7⟩
    simp only [settle, Leaves]
    have z7 := C7.size
    have hK5 : ∀ b, b ∈ K5 → w.heap.size ≤ b ∧ b ≠ w.heap.size + 1 := fun b hb => by
      rcases s5 b hb with h | h
      · exact ⟨(hkz b h).1, fun e => hRK (by rw [← e]; exact List.mem_cons_of_mem _ h)⟩
      · omega
    have B5 : Below w.heap.size w w5 := T3.bel.trans (C5.bel (fun b hb => by
      rcases List.mem_cons.1 hb with h | h
      · omega
      · exact (hkz b h).1) T3.bel.size)
    have B6 : Below w.heap.size w w6 := B5.trans (C6.bel (fun b hb => by simp at hb; omega) B5.size)
    have B7 : Below w.heap.size w w7 := B6.trans (C7.bel (fun b hb => by simp at hb; omega) B6.size)
    have O7 : OwnT layWorld w7 w.heap.size w7.heap.size { appendW d T r with writes := d.writes + 1 } [.int .i64 y0, .int .i64 y1, .int .i64 y2, .int .i64 y3, .int .i64 y4, .int .i64 y5, .int .i64 y6, .int .i64 y7, .int .i64 y8, .slice yp0 yl0 yq0, .slice yp1 yl1 yq1, .slice yp2 yl2 yq2, .int .i64 y9, .int .i64 y10, .bool yb] := by
      have h5 := fun b hb => layWorld.own_lt O5.own b hb
      refine ⟨K5, ?_, O5.nd, fun b hb => ⟨(hK5 b hb).1, by have := h5 b hb; omega⟩⟩
      exact Lay.own_chgL _ (Lay.own_chgL _ O5.own C6 (fun b hb hm => by simp at hm; exact (hK5 b hb).2 hm)) C7 (fun b hb hm => by simp at hm; exact (hK5 b hb).2 hm)
    have hT : ResPost P w (.returned (.agg #[.int .i64 0, .int .i64 y0, .int .i64 y1, .int .i64 y2, .int .i64 y3, .int .i64 y4, .int .i64 y5, .int .i64 y6, .int .i64 y7, .int .i64 y8, .slice yp0 yl0 yq0, .slice yp1 yl1 yq1, .slice yp2 yl2 yq2, .int .i64 y9, .int .i64 y10, .bool yb])) w7 := by
      refine ⟨⟨0, _⟩, [.int .i64 0, .int .i64 y0, .int .i64 y1, .int .i64 y2, .int .i64 y3, .int .i64 y4, .int .i64 y5, .int .i64 y6, .int .i64 y7, .int .i64 y8, .slice yp0 yl0 yq0, .slice yp1 yl1 yq1, .slice yp2 yl2 yq2, .int .i64 y9, .int .i64 y10, .bool yb], rfl, hP, ?_, B7⟩
      exact own_resOf 0 (by decide) O7
    exact ⟨_, results_cell_row Tryz.results87 _ w7 (w.heap.size + 1) 34 #[.int .i64 0, .int .i64 y0, .int .i64 y1, .int .i64 y2, .int .i64 y3, .int .i64 y4, .int .i64 y5, .int .i64 y6, .int .i64 y7, .int .i64 y8, .slice yp0 yl0 yq0, .slice yp1 yl1 yq1, .slice yp2 yl2 yq2, .int .i64 y9, .int .i64 y10, .bool yb] (0, 0) (.struct _) rfl R7 Tryz.underlying34 rfl (by rw [size_WR]; rfl), hT⟩
end Go.Proofs.YtfafbojaeedhfaaGreat
