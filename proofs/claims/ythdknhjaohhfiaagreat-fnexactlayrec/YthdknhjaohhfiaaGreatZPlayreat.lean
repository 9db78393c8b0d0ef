/- What TrustDrive tells. -/
import Derived.Test.YthdknhjaohhfiaaGreatZPlayreas
import Derived.Test.YthdknhjaohhfiaaGreatZPlayrean
import Derived.Test.YthdknhjaohhfiaaGreatZPlayreaj
import Derived.Deep.DeepCutAuto
import Derived.Test.YthdknhjaohhfiaaGreatZPlayreal
import Derived.Deep.MidRow
namespace Go.Proofs.YthdknhjaohhfiaaGreat
open Go.RowKit F256
set_option linter.unusedVariables false
set_option linter.unusedSimpArgs false
def FailsP (d : WorldD) : Prop := d.stop ≠ -1 ∧ d.stop ≤ d.writes
def trustedW (d : WorldD) (G k : Nat) : WorldD := { trustW d G k with writes := d.writes + 1 }
def TrustAns (d : WorldD) (g k : Int) (r : WorldResultD) : Prop := (∃ x, x ≠ 0 ∧ AskAns d x ∧ r = ⟨x, zeroW⟩) ∨ (AskAns d 0 ∧ ((¬ DriveP d.shape g k ∧ r = ⟨3, zeroW⟩) ∨ (DriveP d.shape g k ∧ ((¬ HasP d.on.1 d.on.2 g ∧ r = ⟨8, zeroW⟩) ∨ (HasP d.on.1 d.on.2 g ∧ ((FailsP d ∧ r = ⟨9, cutW d⟩) ∨ (¬ FailsP d ∧ r = ⟨0, trustedW d g.toNat k.toNat⟩)))))))
theorem TrustAns.one {d : WorldD} {g k : Int} {r q : WorldResultD} (h : TrustAns d g k r) (l : TrustAns d g k q) : r = q := by
  rcases h with ⟨x, h1, h2, rfl⟩ | ⟨h1, h⟩ <;> rcases l with ⟨y, k1, k2, rfl⟩ | ⟨k1, l⟩
  · rw [h2.one k2]
  · exact absurd (h2.one k1) h1
  · exact absurd (k2.one h1) k1
  · rcases h with ⟨h2, rfl⟩ | ⟨h2, h⟩ <;> rcases l with ⟨k2, rfl⟩ | ⟨k2, l⟩
    · rfl
    · exact absurd k2 h2
    · exact absurd h2 k2
    · rcases h with ⟨h3, rfl⟩ | ⟨h3, h⟩ <;> rcases l with ⟨k3, rfl⟩ | ⟨k3, l⟩
      · rfl
      · exact absurd k3 h3
      · exact absurd h3 k3
      · rcases h with ⟨h4, rfl⟩ | ⟨h4, rfl⟩ <;> rcases l with ⟨k4, rfl⟩ | ⟨k4, rfl⟩
        · rfl
        · exact absurd h4 k4
        · exact absurd k4 h4
        · rfl
theorem ask_up {d : WorldD} (h : AskAns d 0) : d.down = false := by
  rcases h with ⟨h, _⟩ | ⟨_, ⟨_, h⟩ | ⟨h, _⟩⟩
  · exact absurd rfl h
  · cases h
  · exact h
theorem WOpen.writes {w : World} {lo hi : Nat} {d : WorldD} {v1 v2 v3 : Value} {K1 K2 K3 : List Nat} (h : WOpen w lo hi d v1 v2 v3 K1 K2 K3) (n : Int) (hn : -9223372036854775808 ≤ n ∧ n ≤ 9223372036854775807) : WOpen w lo hi { d with writes := n } v1 v2 v3 K1 K2 K3 := ⟨h.g, h.o, h.t, h.nd, h.inn, h.k0, hn, h.k5⟩
end Go.Proofs.YthdknhjaohhfiaaGreat

namespace Go.Proofs.YthdknhjaohhfiaaGreat
open Go.RowKit F256
set_option linter.unusedVariables false
set_option linter.unusedSimpArgs false
theorem next_done (o : Outc) : o.next (fun d => .done 0 d) = o := by
  cases o with
  | cut d => rfl
  | done c d =>
    show (if c = 0 then _ else _) = _
    split
    · rename_i h; rw [h]
    · rfl
theorem run_one (f : Nat → WorldD → Outc) (d : WorldD) : runO f 1 0 d = f 0 d := next_done _
theorem run_zero {f : Nat → WorldD → Outc} (hf : ∀ k d c d', f k d = .done c d' → c = 0) : ∀ (m k : Nat) (d : WorldD) (c : Int) (d' : WorldD), runO f m k d = .done c d' → c = 0
  | 0, k, d, c, d', h => by cases h; rfl
  | m + 1, k, d, c, d', h => by
    have h2 : (f k d).next (runO f m (k + 1)) = .done c d' := h
    cases e : f k d with
    | cut x => rw [e] at h2; cases h2
    | done c2 d2 =>
      rw [e, hf k d c2 d2 e] at h2
      exact run_zero hf m (k + 1) d2 c d' h2
def SbAns (d : WorldD) (kd sq : Int) (r : WorldResultD) : Prop := (∃ x, x ≠ 0 ∧ AskAns d x ∧ r = ⟨x, zeroW⟩) ∨ (AskAns d 0 ∧ r = (runO (strikeF kd sq) 2 0 d).final)
theorem SbAns.one {d : WorldD} {kd sq : Int} {r q : WorldResultD} (h : SbAns d kd sq r) (l : SbAns d kd sq q) : r = q := by
  rcases h with ⟨x, h1, h2, rfl⟩ | ⟨h1, rfl⟩ <;> rcases l with ⟨y, k1, k2, rfl⟩ | ⟨k1, rfl⟩
  · rw [h2.one k2]
  · exact absurd (h2.one k1) h1
  · exact absurd (k2.one h1) k1
  · rfl
theorem Fit2.less {n m : Nat} {d : WorldD} (h : Fit2 n d) (hm : m ≤ n) : Fit2 m d := ⟨h.two, h.few, h.up, h.low, by have := h.room; omega⟩
end Go.Proofs.YthdknhjaohhfiaaGreat

namespace Go.Proofs.YthdknhjaohhfiaaGreat
open Go.RowKit F256
set_option linter.unusedVariables false
set_option linter.unusedSimpArgs false
def Any_full (p : Nat × (Nat → TapeD)) (more : Int) : Prop := ∃ t, t < p.1 ∧ 200 < ((p.2 t).recs.1 : Int) + more
theorem full1_any (wp : Bool) (n : Nat) (hn : n ≤ 1000000000) (ao : Option Addr) (cap mb : Nat) (more : Int) (hmo : 0 ≤ more ∧ more ≤ 1000) (w : World) (hmb : w.cell? ⟨mb, 0, none⟩ = some (.int .i64 more)) (hml : mb < w.heap.size) :
    Calls Tryz.prog 158 #[.agg #[.bool wp, .slice ao n cap], .pointer (some ⟨mb, 0, none⟩)] w (BoolP (200 < (n : Int) + more) w) := by
  have bA : Below w.heap.size w (w.alloc (.cells #[.bool wp, .slice ao n cap] 112)) := (Below.refl _ _).alloc (Nat.le_refl _) _
  have hm2 : (w.alloc (.cells #[.bool wp, .slice ao n cap] 112)).cell? ⟨mb, 0, none⟩ = some (.int .i64 more) := (bA.cell (p := ⟨mb, 0, none⟩) hml).trans hmb
  have HB : Hid (Below w.heap.size w (w.alloc (.cells #[.bool wp, .slice ao n cap] 112))) := bA
  have wz : IntKind.i64.wrap ((n : Int) + more) = (n : Int) + more := by rw [IntKind.wrap_i64]; omega
  obtain ⟨P, hP⟩ : ∃ P : Prop, P = (200 < (n : Int) + more) := ⟨_, rfl⟩
  have HP : Hid (P = (200 < (n : Int) + more)) := hP
  rw [← hP]
  clear hP bA
  by_cases h : 200 < (n : Int) + more
  · have h1 : decide (200 < (n : Int) + more) = true := decide_eq_true h
    go_enter Tryz.func158, Tryz.ntmps158
    go_wp2
    go_ret
    exact boolYes (by simp [h1]) (by rw [HP.out]; exact h) HB.out
  · have h1 : decide (200 < (n : Int) + more) = false := decide_eq_false h
    go_enter Tryz.func158, Tryz.ntmps158
    go_wp2
    go_ret
    exact boolNo (by simp [h1]) (by rw [HP.out]; omega) HB.out
set_option maxHeartbeats 4000000 in
theorem index_full (p : Nat × (Nat → TapeD)) (t : TypeId) (v : Value) (hi : Nat) (w : World) (h : (layTape.slice t).rd w hi p [v]) (hhi : hi ≤ w.heap.size) (mb : Nat) (more : Int) (hmb : w.cell? ⟨mb, 0, none⟩ = some (.int .i64 more)) (hml : mb < w.heap.size) (hmo : 0 ≤ more ∧ more ≤ 1000) (hsm : ∀ i, i < p.1 → (p.2 i).recs.1 ≤ 1000000000) :
    Calls Tryz.prog 195 #[v, .func (.func 158) #[] #[.pointer (some ⟨mb, 0, none⟩)]] w fun e w' => ∃ z : Int, e = .returned (.int .i64 z) ∧ (0 ≤ z ↔ Any_full p more) ∧ Below w.heap.size w w' := by
  obtain ⟨ao, cap, e, hm, hc⟩ := h
  cases e
  unfold maxLen at hm
  have HS : Hid (∀ i, i < p.1 → (p.2 i).recs.1 ≤ 1000000000) := hsm
  clear hsm
  have HC : Hid (p.1 ≠ 0 → ∃ b off, ao = some ⟨b, off, none⟩ ∧ b < hi ∧ ∀ i, i < p.1 → ∃ ce, layTape.rd w hi (p.2 i) ce ∧ ∀ j, j < layTape.sz → w.cell? ⟨b, off + (i * layTape.sz + j), none⟩ = ce[j]?) := hc
  clear hc
  go_enter Tryz.func195, Tryz.ntmps195
  go_wp2
  go_loopw [8] (fun i wr => ∃ k : Nat, k ≤ p.1 ∧ i = .int .i64 k ∧ (∀ i, i < k → ¬ (200 < ((p.2 i).recs.1 : Int) + more)) ∧ Below w.heap.size w wr) (fun i _ => p.1 - (intOf i).toNat)
  case atStart => exact ⟨0, Nat.zero_le _, rfl, fun i hi => by omega, Below.refl _ _⟩
  case round =>
    obtain ⟨k, hk, rfl, hal, hb⟩ := hrel
    have HAL : Hid (∀ i, i < k → ¬ (200 < ((p.2 i).recs.1 : Int) + more)) := hal
    have HB : Hid (Below w.heap.size w wr) := hb
    clear hal
    by_cases hlt : k < p.1
    · obtain ⟨b, off, he, hbl, hel⟩ := HC.out (by omega)
      subst he
      obtain ⟨ck, hrk, hcell⟩ := elem_rd (t := 0) hel hb hhi hbl hlt
      obtain ⟨ao1, cap1, rfl, g1⟩ := Tape_rd hrk
      have c0 : wr.cell? ⟨b, off + k * 2, none⟩ = some (.bool (p.2 k).wiped) := hcell 0 (by decide)
      have c1 : wr.cell? ⟨b, off + k * 2 + 1, none⟩ = some (.slice ao1 (p.2 k).recs.1 cap1) := hcell 1 (by decide)
      have hmw : wr.cell? ⟨mb, 0, none⟩ = some (.int .i64 more) := (hb.cell (p := ⟨mb, 0, none⟩) hml).trans hmb
      have C := full1_any (p.2 k).wiped (p.2 k).recs.1 (HS.out k hlt) ao1 cap1 mb more hmo wr hmw (by have := hb.size; omega)
      clear hel hcell hrk hb g1
      go_wp2_with fail
      refine C.mono ?_
      rintro e w2 ⟨t2, rfl, ht2, b2⟩
      have HB2 : Hid (Below w.heap.size w w2) := HB.out.trans (b2.mono HB.out.size)
      have HT2 : Hid (t2 = true ↔ (200 < ((p.2 k).recs.1 : Int) + more)) := ht2
      clear C b2 ht2
      cases t2 with
      | true =>
        have HP : Hid (0 ≤ (k : Int) ↔ Any_full p more) := ⟨fun _ => ⟨k, hlt, HT2.out.1 rfl⟩, fun _ => by omega⟩
        go_wp2
        go_ret
        exact ⟨_, rfl, HP.out, HB2.out⟩
      | false =>
        go_wp2
        go_roundw
        case rel => exact ⟨k + 1, by omega, by go_num, fun i hi => by
                      by_cases c : i = k
                      · subst c; exact fun h => by have := HT2.out.2 h; simp at this
                      · have := HAL.out i (by omega); omega, HB2.out⟩
        case measure => simp [intOf]; omega
    · obtain rfl : k = p.1 := by omega
      have HP : Hid (0 ≤ (-1 : Int) ↔ Any_full p more) := ⟨fun h => by omega, fun ⟨t, ht, he⟩ => absurd he (HAL.out t ht)⟩
      go_wp2
      go_ret
      exact ⟨-1, rfl, HP.out, hb⟩
theorem contains_full (p : Nat × (Nat → TapeD)) (t : TypeId) (v : Value) (hi : Nat) (w : World) (h : (layTape.slice t).rd w hi p [v]) (hhi : hi ≤ w.heap.size) (mb : Nat) (more : Int) (hmb : w.cell? ⟨mb, 0, none⟩ = some (.int .i64 more)) (hml : mb < w.heap.size) (hmo : 0 ≤ more ∧ more ≤ 1000) (hsm : ∀ i, i < p.1 → (p.2 i).recs.1 ≤ 1000000000) :
    Calls Tryz.prog 154 #[v, .func (.func 158) #[] #[.pointer (some ⟨mb, 0, none⟩)]] w (BoolP (Any_full p more) w) := by
  have C := index_full p t v hi w h hhi mb more hmb hml hmo hsm
  obtain ⟨ao, cap, e, hm, hc⟩ := h
  cases e
  clear hc hm
  go_enter Tryz.func154, Tryz.ntmps154
  go_wp2_with fail
  refine C.mono ?_
  rintro e w1 ⟨z, rfl, hz, b1⟩
  have HZ : Hid (0 ≤ z ↔ Any_full p more) := hz
  have HB : Hid (Below w.heap.size w w1) := b1
  clear hz C b1
  by_cases h0 : 0 ≤ z
  · have HP : Hid (Any_full p more) := HZ.out.mp h0
    go_wp2
    go_ret
    exact boolYes rfl HP.out HB.out
  · have HP : Hid (¬ Any_full p more) := fun h => h0 (HZ.out.mpr h)
    have td : decide (0 ≤ z) = false := by simp; omega
    clear h0
    go_wp2
    go_ret
    exact boolNo rfl HP.out HB.out
set_option maxHeartbeats 4000000 in
set_option maxRecDepth 20000 in
theorem hasRoom_any (d : WorldD) (cs : List Value) (hi : Nat) (more : Int) (hmo : 0 ≤ more ∧ more ≤ 1000) (w : World) (h : layWorld.rd w hi d cs) (hhi : hi ≤ w.heap.size) (hsm : ∀ i, i < d.tapes.1 → (d.tapes.2 i).recs.1 ≤ 1000000000) :
    Calls Tryz.prog 106 #[.agg cs.toArray, .int .i64 more] w (BoolP (¬ Any_full d.tapes more) w) := by
  have hmf : ∀ (fn : Fn) (first cap : Array Value) (w : World), (Instr.makeFunc fn first cap).run Tryz.prog w = .ok (.func fn first cap) w := fun _ _ _ _ => rfl
  obtain ⟨ao1, cap1, ao2, cap2, ao3, cap3, rfl, g1, g2, g3, k0, k4, k5⟩ := World_rd h
  have T0 := two_newb w #[.int .i64 (d.shape 0), .int .i64 (d.shape 1), .int .i64 (d.shape 2), .int .i64 (d.shape 3), .int .i64 (d.shape 4), .int .i64 (d.shape 5), .int .i64 (d.shape 6), .int .i64 (d.shape 7), .int .i64 (d.shape 8), .slice ao1 d.groups.1 cap1, .slice ao2 d.on.1 cap2, .slice ao3 d.tapes.1 cap3, .int .i64 d.writes, .int .i64 d.stop, .bool d.down] #[.int .i64 more] 38 2
  have x11 := T0.b1.cell 11
  have CC := contains_full d.tapes _ _ hi _ ((layTape.slice _).rd_below g3 T0.bel hhi) (Nat.le_trans hhi T0.bel.size) (w.heap.size + 1) more (T0.b2.cell 0) T0.b2.lt hmo hsm
  have HT : Hid (Below w.heap.size w ((w.alloc (.cells #[.int .i64 (d.shape 0), .int .i64 (d.shape 1), .int .i64 (d.shape 2), .int .i64 (d.shape 3), .int .i64 (d.shape 4), .int .i64 (d.shape 5), .int .i64 (d.shape 6), .int .i64 (d.shape 7), .int .i64 (d.shape 8), .slice ao1 d.groups.1 cap1, .slice ao2 d.on.1 cap2, .slice ao3 d.tapes.1 cap3, .int .i64 d.writes, .int .i64 d.stop, .bool d.down] 38)).alloc (.cells #[.int .i64 more] 2))) := T0.bel
  obtain ⟨P, hP⟩ : ∃ P : Prop, P = Any_full d.tapes more := ⟨_, rfl⟩
  rw [← hP] at CC ⊢
  clear g1 g2 g3 k0 k4 k5 h T0 hP hsm
  go_enter Tryz.func106, Tryz.ntmps106
  go_wp2_with fail
  refine CC.mono ?_
  rintro e w1 ⟨t, rfl, ht, b1⟩
  have HB : Hid (Below w.heap.size w w1) := HT.out.trans (b1.mono HT.out.size)
  have HP : Hid (t = true ↔ P) := ht
  clear CC b1 ht
  cases t with
  | true =>
    go_wp2
    go_ret
    exact boolNo rfl (fun h => h (HP.out.1 (by simp))) HB.out
  | false =>
    go_wp2
    go_ret
    exact boolYes rfl (fun h => by have := HP.out.2 h; cases this) HB.out
end Go.Proofs.YthdknhjaohhfiaaGreat

namespace Go.Proofs.YthdknhjaohhfiaaGreat
open Go.RowKit F256
set_option linter.unusedVariables false
set_option linter.unusedSimpArgs false
set_option maxHeartbeats 4000000 in
theorem append_run (E : Nat) (d : WorldD) (K : List Nat) (T : Nat) (r : RecD) (o6 o7 o8 : Option Addr) (k6 k7 k8 hi : Nat) (w : World) (hX : EncB w E d K) (hT : T < d.tapes.1) (hn : (d.tapes.2 T).recs.1 ≤ 10000000) (hr : layRec.rd w hi r [.int .i64 r.kind, .int .i64 r.seq, .string r.name, .int .i64 r.length, .int .i64 r.group, .int .i64 r.row, .slice o6 r.rows.1 k6, .slice o7 r.data.1 k7, .slice o8 r.delta.1 k8]) (hiE : hi ≤ E) (hsr : szRecD r ≤ 1048576) (hwr : -9223372036854775808 ≤ d.writes ∧ d.writes + 1 ≤ 9223372036854775807) :
    Calls Tryz.prog 160 #[.pointer (some ⟨E, 0, none⟩), .int .i64 (T : Int), .agg #[.int .i64 r.kind, .int .i64 r.seq, .string r.name, .int .i64 r.length, .int .i64 r.group, .int .i64 r.row, .slice o6 r.rows.1 k6, .slice o7 r.data.1 k7, .slice o8 r.delta.1 k8]] w (RunP (fun _ => .tuple #[]) (rawO (fun d => appendW d T r) d) E w K) := by
  obtain ⟨cs, hB, hO⟩ := hX
  obtain ⟨v0, v1, v2, v3, v4, v5, v6, v7, v8, vp0, vl0, vq0, vp1, vl1, vq1, vp2, vl2, vq2, v9, v10, vb, rfl⟩ := world15L hO.own
  have st := stop_of hO.own
  have wt := writes_of hO.own
  by_cases hf : d.stop ≠ -1 ∧ d.stop ≤ d.writes
  · unfold rawO
    rw [if_pos hf]
    obtain ⟨KC, kc1, kc2, kc3⟩ := own_cutK hO.own hO.nd
    refine (append_fail E v0 v1 v2 v3 v4 v5 v6 v7 v8 vp0 vl0 vq0 vp1 vl1 vq1 vp2 vl2 vq2 v9 v10 vb d K T r o6 o7 o8 k6 k7 k8 hi w hB (fun x hx => layWorld.own_one kc1 x hx) (by rw [st]; exact hf.1) (by rw [st, wt]; exact hf.2)).mono ?_
    rintro e w' ⟨rfl, X5, C5⟩
    refine ⟨rfl, KC, ⟨_, X5, Lay.own_chgL _ kc1 C5 (fun b hb hm => ?_), kc2, fun hm => hO.ne (kc3 _ hm)⟩, fun b hb => .inl (kc3 b hb), C5.mono (fun b hb => by simp at hb; simp [hb])⟩
    simp at hm
    exact hO.ne (hm ▸ kc3 b hb)
  · unfold rawO
    rw [if_neg hf]
    refine (append_ok E v0 v1 v2 v3 v4 v5 v6 v7 v8 vp0 vl0 vq0 vp1 vl1 vq1 vp2 vl2 vq2 v9 v10 vb d K T r o6 o7 o8 k6 k7 k8 hi w hB hO hT hn hr hiE hsr (by rw [st, wt]; exact hf) hwr).mono ?_
    rintro e w' ⟨rfl, cs', K', X5, O5, s5, C5⟩
    exact ⟨rfl, K', ⟨cs', X5, O5⟩, s5, C5⟩
/-- fit for n records more and n raw writes -/
structure Fit3 (n : Nat) (d : WorldD) : Prop where
  two : d.tapes.1 = 2
  few : ∀ T, T < 2 → (d.tapes.2 T).recs.1 + n ≤ 1000000
  up : d.down = false
  low : -9223372036854775808 ≤ d.writes
  room : d.writes + n ≤ 9223372036854775807
theorem Fit3.less {n m : Nat} {d : WorldD} (h : Fit3 n d) (hm : m ≤ n) : Fit3 m d := ⟨h.two, fun T hT => by have := h.few T hT; omega, h.up, h.low, by have := h.room; omega⟩
def appendF (r : RecD) (k : Nat) : WorldD → Outc := rawO (fun d => appendW d k r)
theorem append_zero {r : RecD} {k : Nat} {d d2 : WorldD} {c : Int} (e : appendF r k d = .done c d2) : c = 0 := by
  unfold appendF rawO at e
  split at e
  · cases e
  · cases e; rfl
theorem appendF_fit {n : Nat} {d d2 : WorldD} {c : Int} {r : RecD} {k : Nat} (h : Fit3 (n + 1) d) (hk : k < 2) (e : appendF r k d = .done c d2) : Fit3 n d2 := by
  unfold appendF rawO at e
  split at e
  · cases e
  · simp only [Outc.done.injEq] at e
    obtain ⟨_, rfl⟩ := e
    have hr := h.room
    have hl := h.low
    refine ⟨h.two, fun T hT => ?_, h.up, ?_, ?_⟩
    · show ((upd d.tapes.2 k (laidT (d.tapes.2 k) r)) T).recs.1 + n ≤ _
      have h1 := h.few T hT
      by_cases c : T = k
      · subst c
        rw [upd_at]
        show (d.tapes.2 T).recs.1 + 1 + n ≤ _
        omega
      · rw [upd_ne _ _ c]
        omega
    · show _ ≤ d.writes + 1
      omega
    · show d.writes + 1 + n ≤ _
      have : ((n + 1 : Nat) : Int) = (n : Int) + 1 := by omega
      omega
/-- a record on both tapes -/
def layF (r : RecD) (d : WorldD) : Outc := if 200 < ((d.tapes.2 0).recs.1 : Int) + 1 ∨ 200 < ((d.tapes.2 1).recs.1 : Int) + 1 then .done 2 d else runO (appendF r) 2 0 d
theorem full_two {d : WorldD} (h : d.tapes.1 = 2) (n : Int) : Any_full d.tapes n ↔ (200 < ((d.tapes.2 0).recs.1 : Int) + n ∨ 200 < ((d.tapes.2 1).recs.1 : Int) + n) := by
  unfold Any_full
  rw [h]
  constructor
  · rintro ⟨t, ht, h⟩
    have : t = 0 ∨ t = 1 := by omega
    rcases this with rfl | rfl
    · exact .inl h
    · exact .inr h
  · rintro (h | h)
    · exact ⟨0, by omega, h⟩
    · exact ⟨1, by omega, h⟩
theorem size_Rc : (Tryz.prog.info? 43).map (·.size) = some 9 := by kernel_rfl
theorem appending_is (T : Int) (c0 c1 c2 c3 c4 c5 c6 c7 c8 : Value) (w : World) : Calls Tryz.prog 107 #[.int .i64 T, .agg #[c0, c1, c2, c3, c4, c5, c6, c7, c8]] w fun e w' => e = .returned (.func (.func 159) #[] #[.pointer (some ⟨w.heap.size, 0, none⟩), .pointer (some ⟨w.heap.size + 1, 0, none⟩)]) ∧ Box w' w.heap.size #[.int .i64 T] 2 ∧ Box w' (w.heap.size + 1) #[c0, c1, c2, c3, c4, c5, c6, c7, c8] 43 ∧ w'.heap.size = w.heap.size + 1 + 1 ∧ Below w.heap.size w w' := by
  have hmf : ∀ (fn : Fn) (first cap : Array Value) (w : World), (Instr.makeFunc fn first cap).run Tryz.prog w = .ok (.func fn first cap) w := fun _ _ _ _ => rfl
  have T0 := two_newb w #[.int .i64 T] #[c0, c1, c2, c3, c4, c5, c6, c7, c8] 2 43
  go_enter Tryz.func107, Tryz.ntmps107
  go_wp2
  go_ret
  exact ⟨by simp, T0.b1, T0.b2, by simp, T0.bel⟩
theorem laying_is (c0 c1 c2 c3 c4 c5 c6 c7 c8 : Value) (w : World) : Calls Tryz.prog 56 #[.agg #[c0, c1, c2, c3, c4, c5, c6, c7, c8]] w fun e w' => e = .returned (.func (.func 105) #[] #[.pointer (some ⟨w.heap.size, 0, none⟩)]) ∧ Box w' w.heap.size #[c0, c1, c2, c3, c4, c5, c6, c7, c8] 43 ∧ Below w.heap.size w w' := by
  have hmf : ∀ (fn : Fn) (first cap : Array Value) (w : World), (Instr.makeFunc fn first cap).run Tryz.prog w = .ok (.func fn first cap) w := fun _ _ _ _ => rfl
  have T0 := one_new w #[c0, c1, c2, c3, c4, c5, c6, c7, c8] 43
  go_enter Tryz.func56, Tryz.ntmps56
  go_wp2
  go_ret
  exact ⟨rfl, T0.b1, T0.bel⟩
end Go.Proofs.YthdknhjaohhfiaaGreat

namespace Go.Proofs.YthdknhjaohhfiaaGreat
open Go.RowKit F256
set_option linter.unusedVariables false
set_option linter.unusedSimpArgs false
/-- as TaskV; the blocks CL, which it reads too, may lie anywhere but in the enclosure -/
def TaskW (F : Nat) (caps : Array Value) (f : WorldD → Outc) (fit : WorldD → Prop) (B : Nat) (CL : List Nat) (w0 : World) : Prop :=
  Enters F ∧ ∀ (w : World) (E : Nat) (d : WorldD) (K : List Nat), Below B w0 w → (∀ x, x ∈ CL → w.heap[x]? = w0.heap[x]?) → B ≤ E → (∀ b, b ∈ K → B ≤ b) → (∀ x, x ∈ CL → x ≠ E ∧ x ∉ K) → EncB w E d K → fit d → Calls Tryz.prog F (#[.pointer (some ⟨E, 0, none⟩)] ++ caps) w (RunP (fun c => .int .i64 c) (f d) E w K)
set_option maxHeartbeats 8000000 in
set_option maxRecDepth 20000 in
theorem runAllC_any (F : Nat → Nat) (caps : Nat → Array Value) (f : Nat → WorldD → Outc) (fit : Nat → WorldD → Prop) (B n b off cap : Nat) (CL : List Nat) (w : World) (E : Nat) (d : WorldD) (K : List Nat)
    (hT : ∀ i, i < n → TaskW (F i) (caps i) (f i) (fit i) B CL w) (hc : ∀ i, i < n → w.cell? ⟨b, off + i, none⟩ = some (.func (.func (F i)) #[] (caps i))) (hb : b < w.heap.size) (hbE : b ≠ E ∧ b ∉ K) (hBE : B ≤ E) (hBK : ∀ b, b ∈ K → B ≤ b) (hn : n ≤ 1000000) (hX : EncB w E d K) (hf : FitAll f fit n 0 d) (hCL : ∀ x, x ∈ CL → x < w.heap.size ∧ x ≠ E ∧ x ∉ K) :
    Calls Tryz.prog 91 #[.pointer (some ⟨E, 0, none⟩), .slice (some ⟨b, off, none⟩) n cap] w (RunP (fun c => .int .i64 c) (runO f n 0 d) E w K) := by
  have HX : Hid (EncB w E d K) := hX
  have HT : Hid (∀ i, i < n → TaskW (F i) (caps i) (f i) (fit i) B CL w) := hT
  have HBE : Hid (b ≠ E ∧ b ∉ K) := hbE
  have HBK : Hid (∀ b, b ∈ K → B ≤ b) := hBK
  have HF : Hid (FitAll f fit n 0 d) := hf
  have HC : Hid (∀ i, i < n → w.cell? ⟨b, off + i, none⟩ = some (.func (.func (F i)) #[] (caps i))) := hc
  have HCL : Hid (∀ x, x ∈ CL → x < w.heap.size ∧ x ≠ E ∧ x ∉ K) := hCL
  clear hX hT hbE hBK hf hc hCL
  go_enter Tryz.func91, Tryz.ntmps91
  go_wp2
  go_loopw [10] (fun i wr => ∃ (k m : Nat) (d1 : WorldD) (K1 : List Nat), k + m = n ∧ i = .int .i64 k ∧ EncB wr E d1 K1 ∧ (∀ x, x ∈ K1 → x ∈ K ∨ w.heap.size ≤ x) ∧ ChgL (E :: K) w wr ∧ FitAll f fit m k d1 ∧ runO f n 0 d = runO f m k d1) (fun i _ => n - (intOf i).toNat)
  case atStart => exact ⟨0, n, d, K, by omega, rfl, HX.out, fun x hx => .inl hx, ChgL.refl _ _, HF.out, rfl⟩
  case round =>
    obtain ⟨k, m, d1, K1, hkm, rfl, hX1, hK1, hC1, hf1, ho⟩ := hrel
    have HX1 : Hid (EncB wr E d1 K1) := hX1
    have HK1 : Hid (∀ x, x ∈ K1 → x ∈ K ∨ w.heap.size ≤ x) := hK1
    have HC1 : Hid (ChgL (E :: K) w wr) := hC1
    have HO : Hid (runO f n 0 d = runO f m k d1) := ho
    have HF1 : Hid (FitAll f fit m k d1) := hf1
    have zr := hC1.size
    clear hX1 hK1 hf1 ho
    cases m with
    | zero =>
      obtain rfl : k = n := by omega
      clear hC1 hkm
      go_wp2
      go_ret
      rw [HO.out]
      exact ⟨rfl, K1, HX1.out, HK1.out, HC1.out⟩
    | succ m =>
      have hlt : k < n := by omega
      have t1 : (k : Int) < (n : Int) := by omega
      have ck : wr.cell? ⟨b, off + k, none⟩ = some (.func (.func (F k)) #[] (caps k)) := (World.cell?_of_block (hC1.block b hb (fun hm => by
        rcases List.mem_cons.1 hm with h | h
        · exact HBE.out.1 h
        · exact HBE.out.2 h))).trans (HC.out k hlt)
      have CT := (HT.out k hlt).2 wr E d1 K1 (hC1.bel (fun x hx => by
        rcases List.mem_cons.1 hx with rfl | h
        · exact hBE
        · exact HBK.out x h) (by have := HX.out.lt; omega)) (fun x hx => hC1.block x (HCL.out x hx).1 (fun hm => by
          rcases List.mem_cons.1 hm with h | h
          · exact (HCL.out x hx).2.1 h
          · exact (HCL.out x hx).2.2 h)) hBE (fun x hx => by
          rcases HK1.out x hx with h | h
          · exact HBK.out x h
          · have := HX.out.lt; omega) (fun x hx => ⟨(HCL.out x hx).2.1, fun hm => by
            rcases HK1.out x hm with h | h
            · exact (HCL.out x hx).2.2 h
            · have := (HCL.out x hx).1; omega⟩) HX1.out HF1.out.1
      obtain ⟨Fk, hFk⟩ : ∃ x, x = F k := ⟨_, rfl⟩
      obtain ⟨ck9, hck9⟩ : ∃ x, x = caps k := ⟨_, rfl⟩
      have eF := (HT.out k hlt).1
      rw [← hFk, ← hck9] at ck CT
      rw [← hFk] at eF
      unfold Enters at eF
      obtain ⟨oc, hoc⟩ : ∃ x, x = f k d1 := ⟨_, rfl⟩
      have HOC : Hid (oc = f k d1) := hoc
      rw [← hoc] at CT
      have HF2 : Hid (FitNext oc (FitAll f fit m (k + 1))) := by rw [hoc]; exact HF1.out.2
      have HO2 : Hid (runO f n 0 d = oc.next (runO f m (k + 1))) := by rw [hoc]; exact HO.out
      clear hC1 hFk hck9 hoc
      cases oc with
      | cut d2 =>
        go_wp2_with (go_at_fn Fk; refine CT.mono ?_; rintro e w5 ⟨rfl, K5, X5, s5, C5⟩)
        exact ⟨rfl, by
          rw [HO2.out]
          exact RunP.after (rv := fun c => .int .i64 c) (o := .cut d2) HK1.out HC1.out ⟨rfl, K5, X5, s5, C5⟩⟩
      | done c d2 =>
        by_cases hc0 : c = 0
        · subst hc0
          go_wp2_with (go_at_fn Fk; refine CT.mono ?_; rintro e w5 ⟨rfl, K5, X5, s5, C5⟩)
          go_roundw
          case rel => exact ⟨k + 1, m, d2, K5, by omega, by go_num, X5, fun x hx => by
            rcases s5 x hx with h | h
            · exact HK1.out x h
            · exact .inr (by omega), chg_more HC1.out HK1.out C5, HF2.out rfl, by rw [HO2.out]; simp [Outc.next]⟩
          case measure => simp [intOf]; omega
        · have hne : (c != 0) = true := by simpa using hc0
          have HNE : Hid (c ≠ 0) := hc0
          clear hc0
          go_wp2_with (go_at_fn Fk; refine CT.mono ?_; rintro e w5 ⟨rfl, K5, X5, s5, C5⟩)
          go_ret
          rw [HO2.out]
          have e : (Outc.done c d2).next (runO f m (k + 1)) = .done c d2 := by simp [Outc.next, HNE.out]
          rw [e]
          exact RunP.after (rv := fun c => .int .i64 c) (o := .done c d2) HK1.out HC1.out ⟨rfl, K5, X5, s5, C5⟩
set_option maxHeartbeats 8000000 in
set_option maxRecDepth 20000 in
theorem appending_taskW (T : Nat) (hT : T < 2) (r : RecD) (o6 o7 o8 : Option Addr) (k6 k7 k8 hi : Nat) (hsr : szRecD r ≤ 1048576) (a1 a2 B : Nat) (w0 : World) (h1 : w0.cell? ⟨a1, 0, none⟩ = some (.int .i64 (T : Int))) (h2 : Box w0 a2 #[.int .i64 r.kind, .int .i64 r.seq, .string r.name, .int .i64 r.length, .int .i64 r.group, .int .i64 r.row, .slice o6 r.rows.1 k6, .slice o7 r.data.1 k7, .slice o8 r.delta.1 k8] 43) (hr : layRec.rd w0 hi r [.int .i64 r.kind, .int .i64 r.seq, .string r.name, .int .i64 r.length, .int .i64 r.group, .int .i64 r.row, .slice o6 r.rows.1 k6, .slice o7 r.data.1 k7, .slice o8 r.delta.1 k8]) (CL : List Nat) (l1 : a1 ∈ CL) (l2 : a2 ∈ CL) (l3 : hi ≤ B) :
    TaskW 159 #[.pointer (some ⟨a1, 0, none⟩), .pointer (some ⟨a2, 0, none⟩)] (appendF r T) (Fit3 1) B CL w0 := by
  refine ⟨enters_of Tryz.func159 (by kernel_rfl) (by kernel_rfl), fun w E d K hB hCL hBE hBK hNE hX hf => ?_⟩
  show Calls Tryz.prog 159 #[.pointer (some ⟨E, 0, none⟩), .pointer (some ⟨a1, 0, none⟩), .pointer (some ⟨a2, 0, none⟩)] w _
  have g1 := (World.cell?_of_block (a := ⟨a1, 0, none⟩) (hCL a1 l1)).trans h1
  have g2 : Box w a2 #[.int .i64 r.kind, .int .i64 r.seq, .string r.name, .int .i64 r.length, .int .i64 r.group, .int .i64 r.row, .slice o6 r.rows.1 k6, .slice o7 r.data.1 k7, .slice o8 r.delta.1 k8] 43 := (hCL a2 l2).trans h2
  have CR := append_run E d K T r o6 o7 o8 k6 k7 k8 hi w hX (by have := hf.two; omega) (by have := hf.few T hT; omega) (layRec.rd_below hr hB l3) (by omega) hsr (by have := hf.low; have := hf.room; omega)
  obtain ⟨oc, hoc⟩ : ∃ x, x = appendF r T d := ⟨_, rfl⟩
  have e1 : rawO (fun d => appendW d T r) d = oc := by rw [hoc]; rfl
  rw [e1] at CR
  rw [← hoc]
  have HOC : Hid (oc = appendF r T d) := hoc
  clear hX hf hBK h1 h2 hB hr hoc e1 hCL hNE
  go_enter Tryz.func159, Tryz.ntmps159
  cases oc with
  | cut d2 =>
    go_wp2_with (first | (refine wp_loadBox 43 (.tmp 2) rfl rfl (a2) rfl (cs := [.int .i64 r.kind, .int .i64 r.seq, .string r.name, .int .i64 r.length, .int .i64 r.group, .int .i64 r.row, .slice o6 r.rows.1 k6, .slice o7 r.data.1 k7, .slice o8 r.delta.1 k8]) (g2) Tryz.underlying43 size_Rc rfl ?_) | (go_at_call 160; refine CR.mono ?_; rintro e w5 ⟨rfl, K5, X5, s5, C5⟩))
    exact ⟨rfl, rfl, K5, X5, s5, C5⟩
  | done c d2 =>
    have c0 : c = 0 := append_zero HOC.out.symm
    subst c0
    go_wp2_with (first | (refine wp_loadBox 43 (.tmp 2) rfl rfl (a2) rfl (cs := [.int .i64 r.kind, .int .i64 r.seq, .string r.name, .int .i64 r.length, .int .i64 r.group, .int .i64 r.row, .slice o6 r.rows.1 k6, .slice o7 r.data.1 k7, .slice o8 r.delta.1 k8]) (g2) Tryz.underlying43 size_Rc rfl ?_) | (go_at_call 160; refine CR.mono ?_; rintro e w5 ⟨rfl, K5, X5, s5, C5⟩))
    go_ret
    exact ⟨rfl, K5, X5, s5, C5⟩
theorem step_callp {ops : Array Oper} {o : Oper} {a : Act} {w : World} {K : Act → World → Prop} {Q : Exit → Act → World → Prop} {E : Prop}
    (hg : o.guard = none) (n : Nat) (args : Array Operand) (ty : Array TypeId) (hop : o.op = Op.call { callee := Callee.value (.func n), args := args, argTypes := ty }) (vals : Array Value) (hv : args.map a.eval = vals)
    {fn : Func} (hfn : Tryz.prog.funcs[n]? = some fn) (hnm : (fn.name == "runtime.NumGoroutine") = false) (hbd : fn.body.isSome = true)
    {R : Ending → World → Prop} (hc : Calls Tryz.prog n vals w R) (hK : ∀ e w', R e w' → ∃ c, e = .panicked c ∧ Q (.panic c) a w') :
    if Region.wanted o (yielded ops a.tmps) = true then Oper.wp Tryz.prog o a w K Q else E := by
  have hw : Region.wanted o (yielded ops a.tmps) = true := by simp [Region.wanted, hg]
  have hn' : ¬ fn.name = "runtime.NumGoroutine" := by simpa using hnm
  have hb' : ¬ fn.body = none := by intro h; rw [h] at hbd; cases hbd
  rw [if_pos hw]
  unfold Oper.wp
  simp [execOp, hop, resolve, invoke, Act.eval, Result.andThen, Deferred.ofValue, callFunc, Oper.upon, hv, hfn, hn', hb']
  refine hc.mono fun e w' h => ?_
  obtain ⟨c, rfl, hk⟩ := hK e w' h
  exact hk
theorem run_append {r : RecD} {d : WorldD} : ∀ (m k : Nat) (d : WorldD) (c : Int) (d' : WorldD), runO (appendF r) m k d = .done c d' → c = 0 := run_zero (fun k d c d' h => append_zero h)
theorem fit_append (r : RecD) : ∀ (m k : Nat) (d : WorldD), k + m ≤ 2 → Fit3 m d → FitAll (appendF r) (fun _ => Fit3 1) m k d
  | 0, _, _, _, _ => trivial
  | m + 1, k, d, h, hf => by
    refine ⟨hf.less (by omega), ?_⟩
    cases e : appendF r k d with
    | cut x => trivial
    | done c x => exact fun _ => fit_append r m (k + 1) x (by omega) (appendF_fit hf (by omega) e)
set_option maxHeartbeats 16000000 in
set_option maxRecDepth 100000 in
theorem laying_task (r : RecD) (o6 o7 o8 : Option Addr) (k6 k7 k8 hi : Nat) (hsr : szRecD r ≤ 1048576) (a B : Nat) (w0 : World) (h2 : Box w0 a #[.int .i64 r.kind, .int .i64 r.seq, .string r.name, .int .i64 r.length, .int .i64 r.group, .int .i64 r.row, .slice o6 r.rows.1 k6, .slice o7 r.data.1 k7, .slice o8 r.delta.1 k8] 43) (hr : layRec.rd w0 hi r [.int .i64 r.kind, .int .i64 r.seq, .string r.name, .int .i64 r.length, .int .i64 r.group, .int .i64 r.row, .slice o6 r.rows.1 k6, .slice o7 r.data.1 k7, .slice o8 r.delta.1 k8]) (l2 : a < B) (l3 : hi ≤ B) (hBw : B ≤ w0.heap.size) :
    TaskV 105 #[.pointer (some ⟨a, 0, none⟩)] (layF r) (Fit3 2) B w0 := by
  refine ⟨enters_of Tryz.func105 (by kernel_rfl) (by kernel_rfl), fun w E d K hB hBE hBK hX hf => ?_⟩
  show Calls Tryz.prog 105 #[.pointer (some ⟨E, 0, none⟩), .pointer (some ⟨a, 0, none⟩)] w _
  have g2 := h2.below hB l2
  have hrw := layRec.rd_below hr hB l3
  have HX : Hid (EncB w E d K) := hX
  have HF : Hid (Fit3 2 d) := hf
  have HBK : Hid (∀ b, b ∈ K → B ≤ b) := hBK
  have zE := hX.lt
  have hKlt := hX.Klt
  obtain ⟨cs, hBx, hO⟩ := hX
  obtain ⟨v0, v1, v2, v3, v4, v5, v6, v7, v8, vp0, vl0, vq0, vp1, vl1, vq1, vp2, vl2, vq2, v9, v10, vb, rfl⟩ := world15L hO.own
  have rdw : layWorld.rd w w.heap.size d [.int .i64 v0, .int .i64 v1, .int .i64 v2, .int .i64 v3, .int .i64 v4, .int .i64 v5, .int .i64 v6, .int .i64 v7, .int .i64 v8, .slice vp0 vl0 vq0, .slice vp1 vl1 vq1, .slice vp2 vl2 vq2, .int .i64 v9, .int .i64 v10, .bool vb] := hO.T.rd
  have rg : w.rangeAt E 5 [.int .i64 v0, .int .i64 v1, .int .i64 v2, .int .i64 v3, .int .i64 v4, .int .i64 v5, .int .i64 v6, .int .i64 v7, .int .i64 v8, .slice vp0 vl0 vq0, .slice vp1 vl1 vq1, .slice vp2 vl2 vq2, .int .i64 v9, .int .i64 v10, .bool vb] := fun j v hv => by
    have hc := hBx.cell (5 + j)
    rw [hc]
    rcases j with _ | _ | _ | _ | _ | _ | _ | _ | _ | _ | _ | _ | _ | _ | _ | j <;> first | exact hv | (simp at hv)
  have CH := hasRoom_any d [.int .i64 v0, .int .i64 v1, .int .i64 v2, .int .i64 v3, .int .i64 v4, .int .i64 v5, .int .i64 v6, .int .i64 v7, .int .i64 v8, .slice vp0 vl0 vq0, .slice vp1 vl1 vq1, .slice vp2 vl2 vq2, .int .i64 v9, .int .i64 v10, .bool vb] w.heap.size 1 (by decide) w rdw (Nat.le_refl _) (fun i hi => by have := hf.few i (by have := hf.two; omega); omega)
  have hmf : ∀ (fn : Fn) (first cap : Array Value) (w : World), (Instr.makeFunc fn first cap).run Tryz.prog w = .ok (.func fn first cap) w := fun _ _ _ _ => rfl
  have h2f := full_two hf.two 1
  obtain ⟨oc, hoc⟩ : ∃ x, x = layF r d := ⟨_, rfl⟩
  have HOC : Hid (oc = layF r d) := hoc
  rw [← hoc]
  clear hf hBK h2 hr hoc hBx hO rdw
  go_enter Tryz.func105, Tryz.ntmps105
  go_wp2_with (refine wpList_load_mid rfl 38 (.tmp 6) rfl E 5 rfl [.int .i64 v0, .int .i64 v1, .int .i64 v2, .int .i64 v3, .int .i64 v4, .int .i64 v5, .int .i64 v6, .int .i64 v7, .int .i64 v8, .slice vp0 vl0 vq0, .slice vp1 vl1 vq1, .slice vp2 vl2 vq2, .int .i64 v9, .int .i64 v10, .bool vb] _ rg Tryz.underlying38 rfl (by rw [size_W]; rfl) ?_)
  refine CH.mono ?_
  rintro e w1 ⟨t, rfl, ht, b1⟩
  have HTT : Hid (t = true ↔ ¬ Any_full d.tapes 1) := ht
  have HFU : Hid (Any_full d.tapes 1 ↔ (200 < ((d.tapes.2 0).recs.1 : Int) + 1 ∨ 200 < ((d.tapes.2 1).recs.1 : Int) + 1)) := h2f
  have z1 := b1.size
  have X1 := HX.out.below b1
  clear CH ht h2f rg
  cases t with
  | false =>
    have hfl : Any_full d.tapes 1 := Classical.byContradiction fun hh => by have := HTT.out.2 hh; cases this
    have e : oc = .done 2 d := by
      rw [HOC.out]
      unfold layF
      rw [if_pos (HFU.out.1 hfl)]
    have HE : Hid (oc = .done 2 d) := e
    clear hfl e
    go_wp2
    go_ret
    rw [HE.out]
    exact ⟨rfl, K, X1, fun b hb => .inl hb, ChgL.of_below b1⟩
  | true =>
    have hfl : ¬ Any_full d.tapes 1 := HTT.out.1 rfl
    have e : oc = runO (appendF r) 2 0 d := by
      rw [HOC.out]
      unfold layF
      rw [if_neg (fun hh => hfl (HFU.out.2 hh))]
    have HE : Hid (oc = runO (appendF r) 2 0 d) := e
    clear hfl e
    have g3 := g2.below b1 g2.lt
    have hal := g3.lt
    have B0 : Below w1.heap.size w1 w1.drew := below_drew _
    have KS : ∀ w', Below w1.heap.size w1 w' → (Box w' a #[.int .i64 r.kind, .int .i64 r.seq, .string r.name, .int .i64 r.length, .int .i64 r.group, .int .i64 r.row, .slice o6 r.rows.1 k6, .slice o7 r.data.1 k7, .slice o8 r.delta.1 k8] 43) := fun w' hb => g3.below hb hal
    have CK := appending_is 0 (.int .i64 r.kind) (.int .i64 r.seq) (.string r.name) (.int .i64 r.length) (.int .i64 r.group) (.int .i64 r.row) (.slice o6 r.rows.1 k6) (.slice o7 r.data.1 k7) (.slice o8 r.delta.1 k8) w1.drew
    go_upto_region 3 with fail
    refine wp_region_L 7 (fun w' => Box w' a #[.int .i64 r.kind, .int .i64 r.seq, .string r.name, .int .i64 r.length, .int .i64 r.group, .int .i64 r.row, .slice o6 r.rows.1 k6, .slice o7 r.data.1 k7, .slice o8 r.delta.1 k8] 43) (by kernel_rfl) (KS _ B0) (fun hHeld => ?_)
    refine wpAnyL_take (i := 0) (oi := _) (v := ?_) 16 rfl (by kernel_rfl) (fun _ _ _ h => h) (Or.inl ⟨by rfl, ?_⟩) (by assumption) ?_
    rotate_left
    · intro w' hSw
      go_simp
      try with_reducible rfl
    try simp only [Act.put, List.setIfInBounds_toArray, List.set_cons_zero, List.set_cons_succ]
    refine wpAnyL_take (i := 1) (oi := _) (v := .agg #[.int .i64 r.kind, .int .i64 r.seq, .string r.name, .int .i64 r.length, .int .i64 r.group, .int .i64 r.row, .slice o6 r.rows.1 k6, .slice o7 r.data.1 k7, .slice o8 r.delta.1 k8]) 16 rfl (by kernel_rfl) (fun _ _ _ h => h) (load_yield 43 (.tmp 1) rfl rfl a rfl (cs := [.int .i64 r.kind, .int .i64 r.seq, .string r.name, .int .i64 r.length, .int .i64 r.group, .int .i64 r.row, .slice o6 r.rows.1 k6, .slice o7 r.data.1 k7, .slice o8 r.delta.1 k8]) (fun w' h => h) Tryz.underlying43 size_Rc rfl) (by assumption) ?_
    try simp only [List.getElem_toArray, List.getElem_cons_succ, List.getElem_cons_zero, Act.put, List.setIfInBounds_toArray, List.set_cons_zero, List.set_cons_succ]
    refine wpAnyL_take (i := 3) (oi := _) (v := .agg #[.int .i64 r.kind, .int .i64 r.seq, .string r.name, .int .i64 r.length, .int .i64 r.group, .int .i64 r.row, .slice o6 r.rows.1 k6, .slice o7 r.data.1 k7, .slice o8 r.delta.1 k8]) 16 rfl (by kernel_rfl) (fun _ _ _ h => h) (load_yield 43 (.tmp 1) rfl rfl a rfl (cs := [.int .i64 r.kind, .int .i64 r.seq, .string r.name, .int .i64 r.length, .int .i64 r.group, .int .i64 r.row, .slice o6 r.rows.1 k6, .slice o7 r.data.1 k7, .slice o8 r.delta.1 k8]) (fun w' h => h) Tryz.underlying43 size_Rc rfl) (by assumption) ?_
    try simp only [List.getElem_toArray, List.getElem_cons_succ, List.getElem_cons_zero, Act.put, List.setIfInBounds_toArray, List.set_cons_zero, List.set_cons_succ]
    refine wpAnyL_one (i := 2) (o := _) rfl (by kernel_rfl) (fun KC hKC => ?_)
    refine step_call rfl 107 _ _ rfl #[.int .i64 0, .agg #[.int .i64 r.kind, .int .i64 r.seq, .string r.name, .int .i64 r.length, .int .i64 r.group, .int .i64 r.row, .slice o6 r.rows.1 k6, .slice o7 r.data.1 k7, .slice o8 r.delta.1 k8]] ?_ Tryz.func107 (by kernel_rfl) (by kernel_rfl) CK ?_
    · simp [Act.eval, Act.put]
    rintro ee w5 ⟨rfl, p1, p2, z5, b5'⟩
    have b5 : Below w1.heap.size w1 w5 := B0.trans b5'
    have z5' : w5.heap.size = w1.heap.size + 1 + 1 := z5
    have p1 : Box w5 w1.heap.size #[.int .i64 0] 2 := p1
    have p2 : Box w5 (w1.heap.size + 1) #[.int .i64 r.kind, .int .i64 r.seq, .string r.name, .int .i64 r.length, .int .i64 r.group, .int .i64 r.row, .slice o6 r.rows.1 k6, .slice o7 r.data.1 k7, .slice o8 r.delta.1 k8] 43 := p2
    refine ⟨_, rfl, ?_⟩
    refine hKC.out _ _ (KS _ b5) (fun hHeld => ?_)
    clear hKC KC CK b5' z5
    try simp only [List.getElem_toArray, List.getElem_cons_succ, List.getElem_cons_zero, Act.put, List.setIfInBounds_toArray, List.set_cons_zero, List.set_cons_succ]
    have CK := appending_is 1 (.int .i64 r.kind) (.int .i64 r.seq) (.string r.name) (.int .i64 r.length) (.int .i64 r.group) (.int .i64 r.row) (.slice o6 r.rows.1 k6) (.slice o7 r.data.1 k7) (.slice o8 r.delta.1 k8) w5
    refine wpAnyL_one (i := 4) (o := _) rfl (by kernel_rfl) (fun KC hKC => ?_)
    refine step_call rfl 107 _ _ rfl #[.int .i64 1, .agg #[.int .i64 r.kind, .int .i64 r.seq, .string r.name, .int .i64 r.length, .int .i64 r.group, .int .i64 r.row, .slice o6 r.rows.1 k6, .slice o7 r.data.1 k7, .slice o8 r.delta.1 k8]] ?_ Tryz.func107 (by kernel_rfl) (by kernel_rfl) CK ?_
    · simp [Act.eval, Act.put]
    rintro ee w6 ⟨rfl, p3, p4, z6, b6'⟩
    have b6 : Below w1.heap.size w1 w6 := b5.trans (b6'.mono b5.size)
    rw [z5'] at p3 p4 z6
    refine ⟨_, rfl, ?_⟩
    refine hKC.out _ _ (KS _ b6) (fun hHeld => ?_)
    clear hKC KC CK
    try simp only [List.getElem_toArray, List.getElem_cons_succ, List.getElem_cons_zero, Act.put, List.setIfInBounds_toArray, List.set_cons_zero, List.set_cons_succ]
    have bN : Below w6.heap.size w6 (w6.alloc (.cells #[.func (.func 159) #[] #[.pointer (some ⟨w1.heap.size, 0, none⟩), .pointer (some ⟨w1.heap.size + 1, 0, none⟩)], .func (.func 159) #[] #[.pointer (some ⟨w1.heap.size + 1 + 1, 0, none⟩), .pointer (some ⟨w1.heap.size + 1 + 1 + 1, 0, none⟩)]] 75)) := (Below.refl _ _).alloc (Nat.le_refl _) _
    have XN : Box (w6.alloc (.cells #[.func (.func 159) #[] #[.pointer (some ⟨w1.heap.size, 0, none⟩), .pointer (some ⟨w1.heap.size + 1, 0, none⟩)], .func (.func 159) #[] #[.pointer (some ⟨w1.heap.size + 1 + 1, 0, none⟩), .pointer (some ⟨w1.heap.size + 1 + 1 + 1, 0, none⟩)]] 75)) w6.heap.size #[.func (.func 159) #[] #[.pointer (some ⟨w1.heap.size, 0, none⟩), .pointer (some ⟨w1.heap.size + 1, 0, none⟩)], .func (.func 159) #[] #[.pointer (some ⟨w1.heap.size + 1 + 1, 0, none⟩), .pointer (some ⟨w1.heap.size + 1 + 1 + 1, 0, none⟩)]] 75 := box_new _ _ _
    refine wpAnyL_one (i := 5) (o := _) rfl (by kernel_rfl) (fun KC hKC => ?_)
    go_simp
    refine hKC.out _ _ (KS _ (b6.trans (bN.mono b6.size))) (fun hHeld => ?_)
    clear hKC KC
    try simp only [List.getElem_toArray, List.getElem_cons_succ, List.getElem_cons_zero, Act.put, List.setIfInBounds_toArray, List.set_cons_zero, List.set_cons_succ]
    obtain ⟨w7, hw7⟩ : ∃ x, x = (w6.alloc (.cells #[.func (.func 159) #[] #[.pointer (some ⟨w1.heap.size, 0, none⟩), .pointer (some ⟨w1.heap.size + 1, 0, none⟩)], .func (.func 159) #[] #[.pointer (some ⟨w1.heap.size + 1 + 1, 0, none⟩), .pointer (some ⟨w1.heap.size + 1 + 1 + 1, 0, none⟩)]] 75)) := ⟨_, rfl⟩
    rw [← hw7] at bN XN
    have z7 : w6.heap.size < w7.heap.size := XN.lt
    have b7 : Below w1.heap.size w1 w7 := b6.trans (bN.mono b6.size)
    have bw7 : Below w.heap.size w w7 := b1.trans (b7.mono z1)
    have bB7 : Below B w w7 := bw7.mono (by omega)
    have q1 := (p1.below b6' (by omega)).below bN (by omega)
    have q2 := (p2.below b6' (by omega)).below bN (by omega)
    have q3 := p3.below bN p3.lt
    have q4 := p4.below bN p4.lt
    have CR := runAllC_any (fun _ => 159) (fun k => if k = 0 then #[.pointer (some ⟨w1.heap.size, 0, none⟩), .pointer (some ⟨w1.heap.size + 1, 0, none⟩)] else #[.pointer (some ⟨w1.heap.size + 1 + 1, 0, none⟩), .pointer (some ⟨w1.heap.size + 1 + 1 + 1, 0, none⟩)]) (appendF r) (fun _ => Fit3 1) B 2 w6.heap.size 0 2 [w1.heap.size, w1.heap.size + 1, w1.heap.size + 1 + 1, w1.heap.size + 1 + 1 + 1] w7 E d K
      (fun i hi => by
        rcases i with _ | _ | i
        · exact appending_taskW 0 (by decide) r o6 o7 o8 k6 k7 k8 _ hsr w1.heap.size (w1.heap.size + 1) B w7 (q1.cell 0) q2 (layRec.rd_below hrw bB7 l3) _ (by simp) (by simp) l3
        · exact appending_taskW 1 (by decide) r o6 o7 o8 k6 k7 k8 _ hsr (w1.heap.size + 1 + 1) (w1.heap.size + 1 + 1 + 1) B w7 (q3.cell 0) q4 (layRec.rd_below hrw bB7 l3) _ (by simp) (by simp) l3
        · omega) (fun i hi => by
        rcases i with _ | _ | i
        · exact XN.cell 0
        · exact XN.cell 1
        · omega) z7 ⟨by omega, fun hm => by have := hKlt _ hm; omega⟩ hBE HBK.out (by decide) (HX.out.below bw7) (fit_append r 2 0 d (by decide) HF.out)
      (fun x hx => by
        have hx4 : x = w1.heap.size ∨ x = w1.heap.size + 1 ∨ x = w1.heap.size + 1 + 1 ∨ x = w1.heap.size + 1 + 1 + 1 := by simpa using hx
        have := q1.lt
        have := q4.lt
        exact ⟨by omega, by omega, fun hm => by have := hKlt _ hm; omega⟩)
    rw [← HE.out] at CR
    rw [← hw7]
    cases oc with
    | cut d2 =>
      have CW := CR.mono (R' := fun e w' => ∃ c, e = .panicked c ∧ c = [{ v := .iface 201 (.agg #[]), recovered := false }] ∧ ∃ K', EncF w' E d2 K' ∧ (∀ b, b ∈ K' → b ∈ K ∨ w7.heap.size ≤ b) ∧ ChgL (E :: K) w7 w') (fun e w' ⟨h1, h2⟩ => ⟨_, h1, rfl, h2⟩)
      refine wpAnyL_one (i := 6) (o := _) rfl (by kernel_rfl) (fun KC hKC => ?_)
      refine step_callp rfl 91 _ _ rfl #[.pointer (some ⟨E, 0, none⟩), .slice (some ⟨w6.heap.size, 0, none⟩) 2 2] ?_ Tryz.func91 (by kernel_rfl) (by kernel_rfl) CW ?_
      · simp [Act.eval, Act.put]
      rintro ee w8 ⟨_, rfl, rfl, K8, X8, s8, C8⟩
      refine ⟨_, rfl, ?_⟩
      exact ⟨rfl, RunP.after (rv := fun c => .int .i64 c) (o := .cut d2) (fun b hb => .inl hb) (ChgL.of_below bw7) ⟨rfl, K8, X8, s8, C8⟩⟩
    | done c d2 =>
      have CW := CR.mono (R' := fun e w' => ∃ v, e = .returned v ∧ v = .int .i64 c ∧ ∃ K', EncB w' E d2 K' ∧ (∀ b, b ∈ K' → b ∈ K ∨ w7.heap.size ≤ b) ∧ ChgL (E :: K) w7 w') (fun e w' ⟨h1, h2⟩ => ⟨_, h1, rfl, h2⟩)
      refine wpAnyL_one (i := 6) (o := _) rfl (by kernel_rfl) (fun KC hKC => ?_)
      refine step_call rfl 91 _ _ rfl #[.pointer (some ⟨E, 0, none⟩), .slice (some ⟨w6.heap.size, 0, none⟩) 2 2] ?_ Tryz.func91 (by kernel_rfl) (by kernel_rfl) CW ?_
      · simp [Act.eval, Act.put]
      rintro ee w8 ⟨_, rfl, rfl, K8, X8, s8, C8⟩
      refine ⟨_, rfl, ?_⟩
      refine hKC.out _ _ ((g3.below b7 hal).chgl C8 (fun hm => by
        rcases List.mem_cons.1 hm with h | h
        · omega
        · have := HBK.out _ h; omega)) (fun hHeld => ?_)
      clear hKC KC
      try simp only [List.getElem_toArray, List.getElem_cons_succ, List.getElem_cons_zero, Act.put, List.setIfInBounds_toArray, List.set_cons_zero, List.set_cons_succ]
      refine wpAnyL_last (o := _) rfl (by kernel_rfl) (fun KC hKC => ?_)
      go_simp
      refine hKC.out _ _ ?_
      clear hKC KC
      try simp only [List.getElem_toArray, List.getElem_cons_succ, List.getElem_cons_zero, Act.put, List.setIfInBounds_toArray, List.set_cons_zero, List.set_cons_succ]
      refine wpAnyL_done (by kernel_rfl) ?_ _
      go_wp2
      go_ret
      exact RunP.after (rv := fun c => .int .i64 c) (o := .done c d2) (fun b hb => .inl hb) (ChgL.of_below bw7) ⟨rfl, K8, X8, s8, C8⟩
end Go.Proofs.YthdknhjaohhfiaaGreat
