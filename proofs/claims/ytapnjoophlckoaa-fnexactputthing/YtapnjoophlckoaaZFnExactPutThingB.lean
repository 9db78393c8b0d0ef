/- Rows of things as raw cells: parts of them, appends, one laid into its place. -/
import Derived.Test.YtapnjoophlckoaaCellsT
import Derived.Test.YtapnjoophlckoaaZFnExactPutThingA
import Derived.Deep.DeepCutAuto
import Derived.Deep.RegionLaw
import Derived.BigQuiet
import Derived.Deep.QuietTactic
import Derived.Test.YtapnjoophlckoaaOwn
import Derived.OrdersHeld
import Derived.Deep.RegionHeld
import Derived.Deep.MidRow
namespace Go.Proofs.Ytapnjoophlckoaa
open Go.RowKit F256
set_option linter.unusedVariables false
set_option linter.unusedSimpArgs false
theorem el_Thing : ElInfo layThing 25 40 48 [.string ByteArray.empty, .bool false, .slice none 0 0] := ⟨by decide, rfl, Try.underlying25, by kernel_rfl, by decide⟩
theorem size_Thing : (Try.prog.info? 40).map (·.size) = some 3 := by kernel_rfl
theorem info_ThingZ : (Try.prog.info? 40).map (fun i => (i.zero.map (·.cells), i.size)) = some (some #[.string ByteArray.empty, .bool false, .slice none 0 0], 3) := by kernel_rfl
theorem info_Thing3 {cs : List Value} (h : cs.length = 3) : (Try.prog.info? 40).map (·.size) = some cs.length := by rw [h]; kernel_rfl
theorem rdOne_thing : RdOne layThing := rdOne_as (rdOne_two (rdOne_plain _ _ _) (rdOne_two (rdOne_plain _ _ _) rdOne_bytes)) _
/-- all fields alike -/
structure SameT (a b : ThingD) : Prop where
  name : a.name = b.name
  lost : a.lost = b.lost
  bytes : SameP a.bytes.1 b.bytes.1 a.bytes.2 b.bytes.2
structure SameTs (p q : Nat × (Nat → ThingD)) : Prop where
  len : p.1 = q.1
  each : ∀ i, i < p.1 → SameT (p.2 i) (q.2 i)
set_option maxHeartbeats 8000000 in
set_option maxRecDepth 20000 in
theorem copyThing_is : ToV layThing szThingD 32 := fun cs d hi w r hhi hn => by
  obtain ⟨ao2, cap2, rfl, h2, k0⟩ := Thing_rd r
  clear r
  unfold szThingD at hn
  have R2 : Hid (layBytes.rd w hi d.bytes [.slice ao2 d.bytes.1 cap2]) := h2
  clear h2
  have Q0 : Hid (d.name.size ≤ maxLen) := k0
  clear k0
  have T0 := two_newb w #[.string d.name, .bool d.lost, .slice ao2 d.bytes.1 cap2] #[.string ByteArray.empty, .bool false, .slice none 0 0] 40 40
  go_enter Try.func32, Try.ntmps32
  go_wp2_with fail
  refine (copyBytes_is _ d.bytes hi _ (layBytes.rd_below R2.out T0.bel hhi) (Nat.le_trans hhi T0.bel.size) (by omega)).mono ?_
  rintro e w1 ⟨v0, rfl, o0, b0⟩
  obtain ⟨bo2, bcap2, hv⟩ := bytes_formT o0
  obtain rfl := one_eq hv
  clear hv
  have T0c := T0.call b0
  have z0 := T0.b2.lt
  have y0 := b0.size
  have c0_2 : w1.cell? ⟨w.heap.size, 2, none⟩ = some (.slice ao2 d.bytes.1 cap2) := T0c.b1.cell 2
  have c0f_2 : w1.frozen? ⟨w.heap.size, 2, none⟩ = false := T0c.b1.frozen 2
  have T1x : Two w (w1.setCell ⟨w.heap.size, 2, none⟩ (.slice bo2 d.bytes.1 bcap2)) #[.string d.name, .bool d.lost, .slice bo2 d.bytes.1 bcap2] #[.string ByteArray.empty, .bool false, .slice none 0 0] 40 40 := ⟨T0c.b1.stL [.slice bo2 d.bytes.1 bcap2] 2, T0c.b2.seto _ _ (by omega), T0c.bel.setCell (Nat.le_refl _) _⟩
  have O2_0 := (o0.stN w.heap.size 2 [.slice bo2 d.bytes.1 bcap2] (by omega))
  have e1 : (w1.setCell ⟨w.heap.size, 2, none⟩ (.slice bo2 d.bytes.1 bcap2)).heap.size = w1.heap.size := by simp
  clear o0 b0 
  go_upto_region 2 with fail
  obtain ⟨W1, hW1⟩ : ∃ x, x = w1.setCell ⟨w.heap.size, 2, none⟩ (.slice bo2 d.bytes.1 bcap2) := ⟨_, rfl⟩
  have O2 : Hid (OwnT layBytes W1 (w.heap.size + 1 + 1) (w1.heap.size) d.bytes [.slice bo2 d.bytes.1 bcap2]) := by rw [hW1]; exact OwnT.weaken O2_0 (by simp) (Nat.le_refl _)
  rw [← hW1] at T1x e1 ⊢
  clear hW1 O2_0 T0c c0_2 c0f_2
  have y_0 : W1.cell? ⟨w.heap.size, 0, none⟩ = some (.string d.name) := T1x.b1.cell 0
  have y_1 : W1.cell? ⟨w.heap.size, 1, none⟩ = some (.bool d.lost) := T1x.b1.cell 1
  have y_2 : W1.cell? ⟨w.heap.size, 2, none⟩ = some (.slice bo2 d.bytes.1 bcap2) := T1x.b1.cell 2
  have r_0 : W1.cell? ⟨w.heap.size + 1, 0, none⟩ = some (.string ByteArray.empty) := T1x.b2.cell 0
  have rf_0 : W1.frozen? ⟨w.heap.size + 1, 0, none⟩ = false := T1x.b2.frozen 0
  have r_1 : W1.cell? ⟨w.heap.size + 1, 1, none⟩ = some (.bool false) := T1x.b2.cell 1
  have rf_1 : W1.frozen? ⟨w.heap.size + 1, 1, none⟩ = false := T1x.b2.frozen 1
  have r_2 : W1.cell? ⟨w.heap.size + 1, 2, none⟩ = some (.slice none 0 0) := T1x.b2.cell 2
  have rf_2 : W1.frozen? ⟨w.heap.size + 1, 2, none⟩ = false := T1x.b2.frozen 2
  have HB : Hid (Below w.heap.size w W1) := T1x.bel
  have zz := T1x.b2.lt
  clear T1x
  go_wp2
  refine bodyPost_ret (v := .agg #[.string d.name, .bool d.lost, .slice bo2 d.bytes.1 bcap2]) (by simp [results, Try.results32, go_sem, r_0, y_0, r_1, y_1, r_2, y_2]) rfl ?_
  have F : OwnT layThing W1 (w.heap.size + 1 + 1) w1.heap.size d ([.string d.name] ++ ([.bool d.lost] ++ [.slice bo2 d.bytes.1 bcap2])) := OwnT.conv (OwnT.pre (A := layS) (a := d.name) (c := [.string d.name]) ⟨rfl, Q0.out, rfl⟩ (OwnT.pre (A := layB) (a := d.lost) (c := [.bool d.lost]) ⟨rfl, trivial, rfl⟩ O2.out))
  refine ⟨[.string d.name, .bool d.lost, .slice bo2 d.bytes.1 bcap2], rfl, ?_, ?_⟩
  · exact OwnT.finb (F.weaken (Nat.le_refl _) (by omega)) (b := w.heap.size + 1) (by omega) (by omega) 0 [.string d.name, .bool d.lost, .slice bo2 d.bytes.1 bcap2] _ rfl
  · exact HB.out.trans (stN_below (by omega) [.string d.name, .bool d.lost, .slice bo2 d.bytes.1 bcap2] 0)
set_option maxHeartbeats 8000000 in
set_option maxRecDepth 20000 in
theorem copyThingS_is : ToF (layThing.slice 40) (szSl szThingD) 31 32 := fun v d hi w h hhi hn => by
  obtain ⟨n, x⟩ := d
  obtain ⟨ao, cap, hv, hm, hc⟩ := h
  cases hv
  have hn1 := szSl_n hn
  have hn2 : ∀ i, i < n → szThingD (x i) ≤ 1048576 := fun i hi => szSl_at hn hi
  simp only at hn1 hm hc
  clear hn
  go_enter Try.func31, Try.ntmps31
  go_wp2_with (at_make; refine wp_makeT layThing [.string ByteArray.empty, .bool false, .slice none 0 0] _ 40 48 (el_Thing).hs rfl Try.underlying25 (el_Thing).hi x (fun _ => []) _ rfl _ _ rfl _ _ n rfl rfl rfl rfl (by omega) (by omega) ?_; intro w1 sp1 hb1)
  go_loopw [12] (fun i wr => ∃ k : Nat, k ≤ n ∧ i = .int .i64 k ∧ ∃ ce Ls, SlP layThing 40 wr w.heap.size w.heap.size n n k x ce Ls ∧ Below w.heap.size w wr) (fun i _ => n - (intOf i).toNat)
  case atStart => exact ⟨0, Nat.zero_le _, rfl, _, _, sp1, hb1⟩
  case round =>
    clear sp1 hb1
    obtain ⟨k, hk, rfl, ce, Ls, sp, hb⟩ := hrel
    by_cases hlt : k < n
    · obtain ⟨b, off, rfl, hblt, hel⟩ := hc (by omega)
      obtain ⟨ck, hrk, hcell⟩ := elem_rd (t := 0) hel hb hhi hblt hlt
      obtain ⟨ao2, cap2, rfl, -⟩ := Thing_rd hrk
      have c0 : wr.cell? ⟨b, off + k * 3, none⟩ = some (.string (x k).name) := hcell 0 (by decide)
      have c1 : wr.cell? ⟨b, off + k * 3 + 1, none⟩ = some (.bool (x k).lost) := hcell 1 (by decide)
      have c2 : wr.cell? ⟨b, off + k * 3 + 2, none⟩ = some (.slice ao2 (x k).bytes.1 cap2) := hcell 2 (by decide)
      clear hc hel hcell
      go_wp2_with fail
      refine (copyThing_is _ (x k) hi wr hrk (Nat.le_trans hhi hb.size) (hn2 k hlt)).mono ?_
      rintro e w2 ⟨cs', rfl, o2, hb2⟩
      obtain ⟨bao2, bcap2, rfl⟩ := Thing_cells o2
      obtain ⟨z0, s0⟩ := sp.some hb2 hlt (show 0 < layThing.sz by decide)
      have s0 : w2.cell? ⟨w.heap.size, k * 3, none⟩ = some z0 := s0
      have sf0 := (sp.below hb2).frozen (k * 3)
      obtain ⟨z1, s1⟩ := sp.some hb2 hlt (show 1 < layThing.sz by decide)
      have s1 : w2.cell? ⟨w.heap.size, k * 3 + 1, none⟩ = some z1 := s1
      have sf1 := (sp.below hb2).frozen (k * 3 + 1)
      obtain ⟨z2, s2⟩ := sp.some hb2 hlt (show 2 < layThing.sz by decide)
      have s2 : w2.cell? ⟨w.heap.size, k * 3 + 2, none⟩ = some z2 := s2
      have sf2 := (sp.below hb2).frozen (k * 3 + 2)
      have N := sp.next hb2 hlt o2 hb.size
      have N2 : Below w.heap.size w (stN w2 w.heap.size (k * layThing.sz) [.string (x k).name, .bool (x k).lost, .slice bao2 (x k).bytes.1 bcap2]) := (hb.trans (hb2.mono hb.size)).trans (stN_below (Nat.le_refl _) _ _)
      clear o2 hb2 sp hb
      go_wp2_with fail
      go_roundw
      case rel =>
        obtain ⟨ce', Ls', N⟩ := N
        exact ⟨k + 1, by omega, by go_num, ce', Ls', N, N2⟩
      case measure => simp [intOf]; omega
    · obtain rfl : k = n := by omega
      go_wp2
      go_ret
      exact ⟨_, rfl, sp.done (Nat.le_refl _), hb⟩
set_option maxHeartbeats 8000000 in
set_option maxRecDepth 20000 in
theorem l13Copy_is : ToV layThing szThingD 29 := fun cs d hi w r hhi hn => by
  obtain ⟨ao2, cap2, rfl, h2, k0⟩ := Thing_rd r
  clear r
  unfold szThingD lenD at hn
  have Q0 : Hid (d.name.size ≤ maxLen) := k0
  clear k0
  have T0 := two_newb w #[.string d.name, .bool d.lost, .slice ao2 d.bytes.1 cap2] #[.string ⟨#[]⟩, .bool false, .slice none 0 0] 40 40
  go_enter Try.func29, Try.ntmps29
  go_upto_region 1 with fail
  obtain ⟨W0, hW0⟩ : ∃ x, x = (w.alloc (.cells #[.string d.name, .bool d.lost, .slice ao2 d.bytes.1 cap2] 40)).alloc (.cells #[.string ⟨#[]⟩, .bool false, .slice none 0 0] 40) := ⟨_, rfl⟩
  have z0 : W0.heap.size = w.heap.size + 1 + 1 := by rw [hW0]; simp
  rw [← hW0] at T0 ⊢
  clear hW0
  have bA0 : Below W0.heap.size W0 (W0.alloc (.cells #[] 5)) := (Below.refl _ _).alloc (Nat.le_refl _) _
  have TA0 := T0.call bA0
  obtain ⟨v', w1, hrun, o0, b0⟩ := run_appendRB 23 (W0.alloc (.cells #[] 5)) W0.heap.size (lit_row W0 5) (layBytes.rd_below h2 TA0.bel hhi) (show d.bytes.1 ≤ 10000000 by omega)
  obtain ⟨bo2, bcap2, hv⟩ := bytes_formT o0
  obtain rfl := one_eq hv
  clear hv
  have zw0 : W0.heap.size + 1 ≤ w1.heap.size := Nat.le_trans (by simp) b0.size
  have TB0 : Two w w1 #[.string d.name, .bool d.lost, .slice ao2 d.bytes.1 cap2] #[.string ⟨#[]⟩, .bool false, .slice none 0 0] 40 40 := ⟨TA0.b1.below b0 (by omega), TA0.b2.below b0 (by omega), TA0.bel.trans (b0.mono (by omega))⟩
  have xa : (W0.alloc (.cells #[] 5)).cell? ⟨w.heap.size, 2, none⟩ = some (.slice ao2 d.bytes.1 cap2) := TA0.b1.cell 2
  have xb : w1.cell? ⟨w.heap.size, 2, none⟩ = some (.slice ao2 d.bytes.1 cap2) := TB0.b1.cell 2
  have xf : w1.frozen? ⟨w.heap.size, 2, none⟩ = false := TB0.b1.frozen 2
  have T1 : Two w (w1.setCell ⟨w.heap.size, 2, none⟩ (.slice bo2 d.bytes.1 bcap2)) #[.string d.name, .bool d.lost, .slice bo2 d.bytes.1 bcap2] #[.string ⟨#[]⟩, .bool false, .slice none 0 0] 40 40 := ⟨TB0.b1.stL [.slice bo2 d.bytes.1 bcap2] 2, TB0.b2.seto _ _ (by omega), TB0.bel.setCell (Nat.le_refl _) _⟩
  have O2x := o0.stN w.heap.size 2 [.slice bo2 d.bytes.1 bcap2] (by omega)
  have e0 : (w1.setCell ⟨w.heap.size, 2, none⟩ (.slice bo2 d.bytes.1 bcap2)).heap.size = w1.heap.size := by simp
  clear TA0 TB0 o0 b0 bA0 T0
  go_upto_region 2 with (at_builtin; refine wp_run2 rfl (.tmp 3) (.tmp 5) rfl ?_ ?_ hrun ?_; (simp [Act.eval]); (simp [Act.eval]))
  obtain ⟨W1, hW1⟩ : ∃ x, x = w1.setCell ⟨w.heap.size, 2, none⟩ (.slice bo2 d.bytes.1 bcap2) := ⟨_, rfl⟩
  have O2 : Hid (OwnT layBytes W1 W0.heap.size w1.heap.size d.bytes [.slice bo2 d.bytes.1 bcap2]) := by rw [hW1]; exact O2x
  rw [← hW1] at T1 e0 ⊢
  clear hW1 hrun xa xb xf O2x
  have y_0 : W1.cell? ⟨w.heap.size, 0, none⟩ = some (.string d.name) := T1.b1.cell 0
  have y_1 : W1.cell? ⟨w.heap.size, 1, none⟩ = some (.bool d.lost) := T1.b1.cell 1
  have y_2 : W1.cell? ⟨w.heap.size, 2, none⟩ = some (.slice bo2 d.bytes.1 bcap2) := T1.b1.cell 2
  have r_0 : W1.cell? ⟨w.heap.size + 1, 0, none⟩ = some (.string ⟨#[]⟩) := T1.b2.cell 0
  have rf_0 : W1.frozen? ⟨w.heap.size + 1, 0, none⟩ = false := T1.b2.frozen 0
  have r_1 : W1.cell? ⟨w.heap.size + 1, 1, none⟩ = some (.bool false) := T1.b2.cell 1
  have rf_1 : W1.frozen? ⟨w.heap.size + 1, 1, none⟩ = false := T1.b2.frozen 1
  have r_2 : W1.cell? ⟨w.heap.size + 1, 2, none⟩ = some (.slice none 0 0) := T1.b2.cell 2
  have rf_2 : W1.frozen? ⟨w.heap.size + 1, 2, none⟩ = false := T1.b2.frozen 2
  have HB : Hid (Below w.heap.size w W1) := T1.bel
  clear T1
  go_wp2
  refine bodyPost_ret (v := .agg #[.string d.name, .bool d.lost, .slice bo2 d.bytes.1 bcap2]) (by simp [results, Try.results29, go_sem, r_0, y_0, r_1, y_1, r_2, y_2]) rfl ?_
  have F : OwnT layThing W1 (w.heap.size + 1 + 1) W1.heap.size d ([.string d.name] ++ ([.bool d.lost] ++ [.slice bo2 d.bytes.1 bcap2])) := OwnT.conv (OwnT.pre (A := layS) (a := d.name) (c := [.string d.name]) ⟨rfl, Q0.out, rfl⟩ (OwnT.pre (A := layB) (a := d.lost) (c := [.bool d.lost]) ⟨rfl, trivial, rfl⟩ (O2.out.weaken (by omega) (by omega))))
  refine ⟨[.string d.name, .bool d.lost, .slice bo2 d.bytes.1 bcap2], rfl, ?_, ?_⟩
  · exact OwnT.finb F (b := w.heap.size + 1) (by omega) (by omega) 0 [.string d.name, .bool d.lost, .slice bo2 d.bytes.1 bcap2] _ rfl
  · exact HB.out.trans (stN_below (by omega) [.string d.name, .bool d.lost, .slice bo2 d.bytes.1 bcap2] 0)
end Go.Proofs.Ytapnjoophlckoaa

namespace Go.Proofs.Ytapnjoophlckoaa
open Go.RowKit F256
set_option linter.unusedVariables false
set_option linter.unusedSimpArgs false
theorem catN_nodup {n : Nat} {F : Nat → List Nat} (h1 : ∀ k, k < n → (F k).Nodup) (h2 : ∀ k j, k < n → j < n → k ≠ j → ∀ b, b ∈ F k → b ∉ F j) : (catN n F).Nodup := by
  induction n with
  | zero => simp [catN]
  | succ n ih =>
    rw [catN_succ]
    refine List.nodup_append.2 ⟨ih (fun k hk => h1 k (by omega)) (fun k j hk hj => h2 k j (by omega) (by omega)), h1 n (by omega), fun b hb c hc hh => ?_⟩
    subst hh
    obtain ⟨k, hk, hbk⟩ := mem_catN.1 hb
    exact h2 k n (by omega) (by omega) (by omega) b hbk hc
theorem catN_each {n : Nat} {F : Nat → List Nat} (h : (catN n F).Nodup) {k : Nat} (hk : k < n) : (F k).Nodup := by
  induction n with
  | zero => omega
  | succ n ih =>
    rw [catN_succ] at h
    obtain ⟨h1, h2, _⟩ := List.nodup_append.1 h
    by_cases c : k = n
    · subst c; exact h2
    · exact ih h1 (by omega)
/-- the places of those that are keptI, of the first n -/
def keptI (p : Nat → Bool) (n : Nat) : List Nat := (List.range n).filter p
theorem kept_succ (p : Nat → Bool) (n : Nat) : keptI p (n + 1) = keptI p n ++ (if p n then [n] else []) := by
  unfold keptI
  rw [List.range_succ, List.filter_append]
  cases h : p n <;> simp [h]
theorem kept_lt {p : Nat → Bool} {n i : Nat} (h : i ∈ keptI p n) : i < n := by
  unfold keptI at h
  exact List.mem_range.1 (List.mem_filter.1 h).1
theorem kept_le (p : Nat → Bool) (n : Nat) : (keptI p n).length ≤ n := by
  have := List.length_filter_le p (List.range n)
  unfold keptI
  simpa using this
theorem kept_nodup (p : Nat → Bool) (n : Nat) : (keptI p n).Nodup := List.Pairwise.filter _ List.nodup_range
def selF (p : Nat → Bool) (n : Nat) : Nat → Nat := fun m => (keptI p n).getD m 0
theorem selF_mem {p : Nat → Bool} {n m : Nat} (h : m < (keptI p n).length) : selF p n m ∈ keptI p n := by
  unfold selF
  rw [List.getD_eq_getElem?_getD, List.getElem?_eq_getElem h]
  exact List.getElem_mem h
theorem selF_lt {p : Nat → Bool} {n m : Nat} (h : m < (keptI p n).length) : selF p n m < n := kept_lt (selF_mem h)
theorem selF_inj {p : Nat → Bool} {n a b : Nat} (ha : a < (keptI p n).length) (hb : b < (keptI p n).length) (h : selF p n a = selF p n b) : a = b := by
  unfold selF at h
  rw [List.getD_eq_getElem?_getD, List.getD_eq_getElem?_getD, List.getElem?_eq_getElem ha, List.getElem?_eq_getElem hb] at h
  have hp := List.pairwise_iff_getElem.1 (kept_nodup p n)
  rcases Nat.lt_trichotomy a b with c | c | c
  · exact absurd h (hp a b ha hb c)
  · exact c
  · exact absurd h.symm (hp b a hb ha c)
/-- the first k of the keptI places do not hang on what comes behind -/
theorem selF_more {p : Nat → Bool} {n m : Nat} (h : m < (keptI p n).length) : selF p (n + 1) m = selF p n m := by
  unfold selF
  rw [kept_succ, List.getD_eq_getElem?_getD, List.getD_eq_getElem?_getD, List.getElem?_append_left h]
theorem selF_last {p : Nat → Bool} {n : Nat} (h : p n = true) : selF p (n + 1) (keptI p n).length = n := by
  unfold selF
  rw [kept_succ, List.getD_eq_getElem?_getD, List.getElem?_append_right (Nat.le_refl _), Nat.sub_self, if_pos h]
  rfl
theorem cat_sel {β : Type} {p : Nat → Bool} {n : Nat} {ce : Nat → List β} (h : p n = true) : catN (keptI p (n + 1)).length (fun i => ce (selF p (n + 1) i)) = catN (keptI p n).length (fun i => ce (selF p n i)) ++ ce n := by
  have e : (keptI p (n + 1)).length = (keptI p n).length + 1 := by rw [kept_succ, if_pos h]; simp
  rw [e, catN_succ, catN_congr (g := fun i => ce (selF p n i)) (fun i hi => by rw [selF_more hi])]
  rw [selF_last h]
theorem kept_skip {p : Nat → Bool} {n : Nat} (h : p n = false) : keptI p (n + 1) = keptI p n := by rw [kept_succ, if_neg (by simp [h])]; simp
section
variable {α : Type} {E : Lay α} {t : TypeId} {w w' : World} {g cap n : Nat} {x : Nat → α} {ce : Nat → List Value} {Ls : Nat → List Nat}
/-- of an owned slice some elements are keptI, in a row of its own or in the old one -/
theorem SlO.select (h : SlO E t w g cap n x ce Ls) (nd : (g :: catN n Ls).Nodup) {p : Nat → Bool} {v : Value} (hr : w'.ownsRow 0 t E.sz v (keptI p n).length (catN (keptI p n).length (fun i => ce (selF p n i)))) (hv : ∀ b, v.ownBlock = some b → b = g ∨ w.heap.size ≤ b) (hk : ∀ b, b ∈ catN n Ls → w'.heap[b]? = w.heap[b]?) :
    (E.slice t).own w' ((keptI p n).length, fun i => x (selF p n i)) [v] (v.ownBlock.toList ++ catN (keptI p n).length (fun i => Ls (selF p n i))) ∧ (v.ownBlock.toList ++ catN (keptI p n).length (fun i => Ls (selF p n i))).Nodup ∧ ∀ b, b ∈ v.ownBlock.toList ++ catN (keptI p n).length (fun i => Ls (selF p n i)) → b ∈ g :: catN n Ls ∨ (w.heap.size ≤ b ∧ b < w'.heap.size) := by
  obtain ⟨n1, n2⟩ := List.nodup_cons.1 nd
  have hin : ∀ b, b ∈ catN (keptI p n).length (fun i => Ls (selF p n i)) → b ∈ catN n Ls := fun b hb => by
    obtain ⟨i, hi, hb⟩ := mem_catN.1 hb
    exact mem_catN.2 ⟨selF p n i, selF_lt hi, hb⟩
  refine ⟨⟨v, fun i => ce (selF p n i), fun i => Ls (selF p n i), rfl, rfl, hr, fun i hi => ?_⟩, ?_, fun b hb => ?_⟩
  · exact E.own_kept (h.each _ (selF_lt hi)) (fun b hb => hk b (mem_catN.2 ⟨_, selF_lt hi, hb⟩))
  · refine List.nodup_append.2 ⟨by cases v.ownBlock <;> simp, catN_nodup (fun k hk' => catN_each n2 (selF_lt hk')) (fun k j hk' hj hne b hb => cat_apart n2 (selF_lt hj) (selF_lt hk') (fun e => hne (selF_inj hk' hj e)) hb), fun a ha b hb hab => ?_⟩
    subst hab
    have ha' : v.ownBlock = some a := by simpa using ha
    rcases hv a ha' with e | e
    · subst e; exact n1 (hin _ hb)
    · have := h.mem_lt a (List.mem_cons_of_mem _ (hin _ hb)); omega
  · rcases List.mem_append.1 hb with hb | hb
    · have hb' : v.ownBlock = some b := by simpa using hb
      rcases hv b hb' with e | e
      · exact .inl (by rw [e]; exact List.mem_cons_self ..)
      · exact .inr ⟨e, (hr.lt b hb').2⟩
    · exact .inl (List.mem_cons_of_mem _ (hin b hb))
end
/-- the kept ones ahead, the others as they were -/
def mixF {β : Type} (p : Nat → Bool) (j : Nat) (f : Nat → β) : Nat → β := fun m => if m < (keptI p j).length then f (selF p j m) else f m
theorem mix_at {β : Type} {p : Nat → Bool} {j m : Nat} (f : Nat → β) (h : (keptI p j).length ≤ m) : mixF p j f m = f m := by unfold mixF; rw [if_neg (by omega)]
theorem mix_skip {β : Type} {p : Nat → Bool} {j : Nat} (f : Nat → β) (h : p j = false) (m : Nat) : mixF p (j + 1) f m = mixF p j f m := by
  unfold mixF
  rw [kept_skip h]
  by_cases c : m < (keptI p j).length
  · rw [if_pos c, if_pos c, selF_more c]
  · rw [if_neg c, if_neg c]
theorem mix_keep {β : Type} {p : Nat → Bool} {j : Nat} (f : Nat → β) (h : p j = true) (m : Nat) : upd (mixF p j f) (keptI p j).length (f j) m = mixF p (j + 1) f m := by
  have e : (keptI p (j + 1)).length = (keptI p j).length + 1 := by rw [kept_succ, if_pos h]; simp
  unfold mixF
  by_cases c : m = (keptI p j).length
  · subst c
    rw [upd_at, if_pos (by omega), selF_last h]
  · rw [upd_ne _ _ c]
    by_cases c2 : m < (keptI p j).length
    · rw [if_pos c2, if_pos (by omega), selF_more c2]
    · rw [if_neg c2, if_neg (by omega)]
theorem kept_all {p : Nat → Bool} {n : Nat} (h : ∀ i, i < n → p i = true) : keptI p n = List.range n := by
  unfold keptI
  exact List.filter_eq_self.2 (fun i hi => h i (List.mem_range.1 hi))
theorem sel_all {p : Nat → Bool} {n m : Nat} (h : ∀ i, i < n → p i = true) (hm : m < n) : selF p n m = m := by
  unfold selF
  rw [kept_all h, List.getD_eq_getElem?_getD, List.getElem?_range hm]
  rfl
theorem mix_all {β : Type} {p : Nat → Bool} {j : Nat} (f : Nat → β) (h : ∀ i, i < j → p i = true) (m : Nat) : mixF p j f m = f m := by
  unfold mixF
  by_cases c : m < (keptI p j).length
  · rw [if_pos c, sel_all h (by rw [kept_all h] at c; simpa using c)]
  · rw [if_neg c]
theorem kept_less {p : Nat → Bool} {n i : Nat} (hi : i < n) (h : p i = false) : (keptI p n).length < n := by
  induction n with
  | zero => omega
  | succ n ih =>
    by_cases c : i = n
    · subst c
      rw [kept_skip h]
      have := kept_le p i
      omega
    · have := ih (by omega)
      have h2 : (keptI p (n + 1)).length ≤ (keptI p n).length + 1 := by rw [kept_succ]; split <;> simp
      omega
theorem row_short {w : World} {g cap n m s : Nat} {t : TypeId} {xs ys : List Value} (h : w.ownsRow 0 t s (.slice (some ⟨g, 0, none⟩) n cap) n xs) (hm : m ≤ n) (hy : xs.take (m * s) = ys) : w.ownsRow 0 t s (.slice (some ⟨g, 0, none⟩) m cap) m ys := by
  have hl := h.1
  have hms : m * s ≤ n * s := Nat.mul_le_mul_right s hm
  refine ⟨by rw [← hy, List.length_take, hl]; omega, ?_⟩
  rcases h.2 with ⟨hn, _⟩ | ⟨g', cap', cur, he, hbg, hgg, hnc, hcm, hcs, htk⟩
  · cases hn
  · cases he
    refine .inr ⟨g, cap, cur, rfl, hbg, hgg, by omega, hcm, hcs, ?_⟩
    rw [← hy, ← htk, List.take_take, Nat.min_eq_left hms]
theorem catN_take {n m s : Nat} {ce : Nat → List Value} (h : ∀ i, i < n → (ce i).length = s) (hm : m ≤ n) : (catN n ce).take (m * s) = catN m ce := by
  induction n with
  | zero => obtain rfl : m = 0 := by omega
            simp [catN]
  | succ n ih =>
    by_cases c : m = n + 1
    · subst c
      exact List.take_of_length_le (by rw [catN_len h]; exact Nat.le_refl _)
    · have hl : (catN n ce).length = n * s := catN_len (fun i hi => h i (by omega))
      have hms : m * s ≤ n * s := Nat.mul_le_mul_right s (by omega)
      rw [catN_succ, List.take_append_of_le_length (by omega)]
      exact ih (fun i hi => h i (by omega)) (by omega)
theorem row_base {w : World} {lo m s : Nat} {t : TypeId} {v : Value} {xs : List Value} (h : w.ownsRow lo t s v m xs) : w.ownsRow 0 t s v m xs := by
  refine ⟨h.1, ?_⟩
  rcases h.2 with hn | ⟨g, cap, cur, e, _, rest⟩
  · exact .inl hn
  · exact .inr ⟨g, cap, cur, e, Nat.zero_le _, rest⟩
theorem sum_sel (c : Nat → Nat) (p : Nat → Bool) : ∀ n : Nat, sumN (fun i => c (selF p n i)) (keptI p n).length ≤ sumN c n
  | 0 => by simp [keptI, sumN]
  | n + 1 => by
    have ih := sum_sel c p n
    rw [sumN_succ]
    cases h : p n with
    | true =>
      have e : (keptI p (n + 1)).length = (keptI p n).length + 1 := by rw [kept_succ, if_pos h]; simp
      rw [e, sumN_succ, selF_last h]
      have h2 : sumN (fun i => c (selF p (n + 1) i)) (keptI p n).length ≤ sumN (fun i => c (selF p n i)) (keptI p n).length := sumN_mono2 (fun i hi => by rw [selF_more hi]; exact Nat.le_refl _)
      omega
    | false =>
      rw [kept_skip h]
      have h2 : sumN (fun i => c (selF p (n + 1) i)) (keptI p n).length ≤ sumN (fun i => c (selF p n i)) (keptI p n).length := sumN_mono2 (fun i hi => by rw [selF_more hi]; exact Nat.le_refl _)
      omega
theorem chgL_setRow {w : World} (b : Nat) (cs : Array Value) : ChgL [b] w (w.setRow b cs) :=
  ⟨rfl, rfl, rfl, by simp, fun k _ hn => setRow_other w b k cs (fun h => hn (by simp [h]))⟩
end Go.Proofs.Ytapnjoophlckoaa

namespace Go.Proofs.Ytapnjoophlckoaa
open Go.RowKit F256
set_option linter.unusedVariables false
set_option linter.unusedSimpArgs false
/-- n cells, whatever they hold -/
def layRaw (n : Nat) : Lay (List Value) where
  sz := n
  rd := fun _ _ a cs => cs = a ∧ a.length = n ∧ ∀ v, v ∈ a → v.oneCell' = true
  own := fun _ a cs L => cs = a ∧ a.length = n ∧ (∀ v, v ∈ a → v.oneCell' = true) ∧ L = []
  rd_len := fun h => by rw [h.1]; exact h.2.1
  rd_below := fun h _ _ => h
  rd_mono := fun h _ => h
  own_len := fun h => by rw [h.1]; exact h.2.1
  own_kept := fun h _ => h
  own_lt := fun h b hb => by rw [h.2.2.2] at hb; cases hb
  own_rd := fun h _ => ⟨h.1, h.2.1, h.2.2.1⟩
  own_one := fun h u hu => by rw [h.1] at hu; exact h.2.2.1 u hu
theorem rdOne_raw3 : RdOne (layRaw 3) := fun w hi a cs h u hu => by
  obtain ⟨rfl, _, h3⟩ := h
  exact h3 u hu
/-- an owned row, seen as raw cells -/
theorem SlO.raw {α : Type} {E : Lay α} {t : TypeId} {w : World} {g cap n m : Nat} {x : Nat → α} {ce : Nat → List Value} {Ls : Nat → List Nat} (h : SlO E t w g cap n x ce Ls) (hm : E.sz = m) : View (layRaw m) t w 0 0 (.slice (some ⟨g, 0, none⟩) n cap) n ce ce :=
  ⟨by rw [← hm] at *; exact h.row, fun i hi => ⟨rfl, by rw [← hm]; exact E.own_len (h.each i hi), fun v hv => E.own_one (h.each i hi) v hv⟩⟩
theorem zero_RecT (w : World) : (zeroValue 40).run Try.prog w = .ok (.agg #[.string ByteArray.empty, .bool false, .slice none 0 0]) w := by kernel_rfl
theorem zeros_oneT (n : Nat) : ∀ v, v ∈ (Builtin.zeroCells #[.string ByteArray.empty, .bool false, .slice none 0 0] n).toList → v.oneCell' = true := fun v hv => by
  simp only [Builtin.zeroCells, Array.toList_map, List.mem_map] at hv
  obtain ⟨i, _, rfl⟩ := hv
  have hi : i % 3 < 3 := Nat.mod_lt _ (by decide)
  show (#[.string ByteArray.empty, .bool false, .slice none 0 0] : Array Value)[i % 3]!.oneCell' = true
  generalize i % 3 = j at hi
  match j, hi with
  | 0, _ => rfl
  | 1, _ => rfl
  | 2, _ => rfl
/-- clear over records: the row's head is as it was -/
theorem run_clearZT (z : Value) (zs : Array Value) (hv : ∀ w, (zeroValue 40).run Try.prog w = .ok z w) (hz : z.cells = zs) (h9 : zs.size = 3) (hone : ∀ n v, v ∈ (Builtin.zeroCells zs n).toList → v.oneCell' = true) (w : World) (ty g o n c : Nat) (cur : Array Value) (hg : w.heap[g]? = some (.cells cur 40 (0, 0))) (hn : 0 < n) (hl : o + n * 3 ≤ cur.size) : ∃ row : Array Value, (Builtin.clear_ #[25] ty #[.slice (some ⟨g, o, none⟩) n c]).run Try.prog w = .ok (.tuple #[]) (w.setRow g row) ∧ row.size = cur.size ∧ row.toList.take o = cur.toList.take o := by
  obtain ⟨Z, hZ⟩ : ∃ Z, Z = (Builtin.zeroCells zs n).toList := ⟨_, rfl⟩
  have hlen : Z.length = n * 3 := by rw [hZ]; simp [Builtin.zeroCells, h9]
  have hst := run_storeCells_at (P := Try.prog) g o 40 Z 0 cur w hg (by rw [hlen]; omega) (by rw [hZ]; exact hone n)
  simp only [Nat.add_zero] at hst
  refine ⟨(cur.toList.take o ++ Z ++ cur.toList.drop (o + Z.length)).toArray, ?_, ?_, ?_⟩
  · obtain ⟨m, rfl⟩ : ∃ m, n = m + 1 := ⟨n - 1, by omega⟩
    simp [Builtin.clear_, run_underlying Try.underlying25, hv, hz, ← hZ, hst]
  · simp only [List.size_toArray, List.length_append, List.length_take, List.length_drop, hlen, Array.length_toList]
    omega
  · simp only [List.toList_toArray]
    rw [List.append_assoc, List.take_append_of_le_length (by simp; omega), List.take_take, Nat.min_self]
theorem run_clearRT (w : World) (ty g o n c : Nat) (cur : Array Value) (hg : w.heap[g]? = some (.cells cur 40 (0, 0))) (hn : 0 < n) (hl : o + n * 3 ≤ cur.size) : ∃ row : Array Value, (Builtin.clear_ #[25] ty #[.slice (some ⟨g, o, none⟩) n c]).run Try.prog w = .ok (.tuple #[]) (w.setRow g row) ∧ row.size = cur.size ∧ row.toList.take o = cur.toList.take o :=
  run_clearZT (.agg #[.string ByteArray.empty, .bool false, .slice none 0 0]) #[.string ByteArray.empty, .bool false, .slice none 0 0] zero_RecT rfl rfl zeros_oneT w ty g o n c cur hg hn hl
theorem run_rsFromT (g n cap i : Nat) (hi : i < n) (hn : n ≤ cap) (w : World) : (Instr.slice 25 (.slice (some ⟨g, 0, none⟩) n cap) (some (.int .i64 (i : Int))) none none).run Try.prog w = .ok (.slice (some ⟨g, i * 3, none⟩) (n - i) (cap - i)) w := by
  have e1 : (i : Int) ≤ (n : Int) := by omega
  have e6 : i ≤ n := by omega
  have e7 : ¬ cap = i := by omega
  simp [Instr.slice, run_underlying Try.underlying25, Instr.sliceBounds, Instr.sliceBound, asIntOf, go_sem, e1, e6, e7]
theorem run_rsToT (g n cap i : Nat) (hi : i ≤ cap) (w : World) : (Instr.slice 25 (.slice (some ⟨g, 0, none⟩) n cap) none (some (.int .i64 (i : Int))) none).run Try.prog w = .ok (.slice (some ⟨g, 0, none⟩) i cap) w := by
  have e1 : (i : Int) ≤ (cap : Int) := by omega
  simp [Instr.slice, run_underlying Try.underlying25, Instr.sliceBounds, Instr.sliceBound, asIntOf, go_sem, e1, hi]
set_option maxHeartbeats 8000000 in
set_option maxRecDepth 20000 in
theorem deleteNoneT (ao : Option Addr) (cap : Nat) (fv : Value) (w : World) :
    Calls Try.prog 30 #[.slice ao 0 cap, fv] w fun e w' => e = .returned (.slice ao 0 cap) ∧ w' = w := by
  have CI : Calls Try.prog 22 #[.slice ao 0 cap, fv] w fun e w' => e = .returned (.int .i64 (-1)) ∧ w' = w := by
    go_enter Try.func22, Try.ntmps22
    go_wp2
    go_loop [8] (fun z => z = .int .i64 0) (fun _ => 0)
    case atStart => rfl
    case round =>
      subst hrel
      go_wp2
      go_ret
      exact ⟨rfl, rfl⟩
  have te : ((-1 : Int) == -1) = true := by decide
  go_enter Try.func30, Try.ntmps30
  go_wp2_with fail
  refine CI.mono ?_
  rintro e w1 ⟨rfl, e1⟩
  obtain rfl := e1.symm
  go_wp2
  go_ret
  exact ⟨rfl, rfl⟩
set_option maxHeartbeats 16000000 in
set_option maxRecDepth 100000 in
theorem index_drop (g cap n lo hi : Nat) (x : Nat → List Value) (ce : Nat → List Value) (a0 : Nat) (del : Nat → Bool) (w : World) (hV : View (layRaw 3) 40 w lo hi (.slice (some ⟨g, 0, none⟩) n cap) n x ce) (hhi : hi ≤ w.heap.size) (hn : n ≤ 1048576) (CD : ∀ k, k < n → ∀ w', ChgL [g] w w' → Calls Try.prog 33 #[.agg (ce k).toArray, .pointer (some ⟨a0, 0, none⟩)] w' (fun e w'' => e = .returned (.bool (del k)) ∧ Below w'.heap.size w' w'')) :
    Calls Try.prog 22 #[.slice (some ⟨g, 0, none⟩) n cap, .func (.func 33) #[] #[.pointer (some ⟨a0, 0, none⟩)]] w fun e w' => ((e = .returned (.int .i64 (-1)) ∧ ∀ i, i < n → del i = false) ∨ ∃ i : Nat, i < n ∧ e = .returned (.int .i64 (i : Int)) ∧ del i = true ∧ ∀ t, t < i → del t = false) ∧ Below w.heap.size w w' := by
  have HV : Hid (View (layRaw 3) 40 w lo hi (.slice (some ⟨g, 0, none⟩) n cap) n x ce) := hV
  have HCD : Hid (∀ k, k < n → ∀ w', ChgL [g] w w' → Calls Try.prog 33 #[.agg (ce k).toArray, .pointer (some ⟨a0, 0, none⟩)] w' (fun e w'' => e = .returned (.bool (del k)) ∧ Below w'.heap.size w' w'')) := CD
  clear hV CD
  go_enter Try.func22, Try.ntmps22
  go_wp2
  go_loopw [8] (fun z wr => ∃ k : Nat, k ≤ n ∧ z = .int .i64 k ∧ (∀ t, t < k → del t = false) ∧ Below w.heap.size w wr) (fun z _ => n - (intOf z).toNat)
  case atStart => exact ⟨0, Nat.zero_le _, rfl, fun t ht => by omega, Below.refl _ _⟩
  case round =>
    obtain ⟨k, hk, rfl, hall, hbl⟩ := hrel
    obtain ⟨wx, rfl⟩ : ∃ y, y = wr := ⟨_, rfl⟩
    have HALL : Hid (∀ t, t < k → del t = false) := hall
    have HBL : Hid (Below w.heap.size w wx) := hbl
    have zx := hbl.size
    clear hall
    by_cases hlt : k < n
    · have VX := HV.out.below hbl hhi
      have rgK : wx.rangeAt g (k * 3) (ce k) := VX.range hlt
      have hcK : (ce k).length = 3 := VX.lens k hlt
      have CS := HCD.out k hlt wx (ChgL.of_below hbl)
      obtain ⟨cK, hcKe⟩ : ∃ c, c = ce k := ⟨_, rfl⟩
      rw [← hcKe] at rgK hcK CS
      obtain ⟨t, ht⟩ : ∃ t, t = del k := ⟨_, rfl⟩
      rw [← ht] at CS
      have HT : Hid (t = del k) := ht
      have i1 : (0 : Int) ≤ (k : Int) := by omega
      have i2 : (k : Int) < (n : Int) := by omega
      clear hbl hcKe VX ht
      go_wp2_with (refine wpList_load_mid rfl 40 (.tmp 14) rfl g (k * 3) (by simp [Act.eval]) cK _ rgK Try.underlying40 rfl (info_Thing3 hcK) ?_)
      refine CS.mono ?_
      rintro e w5 ⟨rfl, b5⟩
      have B5 : Hid (Below w.heap.size w w5) := HBL.out.trans (b5.mono zx)
      clear b5 CS rgK
      cases t with
      | true =>
        go_wp2
        go_ret
        exact ⟨.inr ⟨k, hlt, rfl, HT.out.symm, HALL.out⟩, B5.out⟩
      | false =>
        go_wp2
        go_roundw
        case rel => exact ⟨k + 1, by omega, by go_num, fun t ht => by
                      by_cases c : t = k
                      · rw [c]; exact HT.out.symm
                      · exact HALL.out t (by omega), B5.out⟩
        case measure => simp [intOf]; omega
    · obtain rfl : k = n := by omega
      clear hbl
      go_wp2
      go_ret
      exact ⟨.inl ⟨rfl, HALL.out⟩, HBL.out⟩
set_option maxHeartbeats 16000000 in
set_option maxRecDepth 100000 in
/-- those that are deleted are gone, the others stand in their order -/
theorem delete_drop (g cap n lo hi : Nat) (x : Nat → List Value) (ce : Nat → List Value) (a0 : Nat) (del : Nat → Bool) (w : World) (hV : View (layRaw 3) 40 w lo hi (.slice (some ⟨g, 0, none⟩) n cap) n x ce) (hlo : hi ≤ lo) (hlw : lo ≤ w.heap.size) (hn : n ≤ 1048576) (CD : ∀ k, k < n → ∀ w', ChgL [g] w w' → Calls Try.prog 33 #[.agg (ce k).toArray, .pointer (some ⟨a0, 0, none⟩)] w' (fun e w'' => e = .returned (.bool (del k)) ∧ Below w'.heap.size w' w'')) :
    Calls Try.prog 30 #[.slice (some ⟨g, 0, none⟩) n cap, .func (.func 33) #[] #[.pointer (some ⟨a0, 0, none⟩)]] w fun e w' => e = .returned (.slice (some ⟨g, 0, none⟩) (keptI (fun i => !(del i)) n).length cap) ∧ View (layRaw 3) 40 w' lo hi (.slice (some ⟨g, 0, none⟩) (keptI (fun i => !(del i)) n).length cap) (keptI (fun i => !(del i)) n).length (fun i => x (selF (fun i => !(del i)) n i)) (fun i => ce (selF (fun i => !(del i)) n i)) ∧ ChgL [g] w w' := by
  have HV : Hid (View (layRaw 3) 40 w lo hi (.slice (some ⟨g, 0, none⟩) n cap) n x ce) := hV
  have HCD : Hid (∀ k, k < n → ∀ w', ChgL [g] w w' → Calls Try.prog 33 #[.agg (ce k).toArray, .pointer (some ⟨a0, 0, none⟩)] w' (fun e w'' => e = .returned (.bool (del k)) ∧ Below w'.heap.size w' w'')) := CD
  have hnc : n ≤ cap := by
    rcases hV.row.2 with ⟨hn, _⟩ | ⟨g', cap', cur, he, hbg, hgg, hnc, _⟩
    · cases hn
    · cases he; exact hnc
  have HNC : Hid (n ≤ cap) := hnc
  have hgl := hV.row.lt g rfl
  have CI := index_drop g cap n lo hi x ce a0 del w hV (by omega) hn CD
  clear hV CD hnc
  go_enter Try.func30, Try.ntmps30
  go_wp2_with fail
  refine CI.mono ?_
  rintro e w1 ⟨hcase, b1⟩
  have HB1 : Hid (Below w.heap.size w w1) := b1
  have z1 := b1.size
  clear CI b1
  rcases hcase with ⟨rfl, hall⟩ | ⟨i0, hi0, rfl, hp0, hbef⟩
  · have HALL : Hid (∀ i, i < n → (fun i => !(del i)) i = true) := fun i hi => by show (!(del i)) = true; rw [hall i hi]; rfl
    clear hall
    have te : ((-1 : Int) == -1) = true := by decide
    go_wp2
    go_ret
    have em : (keptI (fun i => !(del i)) n).length = n := by rw [kept_all HALL.out]; simp
    rw [em]
    exact ⟨rfl, (HV.out.below HB1.out (by omega)).congr2 (fun i hi => by rw [sel_all HALL.out hi]) (fun i hi => by rw [sel_all HALL.out hi]), ChgL.of_below HB1.out⟩
  have HP0 : Hid ((fun i => !(del i)) i0 = false) := by show (!(del i0)) = false; rw [hp0]; rfl
  have HBEF : Hid (∀ t, t < i0 → (fun i => !(del i)) t = true) := fun t ht => by show (!(del t)) = true; rw [hbef t ht]; rfl
  clear hp0 hbef
  have te : ((i0 : Int) == -1) = false := beq_eq_false_iff_ne.2 (by omega)
  have zi : IntKind.i64.wrap ((i0 : Int) + 1) = (i0 : Int) + 1 := by rw [IntKind.wrap_i64]; omega
  go_wp2
  go_loopw [5, 6] (fun v z wr => ∃ j : Nat, j ≤ n ∧ i0 < j ∧ z = .int .i64 j ∧ v = .int .i64 ((keptI (fun i => !(del i)) j).length : Nat) ∧ View (layRaw 3) 40 wr lo hi (.slice (some ⟨g, 0, none⟩) n cap) n (mixF (fun i => !(del i)) (j) x) (mixF (fun i => !(del i)) (j) ce) ∧ ChgL [g] w wr) (fun _ z _ => n - (intOf z).toNat)
  case atStart =>
    refine ⟨i0 + 1, by omega, by omega, by simp, ?_, ?_, ChgL.of_below HB1.out⟩
    · rw [kept_skip HP0.out, kept_all HBEF.out]; simp
    · exact (HV.out.below HB1.out (by omega)).congr2 (fun m _ => by rw [mix_skip x HP0.out, mix_all x HBEF.out]) (fun m _ => by rw [mix_skip ce HP0.out, mix_all ce HBEF.out])
  case round =>
    obtain ⟨j, hj, hij, rfl, rfl, hrow, hch⟩ := hrel
    obtain ⟨wx, rfl⟩ : ∃ y, y = wr := ⟨_, rfl⟩
    have HCH : Hid (ChgL [g] w wx) := hch
    have HRW : Hid (View (layRaw 3) 40 wx lo hi (.slice (some ⟨g, 0, none⟩) n cap) n (mixF (fun i => !(del i)) (j) x) (mixF (fun i => !(del i)) (j) ce)) := hrow
    have zx := hch.size
    have hless : (keptI (fun i => !(del i)) j).length < j := kept_less hij HP0.out
    clear hch
    by_cases hlt : j < n
    · have em : (mixF (fun i => !(del i)) (j) ce) j = ce j := mix_at ce (Nat.le_of_lt hless)
      have ex : (mixF (fun i => !(del i)) (j) x) j = x j := mix_at x (Nat.le_of_lt hless)
      have rgJ : wx.rangeAt g (j * 3) (ce j) := by have := hrow.range hlt; rw [em] at this; exact this
      have hcJ : (ce j).length = 3 := by have := hrow.lens j hlt; rw [em] at this; exact this
      have rdJ : (layRaw 3).rd wx hi (x j) (ce j) := by have := hrow.each j hlt; rw [em, ex] at this; exact this
      obtain ⟨cJ, hcJe⟩ : ∃ c, c = ce j := ⟨_, rfl⟩
      have HCJ : Hid (cJ = ce j) := hcJe
      rw [← hcJe] at rgJ hcJ rdJ
      have oneJ : ∀ v, v ∈ cJ → v.oneCell' = true := rdOne_raw3 _ _ _ _ rdJ
      have HRJ : Hid ((layRaw 3).rd wx hi (x j) cJ) := rdJ
      have i1 : (0 : Int) ≤ (j : Int) := by omega
      have i2 : (j : Int) < (n : Int) := by omega
      have bV : Below wx.heap.size wx (wx.alloc (.cells cJ.toArray 40)) := (Below.refl _ _).alloc (Nat.le_refl _) _
      have V1 : Box (wx.alloc (.cells cJ.toArray 40)) wx.heap.size cJ.toArray 40 := box_new _ _ _
      clear em ex hrow rdJ hcJe
      go_upto_region 8 with (first | (refine wpList_load_mid rfl 40 (.tmp 24) rfl g (j * 3) (by simp [Act.eval]) cJ _ rgJ Try.underlying40 rfl (info_Thing3 hcJ) ?_) | (refine wp_allocStore 40 7 (.tmp 25) cJ _ 3 rfl rfl rfl rfl rfl rfl rfl rfl info_ThingZ rfl hcJ oneJ ?_))
      obtain ⟨W5, hW5⟩ : ∃ y, y = wx.alloc (.cells cJ.toArray 40) := ⟨_, rfl⟩
      rw [← hW5] at bV V1 ⊢
      clear hW5 rgJ
      have z5 := bV.size
      have HV1 : Hid (Box W5 wx.heap.size cJ.toArray 40) := V1
      have z5' := V1.lt
      have C5 : ChgL [g] w W5 := HCH.out.trans (ChgL.of_below bV)
      have CS := HCD.out j hlt W5 C5
      rw [← HCJ.out] at CS
      obtain ⟨t, ht⟩ : ∃ t, t = del j := ⟨_, rfl⟩
      rw [← ht] at CS
      have HT : Hid ((fun i => !(del i)) j = !t) := by rw [ht]; exact rfl
      have HC5 : Hid (ChgL [g] w W5) := C5
      have HR5 : Hid (View (layRaw 3) 40 W5 lo hi (.slice (some ⟨g, 0, none⟩) n cap) n (mixF (fun i => !(del i)) (j) x) (mixF (fun i => !(del i)) (j) ce)) := HRW.out.below bV (by omega)
      have HRJ5 : Hid ((layRaw 3).rd W5 hi (x j) cJ) := (layRaw 3).rd_below HRJ.out bV (by omega)
      clear ht C5 V1 bV
      go_wp2_with (refine wp_loadBox 40 (.tmp 7) rfl rfl (wx.heap.size) rfl (cs := cJ) HV1.out Try.underlying40 size_Thing hcJ ?_)
      refine CS.mono ?_
      rintro e w6 ⟨rfl, b6⟩
      have z6 := b6.size
      have HV6 : Hid (Box w6 wx.heap.size cJ.toArray 40) := HV1.out.below b6 z5'
      have C6 : Hid (ChgL [g] w w6) := HC5.out.trans (ChgL.of_below b6)
      have HS6 : Hid (View (layRaw 3) 40 w6 lo hi (.slice (some ⟨g, 0, none⟩) n cap) n (mixF (fun i => !(del i)) (j) x) (mixF (fun i => !(del i)) (j) ce)) := HR5.out.below b6 (by omega)
      have HRJ6 : Hid ((layRaw 3).rd w6 hi (x j) cJ) := (layRaw 3).rd_below HRJ5.out b6 (by omega)
      clear b6 CS HV1 HC5 HR5 HRJ5
      cases t with
      | true =>
        go_wp2
        go_roundw
        case rel => exact ⟨j + 1, by omega, by omega, by go_num, by rw [kept_skip HT.out], HS6.out.congr2 (fun m _ => (mix_skip x HT.out m).symm) (fun m _ => (mix_skip ce HT.out m).symm), C6.out⟩
        case measure => simp [intOf]; omega
      | false =>
        obtain ⟨q, hq⟩ : ∃ q, q = (keptI (fun i => !(del i)) j).length := ⟨_, rfl⟩
        have HQ : Hid (q = (keptI (fun i => !(del i)) j).length) := hq
        have hqn : q < n := by omega
        rw [← hq]
        have k1 : (0 : Int) ≤ (q : Int) := by omega
        have k2 : (q : Int) < (n : Int) := by omega
        have hth : w6.there g (q * 3) cJ.length := by rw [hcJ]; exact HS6.out.there hqn
        have hpk : (fun i => !(del i)) j = true := HT.out
        have hnx : (keptI (fun i => !(del i)) (j + 1)).length = q + 1 := by rw [hq, kept_succ, if_pos hpk]; simp
        have HNX : Hid ((keptI (fun i => !(del i)) (j + 1)).length = q + 1) := hnx
        have HV7 : Hid (View (layRaw 3) 40 (w6.setCells g (q * 3) cJ) lo hi (.slice (some ⟨g, 0, none⟩) n cap) n (mixF (fun i => !(del i)) (j + 1) x) (mixF (fun i => !(del i)) (j + 1) ce)) := by
          have := HS6.out.put (by decide) hlo hqn HRJ6.out
          refine this.congr2 (fun m _ => ?_) (fun m _ => ?_)
          · have := mix_keep (p := (fun i => !(del i))) (j := j) x hpk m
            rw [← hq] at this
            exact this
          · have := mix_keep (p := (fun i => !(del i))) (j := j) ce hpk m
            rw [← hq, ← HCJ.out] at this
            exact this
        have C7 : Hid (ChgL [g] w (w6.setCells g (q * 3) cJ)) := C6.out.trans (chgL_setCells g cJ w6 _)
        have zq : IntKind.i64.wrap ((q : Int) + 1) = (q : Int) + 1 := by rw [IntKind.wrap_i64]; omega
        clear hq hnx hpk
        go_wp2_with (first | (refine wp_loadBox 40 (.tmp 7) rfl rfl (wx.heap.size) rfl (cs := cJ) HV6.out Try.underlying40 size_Thing hcJ ?_) | (refine wpList_store_mid rfl 40 (.tmp 33) (.tmp 32) rfl g (q * 3) cJ.toArray (by simp [Act.eval]) (by simp [Act.eval]) (show w6.there g (q * 3) cJ.toArray.size by rw [List.size_toArray]; exact hth) (show _ = some cJ.toArray.size by rw [List.size_toArray]; exact info_Thing3 hcJ) (all_oneCell_toArray oneJ) ?_; rw [show cJ.toArray.toList = cJ from rfl]))
        go_roundw
        case rel => exact ⟨j + 1, by omega, by omega, by go_num, by rw [HNX.out]; simp, HV7.out, C7.out⟩
        case measure => simp [intOf]; omega
    · obtain rfl : j = n := by omega
      obtain ⟨q, hq⟩ : ∃ q, q = (keptI (fun i => !(del i)) j).length := ⟨_, rfl⟩
      have HQ : Hid (q = (keptI (fun i => !(del i)) j).length) := hq
      have S5 := HRW.out
      have hlens := S5.lens
      rcases S5.row.2 with ⟨hnn, _⟩ | ⟨g', cap', cur, he, hbg, hgg, hnc', hcm, hcs, htk⟩
      · cases hnn
      cases he
      have hqn : q < j := by omega
      obtain ⟨row, hcl, hrs, hrt⟩ := run_clearRT wx 0 g (q * 3) (j - q) (cap - q) cur hgg (by omega) (by
        have h9 : cur.size = cap * 3 := hcs
        have : q * 3 + (j - q) * 3 ≤ cap * 3 := by rw [← Nat.add_mul]; exact Nat.mul_le_mul_right 3 (by omega)
        omega)
      have hf := run_rsFromT g j cap q hqn HNC.out
      have ht := fun w' => run_rsToT g j cap q (by omega) w'
      obtain ⟨W7, hW7⟩ : ∃ y, y = wx.setRow g row := ⟨_, rfl⟩
      rw [← hW7] at hcl
      have C7 : Hid (ChgL [g] w W7) := by
        rw [hW7]
        exact HCH.out.trans (chgL_setRow g row)
      have C7x : ChgL [g] wx W7 := by rw [hW7]; exact chgL_setRow g row
      have bX : Below lo wx W7 := C7x.bel (fun b hb => by simp at hb; omega) (by omega)
      have R7 : Hid (View (layRaw 3) 40 W7 lo hi (.slice (some ⟨g, 0, none⟩) q cap) q (fun i => x (selF (fun i => !(del i)) j i)) (fun i => ce (selF (fun i => !(del i)) j i))) := by
        have e1 : catN q (mixF (fun i => !(del i)) (j) ce) = catN q (fun i => ce (selF (fun i => !(del i)) j i)) := catN_congr (fun i hi => by
          show mixF _ j ce i = _
          unfold mixF
          rw [if_pos (by rw [← hq]; exact hi)])
        have hl9 : ∀ i, i < q → (ce (selF (fun i => !(del i)) j i)).length = (layRaw 3).sz := fun i hi => by
          have := hlens i (by omega)
          unfold mixF at this
          rw [if_pos (by rw [← hq]; exact hi)] at this
          exact this
        refine ⟨⟨catN_len hl9, .inr ⟨g, cap, row, rfl, hbg, by rw [hW7]; exact setRow_heap wx g cur row 40 (0, 0) hgg, by omega, hcm, by rw [hrs]; exact hcs, ?_⟩⟩, fun i hi => ?_⟩
        · rw [← e1, ← catN_take hlens (Nat.le_of_lt hqn), ← htk, List.take_take, Nat.min_eq_left (Nat.mul_le_mul_right _ (Nat.le_of_lt hqn))]
          exact hrt
        · have h1 := S5.each i (by omega)
          unfold mixF at h1
          rw [if_pos (by rw [← hq]; exact hi), if_pos (by rw [← hq]; exact hi)] at h1
          exact (layRaw 3).rd_below h1 bX hlo
      clear S5 hlens hgg htk hcs hcm hnc' hbg hrs hrt hW7 hless C7x bX
      rw [← hq]
      clear hq
      go_wp2_with (simp only [hcl])
      go_ret
      rw [← HQ.out]
      exact ⟨rfl, R7.out, C7.out⟩
end Go.Proofs.Ytapnjoophlckoaa

namespace Go.Proofs.Ytapnjoophlckoaa
open Go.RowKit F256
set_option linter.unusedVariables false
set_option linter.unusedSimpArgs false
set_option maxHeartbeats 8000000 in
set_option maxRecDepth 20000 in
theorem same1_any (a b : ThingD) (c1 c2 : List Value) (h1 h2 : Nat) (w : World) (r1 : layThing.rd w h1 a c1) (r2 : layThing.rd w h2 b c2) (u1 : h1 ≤ w.heap.size) (u2 : h2 ≤ w.heap.size) :
    Calls Try.prog 36 #[.agg c1.toArray, .agg c2.toArray] w (BoolP (SameT a b) w) := by
  obtain ⟨xo, xc, rfl, p2, -⟩ := Thing_rd r1
  obtain ⟨yo, yc, rfl, q2, -⟩ := Thing_rd r2
  obtain ⟨_, e, p2, _⟩ := p2
  cases e
  obtain ⟨_, e, q2, _⟩ := q2
  cases e
  clear r1 r2
  have T0 := two_newb w #[.string a.name, .bool a.lost, .slice xo a.bytes.1 xc] #[.string b.name, .bool b.lost, .slice yo b.bytes.1 yc] 40 40
  have HT0 : Hid (Two w ((w.alloc (.cells #[.string a.name, .bool a.lost, .slice xo a.bytes.1 xc] 40)).alloc (.cells #[.string b.name, .bool b.lost, .slice yo b.bytes.1 yc] 40)) #[.string a.name, .bool a.lost, .slice xo a.bytes.1 xc] #[.string b.name, .bool b.lost, .slice yo b.bytes.1 yc] 40 40) := T0
  obtain ⟨e2, he2⟩ : ∃ t, (a.name.toList == b.name.toList) = t := ⟨_, rfl⟩
  have HE2 : Hid (e2 = true ↔ a.name = b.name) := by show _ ↔ _; rw [← he2, beq_iff_eq]; exact toList_inj
  have he2' : decide (a.name.toList = b.name.toList) = e2 := by rw [← he2, Bool.eq_iff_iff]; simp
  obtain ⟨e1, he1⟩ : ∃ t, (a.lost == b.lost) = t := ⟨_, rfl⟩
  have HE1 : Hid (e1 = true ↔ a.lost = b.lost) := by show _ ↔ _; rw [← he1]; exact beq_iff_eq
  obtain ⟨t7, ht7⟩ := exB (SameP a.bytes.1 b.bytes.1 a.bytes.2 b.bytes.2)
  have C7 := fun (w' : World) (hb : Below w.heap.size w w') => det_b (equalB_any _ _ a.bytes.1 b.bytes.1 a.bytes.2 b.bytes.2 h1 h2 w' (p2.below hb u1) (q2.below hb u2)) ht7
  have HT7 : Hid (t7 = true ↔ SameP a.bytes.1 b.bytes.1 a.bytes.2 b.bytes.2) := ht7
  clear p2 q2 ht7 T0
  go_enter Try.func36, Try.ntmps36
  cases e2 with
  | false =>
    go_wp2
    go_ret
    exact boolNo rfl (fun h => by have := HE2.out.2 h.name; simp at this) HT0.out.bel
  | true =>
  cases e1 with
  | false =>
    go_wp2
    go_ret
    exact boolNo rfl (fun h => by have := HE1.out.2 h.lost; simp at this) HT0.out.bel
  | true =>
  go_wp2_with fail
  refine (C7 _ HT0.out.bel).mono ?_
  rintro e w7 ⟨rfl, b7⟩
  have HB : Hid (Below w.heap.size w w7) := (HT0.out.call b7).bel
  clear b7
  go_wp2
  go_ret
  exact ⟨t7, rfl, ⟨fun h => ⟨HE2.out.1 (by simp), HE1.out.1 (by simp), HT7.out.1 h⟩, fun h => HT7.out.2 h.bytes⟩, HB.out⟩
set_option maxHeartbeats 8000000 in
set_option maxRecDepth 20000 in
theorem equalFunc_any (p q : Nat × (Nat → ThingD)) (v1 v2 : Value) (h1 h2 : Nat) (w : World) (r1 : (layThing.slice 40).rd w h1 p [v1]) (r2 : (layThing.slice 40).rd w h2 q [v2]) (u1 : h1 ≤ w.heap.size) (u2 : h2 ≤ w.heap.size) :
    Calls Try.prog 35 #[v1, v2, .func (.func 36) #[] #[]] w (BoolP (SameTs p q) w) := by
  obtain ⟨n, x⟩ := p
  obtain ⟨m, y⟩ := q
  obtain ⟨ao, cap, hv, hm, hc⟩ := r1
  cases hv
  obtain ⟨ao', cap', hv', hm', hc'⟩ := r2
  cases hv'
  simp only at hm hc hm' hc'
  unfold maxLen at hm hm'
  have HC : Hid (n ≠ 0 → ∃ b off, ao = some ⟨b, off, none⟩ ∧ b < h1 ∧ ∀ i, i < n → ∃ ce, layThing.rd w h1 (x i) ce ∧ ∀ j, j < layThing.sz → w.cell? ⟨b, off + (i * layThing.sz + j), none⟩ = ce[j]?) := hc
  have HC' : Hid (m ≠ 0 → ∃ b off, ao' = some ⟨b, off, none⟩ ∧ b < h2 ∧ ∀ i, i < m → ∃ ce, layThing.rd w h2 (y i) ce ∧ ∀ j, j < layThing.sz → w.cell? ⟨b, off + (i * layThing.sz + j), none⟩ = ce[j]?) := hc'
  clear hc hc'
  go_enter Try.func35, Try.ntmps35
  by_cases hnm : ¬ n = m
  · have hne : decide ((n : Int) = (m : Int)) = false := decide_eq_false (by omega)
    have hne2 : ((n : Int) != (m : Int)) = true := by simp; omega
    have HN : Hid (¬ n = m) := hnm
    clear hnm
    go_wp2
    go_ret
    exact boolNo rfl (fun h => HN.out h.len) (Below.refl _ _)
  obtain rfl : n = m := Classical.not_not.1 hnm
  clear hnm
  go_wp2
  go_loopw [17] (fun z wr => ∃ k : Nat, k ≤ n ∧ z = .int .i64 k ∧ (∀ t, t < k → SameT (x t) (y t)) ∧ Below w.heap.size w wr) (fun z _ => n - (intOf z).toNat)
  case atStart => exact ⟨0, Nat.zero_le _, rfl, fun t ht => by omega, Below.refl _ _⟩
  case round =>
    obtain ⟨k, hk, rfl, hall, hbl⟩ := hrel
    obtain ⟨wx, rfl⟩ : ∃ y, y = wr := ⟨_, rfl⟩
    have HALL : Hid (∀ t, t < k → SameT (x t) (y t)) := hall
    have HBL : Hid (Below w.heap.size w wx) := hbl
    have zx := hbl.size
    clear hall
    by_cases hlt : k < n
    · obtain ⟨b, off, rfl, hblt, hel⟩ := HC.out (by omega)
      obtain ⟨b', off', rfl, hblt', hel'⟩ := HC'.out (by omega)
      obtain ⟨ck, hrk, hcell⟩ := elem_rd (t := 0) hel hbl u1 hblt hlt
      obtain ⟨ck', hrk', hcell'⟩ := elem_rd (t := 0) hel' hbl u2 hblt' hlt
      obtain ⟨ao2, cap2, rfl, -⟩ := Thing_rd hrk
      obtain ⟨bo2, bcap2, rfl, -⟩ := Thing_rd hrk'
      have c0 : wx.cell? ⟨b, off + k * 3, none⟩ = some (.string (x k).name) := hcell 0 (by decide)
      have c1 : wx.cell? ⟨b, off + k * 3 + 1, none⟩ = some (.bool (x k).lost) := hcell 1 (by decide)
      have c2 : wx.cell? ⟨b, off + k * 3 + 2, none⟩ = some (.slice ao2 (x k).bytes.1 cap2) := hcell 2 (by decide)
      have e0 : wx.cell? ⟨b', off' + k * 3, none⟩ = some (.string (y k).name) := hcell' 0 (by decide)
      have e1 : wx.cell? ⟨b', off' + k * 3 + 1, none⟩ = some (.bool (y k).lost) := hcell' 1 (by decide)
      have e2 : wx.cell? ⟨b', off' + k * 3 + 2, none⟩ = some (.slice bo2 (y k).bytes.1 bcap2) := hcell' 2 (by decide)
      have hb1 : b < wx.heap.size := by omega
      have hb2 : b' < wx.heap.size := by omega
      obtain ⟨t, ht⟩ := exB (SameT (x k) (y k))
      have CS := fun (w' : World) (hb : Below wx.heap.size wx w') => det_b (same1_any (x k) (y k) _ _ h1 h2 w' (layThing.rd_below hrk hb (by omega)) (layThing.rd_below hrk' hb (by omega)) (Nat.le_trans (by omega) hb.size) (Nat.le_trans (by omega) hb.size)) ht
      have HT : Hid (t = true ↔ SameT (x k) (y k)) := ht
      clear hbl hel hel' hcell hcell' hrk hrk' ht
      have i1 : (0 : Int) ≤ (k : Int) := by omega
      have i2 : (k : Int) < (n : Int) := by omega
      go_wp2_with fail
      refine (CS _ (((Below.refl _ _).alloc (Nat.le_refl _) _).alloc (by simp) _)).mono ?_
      rintro e w5 ⟨rfl, b5⟩
      have HB5 : Hid (Below w.heap.size w w5) := HBL.out.trans ((((Below.refl wx.heap.size wx).alloc (Nat.le_refl _) _).alloc (by simp) _ |>.trans (b5.mono (by simp; omega))).mono zx)
      clear b5 CS c0 c1 c2 e0 e1 e2
      cases t with
      | false =>
        go_wp2
        go_ret
        exact boolNo rfl (fun h => by have := HT.out.2 (h.each k hlt); simp at this) HB5.out
      | true =>
        go_wp2
        go_roundw
        case rel => exact ⟨k + 1, by omega, by go_num, fun t ht => by
                      by_cases c : t = k
                      · rw [c]; exact HT.out.1 (by simp)
                      · exact HALL.out t (by omega), HB5.out⟩
        case measure => simp [intOf]; omega
    · obtain rfl : k = n := by omega
      clear hbl
      go_wp2
      go_ret
      exact boolYes rfl ⟨rfl, HALL.out⟩ HBL.out
set_option maxHeartbeats 8000000 in
set_option maxRecDepth 20000 in
theorem implSameTs_any (p q : Nat × (Nat → ThingD)) (v1 v2 : Value) (h1 h2 : Nat) (w : World) (r1 : (layThing.slice 40).rd w h1 p [v1]) (r2 : (layThing.slice 40).rd w h2 q [v2]) (u1 : h1 ≤ w.heap.size) (u2 : h2 ≤ w.heap.size) :
    Calls Try.prog 19 #[v1, v2] w (BoolP (SameTs p q) w) := by
  have CE := equalFunc_any p q v1 v2 h1 h2 w r1 r2 u1 u2
  obtain ⟨P, hP⟩ : ∃ P, P = SameTs p q := ⟨_, rfl⟩
  rw [← hP] at CE ⊢
  obtain ⟨n, x⟩ := p
  obtain ⟨m, y⟩ := q
  obtain ⟨ao, cap, hv, -⟩ := r1
  cases hv
  obtain ⟨ao', cap', hv', -⟩ := r2
  cases hv'
  clear hP
  go_enter Try.func19, Try.ntmps19
  go_wp2_with fail
  refine CE.mono ?_
  rintro e w1 ⟨t, rfl, ht, b1⟩
  have HT : Hid (t = true ↔ P) := ht
  clear ht
  go_wp2
  go_ret
  exact ⟨t, rfl, HT.out, b1⟩
set_option maxHeartbeats 8000000 in
set_option maxRecDepth 20000 in
theorem specSameTs_any (p q : Nat × (Nat → ThingD)) (v1 v2 : Value) (h1 h2 : Nat) (w : World) (r1 : (layThing.slice 40).rd w h1 p [v1]) (r2 : (layThing.slice 40).rd w h2 q [v2]) (u1 : h1 ≤ w.heap.size) (u2 : h2 ≤ w.heap.size) :
    Calls Try.prog 18 #[v1, v2] w (BoolP (SameTs p q) w) := by
  obtain ⟨n, x⟩ := p
  obtain ⟨m, y⟩ := q
  obtain ⟨ao, cap, hv, hm, hc⟩ := r1
  cases hv
  obtain ⟨ao', cap', hv', hm', hc'⟩ := r2
  cases hv'
  simp only at hm hc hm' hc'
  unfold maxLen at hm hm'
  have HC : Hid (n ≠ 0 → ∃ b off, ao = some ⟨b, off, none⟩ ∧ b < h1 ∧ ∀ i, i < n → ∃ ce, layThing.rd w h1 (x i) ce ∧ ∀ j, j < layThing.sz → w.cell? ⟨b, off + (i * layThing.sz + j), none⟩ = ce[j]?) := hc
  have HC' : Hid (m ≠ 0 → ∃ b off, ao' = some ⟨b, off, none⟩ ∧ b < h2 ∧ ∀ i, i < m → ∃ ce, layThing.rd w h2 (y i) ce ∧ ∀ j, j < layThing.sz → w.cell? ⟨b, off + (i * layThing.sz + j), none⟩ = ce[j]?) := hc'
  clear hc hc'
  go_enter Try.func18, Try.ntmps18
  by_cases hnm : ¬ n = m
  · have hne : decide ((n : Int) = (m : Int)) = false := decide_eq_false (by omega)
    have hne2 : ((n : Int) != (m : Int)) = true := by simp; omega
    have HN : Hid (¬ n = m) := hnm
    clear hnm
    go_wp2
    go_ret
    exact boolNo rfl (fun h => HN.out h.len) (Below.refl _ _)
  obtain rfl : n = m := Classical.not_not.1 hnm
  clear hnm
  go_wp2
  go_loopw [5] (fun z wr => ∃ k : Nat, k ≤ n ∧ z = .int .i64 k ∧ (∀ t, t < k → SameT (x t) (y t)) ∧ Below w.heap.size w wr) (fun z _ => n - (intOf z).toNat)
  case atStart => exact ⟨0, Nat.zero_le _, rfl, fun t ht => by omega, Below.refl _ _⟩
  case round =>
    obtain ⟨k, hk, rfl, hall, hbl⟩ := hrel
    obtain ⟨wx, rfl⟩ : ∃ y, y = wr := ⟨_, rfl⟩
    have HALL : Hid (∀ t, t < k → SameT (x t) (y t)) := hall
    have HBL : Hid (Below w.heap.size w wx) := hbl
    have zx := hbl.size
    clear hall
    by_cases hlt : k < n
    · obtain ⟨b, off, rfl, hblt, hel⟩ := HC.out (by omega)
      obtain ⟨b', off', rfl, hblt', hel'⟩ := HC'.out (by omega)
      obtain ⟨ck, hrk, hcell⟩ := elem_rd (t := 0) hel hbl u1 hblt hlt
      obtain ⟨ck', hrk', hcell'⟩ := elem_rd (t := 0) hel' hbl u2 hblt' hlt
      obtain ⟨ao2, cap2, rfl, p2, -⟩ := Thing_rd hrk
      obtain ⟨bo2, bcap2, rfl, q2, -⟩ := Thing_rd hrk'
      obtain ⟨_, e, p2, _⟩ := p2
      cases e
      obtain ⟨_, e, q2, _⟩ := q2
      cases e
      have c0 : wx.cell? ⟨b, off + k * 3, none⟩ = some (.string (x k).name) := hcell 0 (by decide)
      have c1 : wx.cell? ⟨b, off + k * 3 + 1, none⟩ = some (.bool (x k).lost) := hcell 1 (by decide)
      have c2 : wx.cell? ⟨b, off + k * 3 + 2, none⟩ = some (.slice ao2 (x k).bytes.1 cap2) := hcell 2 (by decide)
      have e0 : wx.cell? ⟨b', off' + k * 3, none⟩ = some (.string (y k).name) := hcell' 0 (by decide)
      have e1 : wx.cell? ⟨b', off' + k * 3 + 1, none⟩ = some (.bool (y k).lost) := hcell' 1 (by decide)
      have e2 : wx.cell? ⟨b', off' + k * 3 + 2, none⟩ = some (.slice bo2 (y k).bytes.1 bcap2) := hcell' 2 (by decide)
      obtain ⟨t, ht⟩ := exB (SameP (x k).bytes.1 (y k).bytes.1 (x k).bytes.2 (y k).bytes.2)
      have C7 := q_below (W := wx) (fun (w' : World) (hb : Below wx.heap.size wx w') => det_b (l2Same_any _ _ (x k).bytes.1 (y k).bytes.1 (x k).bytes.2 (y k).bytes.2 h1 h2 w' (p2.below hb (by omega)) (q2.below hb (by omega))) ht)
      have HT : Hid (t = true ↔ SameP (x k).bytes.1 (y k).bytes.1 (x k).bytes.2 (y k).bytes.2) := ht
      obtain ⟨na, hna⟩ : ∃ z, z = (x k).name := ⟨_, rfl⟩
      obtain ⟨nb, hnb⟩ : ∃ z, z = (y k).name := ⟨_, rfl⟩
      obtain ⟨la, hla⟩ : ∃ z, z = (x k).lost := ⟨_, rfl⟩
      obtain ⟨lb, hlb⟩ : ∃ z, z = (y k).lost := ⟨_, rfl⟩
      have HX : Hid (SameT (x k) (y k) ↔ na = nb ∧ la = lb ∧ t = true) := by
        show _ ↔ _
        rw [hna, hnb, hla, hlb, ht]
        exact ⟨fun h => ⟨h.name, h.lost, h.bytes⟩, fun h => ⟨h.1, h.2.1, h.2.2⟩⟩
      rw [← hna] at c0
      rw [← hla] at c1
      rw [← hnb] at e0
      rw [← hlb] at e1
      clear hbl hel hel' hcell hcell' hrk hrk' ht p2 q2 hna hnb hla hlb
      have i1 : (0 : Int) ≤ (k : Int) := by omega
      have i2 : (k : Int) < (n : Int) := by omega
      have cf0 := cell_regrown c0
      have cf1 := cell_regrown c1
      have cf2 := cell_regrown c2
      have ef0 := cell_regrown e0
      have ef1 := cell_regrown e1
      have ef2 := cell_regrown e2
      have close : ∀ (w7 : World) , (∃ p : Regrown, w7 = Go.Sort.grow (redrawn wx p.d) p.os) → Below w.heap.size w w7 := fun w7 h => HBL.out.trans ((below_rg h).mono zx)
      obtain ⟨en, hen⟩ : ∃ t, (na.toList == nb.toList) = t := ⟨_, rfl⟩
      have HEN : Hid (en = true ↔ na = nb) := by show _ ↔ _; rw [← hen, beq_iff_eq]; exact toList_inj
      have hen' : decide (na.toList = nb.toList) = en := by rw [← hen, Bool.eq_iff_iff]; simp
      have hen2 : (na.toList != nb.toList) = !en := by rw [← hen]; rfl
      go_upto_region 6 with fail
      go_cut [54] (fun v wz => Below w.heap.size w wz ∧ ∃ tt : Bool, v = .bool tt ∧ (tt = false ↔ SameT (x k) (y k)))
      case first =>
        cases en with
        | false =>
          refine WQ.region (by kernel_rfl) (by kernel_rfl) ?_
          repeat (first | (apply WQ.skip; (case hw => rfl); intro K hK; go_simp; apply hK; clear hK K) | (apply WQ.want; (case hw => rfl); intro K hK; go_simp; first | (apply hK; clear hK K) | (apply Exists.intro; apply And.intro; (case left => intro p; (first | (go_at_call 34; exact C7 _ _))); apply hK; clear hK K)))
          refine WQ.nil ?_
          intro w7 h7
          have H7 : Hid (Below w.heap.size w w7) := close _ h7
          have HS : Hid (true = false ↔ SameT (x k) (y k)) := by show _ ↔ _; rw [HX.out]; simp; intro h; exact absurd (HEN.out.2 h) (by simp)
          clear h7
          go_wp2
          go_meet
          exact ⟨H7.out, _, rfl, HS.out⟩
        | true =>
        cases la <;> cases lb
        all_goals
          refine WQ.region (by kernel_rfl) (by kernel_rfl) ?_
          repeat (first | (apply WQ.skip; (case hw => rfl); intro K hK; go_simp; apply hK; clear hK K) | (apply WQ.want; (case hw => rfl); intro K hK; go_simp; first | (apply hK; clear hK K) | (apply Exists.intro; apply And.intro; (case left => intro p; (first | (go_at_call 34; exact C7 _ _))); apply hK; clear hK K)))
          refine WQ.nil ?_
          intro w7 h7
          have H7 : Hid (Below w.heap.size w w7) := close _ h7
          have HN : Hid (na = nb) := HEN.out.1 rfl
          clear h7
          go_wp2
          go_meet
          exact ⟨H7.out, _, rfl, by rw [HX.out]; simp [HN.out]⟩
      case rest =>
        obtain ⟨hbc, tt, rfl, htt⟩ := hcut
        have HTT : Hid (tt = false ↔ SameT (x k) (y k)) := htt
        have HBC : Hid (Below w.heap.size w wc) := hbc
        clear htt hbc
        cases tt with
        | true =>
          go_wp2
          go_ret
          exact boolNo rfl (fun h => by have := HTT.out.2 (h.each k hlt); simp at this) HBC.out
        | false =>
          go_wp2
          go_roundw
          case rel => exact ⟨k + 1, by omega, by go_num, fun t ht => by
                        by_cases c : t = k
                        · rw [c]; exact HTT.out.1 rfl
                        · exact HALL.out t (by omega), HBC.out⟩
          case measure => simp [intOf]; omega
    · obtain rfl : k = n := by omega
      clear hbl
      go_wp2
      go_ret
      exact boolYes rfl ⟨rfl, HALL.out⟩ HBL.out
end Go.Proofs.Ytapnjoophlckoaa

namespace Go.Proofs.Ytapnjoophlckoaa
open Go.RowKit F256
set_option linter.unusedVariables false
set_option linter.unusedSimpArgs false
def keepT (b : ByteArray) (t : ThingD) : Bool := !(t.name.toList == b.toList)
/-- the things of another name -/
def dropL (p : Nat × (Nat → ThingD)) (b : ByteArray) : Nat × (Nat → ThingD) := ((keptI (fun i => keepT b (p.2 i)) p.1).length, fun m => p.2 (selF (fun i => keepT b (p.2 i)) p.1 m))
theorem sel_next {β : Type} (p : Nat → Bool) (x : Nat → β) {k : Nat} (h : p k = true) (i : Nat) (hi : i < (keptI p k).length + 1) : upd (fun m => x (selF p k m)) (keptI p k).length (x k) i = x (selF p (k + 1) i) := by
  by_cases c : i = (keptI p k).length
  · subst c
    rw [upd_at, selF_last h]
  · rw [upd_ne _ _ c, selF_more (by omega)]
set_option maxHeartbeats 8000000 in
set_option maxRecDepth 20000 in
theorem specDrop_any (p : Nat × (Nat → ThingD)) (bn : ByteArray) (v : Value) (hi : Nat) (w : World) (h : (layThing.slice 40).rd w hi p [v]) (hhi : hi ≤ w.heap.size) (hn : szSl szThingD p ≤ 1048576) :
    Calls Try.prog 16 #[v, .string bn] w fun e w' => ∃ v', e = .returned v' ∧ OwnT (layThing.slice 40) w' w.heap.size w'.heap.size (dropL p bn) [v'] ∧ Below w.heap.size w w' := by
  obtain ⟨n, x⟩ := p
  obtain ⟨ao, cap, hv, hm, hc⟩ := h
  cases hv
  have hn1 := szSl_n hn
  have hn2 : ∀ i, i < n → szThingD (x i) ≤ 1048576 := fun i hi => szSl_at hn hi
  simp only at hn1 hm hc
  have HC : Hid (n ≠ 0 → ∃ b off, ao = some ⟨b, off, none⟩ ∧ b < hi ∧ ∀ i, i < n → ∃ ce, layThing.rd w hi (x i) ce ∧ ∀ j, j < layThing.sz → w.cell? ⟨b, off + (i * layThing.sz + j), none⟩ = ce[j]?) := hc
  clear hn hc
  go_enter Try.func16, Try.ntmps16
  go_wp2
  go_loopw [5, 6] (fun v i wr => ∃ (k : Nat) (ao' : Option Addr) (cap' : Nat), k ≤ n ∧ i = .int .i64 k ∧ v = .slice ao' (keptI (fun i => keepT bn (x i)) k).length cap' ∧ Gat layThing 40 wr w.heap.size (.slice ao' (keptI (fun i => keepT bn (x i)) k).length cap') (keptI (fun i => keepT bn (x i)) k).length (fun m => x (selF (fun i => keepT bn (x i)) k m)) ∧ Below w.heap.size w wr) (fun _ i _ => n - (intOf i).toNat)
  case atStart => exact ⟨0, _, _, Nat.zero_le _, rfl, rfl, gat_lit0 _ _, (Below.refl _ _).alloc (Nat.le_refl _) _⟩
  case round =>
    obtain ⟨k, ao', cap', hk, rfl, rfl, G, hb⟩ := hrel
    obtain ⟨wo, rfl⟩ : ∃ y, y = wr := ⟨_, rfl⟩
    have HB : Hid (Below w.heap.size w wo) := hb
    have zo : w.heap.size ≤ wo.heap.size := hb.size
    have hq1 : (keptI (fun i => keepT bn (x i)) k).length ≤ k := kept_le _ _
    obtain ⟨q, hq⟩ : ∃ q, q = (keptI (fun i => keepT bn (x i)) k).length := ⟨_, rfl⟩
    rw [← hq] at G hq1
    have HQ : Hid (q = (keptI (fun i => keepT bn (x i)) k).length) := hq
    rw [← hq]
    have HG : Hid (Gat layThing 40 wo w.heap.size (.slice ao' q cap') q (fun m => x (selF (fun i => keepT bn (x i)) k m))) := G
    clear G hq
    by_cases hlt : k < n
    · obtain ⟨b, off, he, hblt, hel⟩ := HC.out (by omega)
      subst he
      obtain ⟨ck, hrk, hcell⟩ := elem_rd (t := 0) hel hb hhi hblt hlt
      obtain ⟨ao2, cap2, rfl, -⟩ := Thing_rd hrk
      have c0 : wo.cell? ⟨b, off + k * 3, none⟩ = some (.string (x k).name) := hcell 0 (by decide)
      have c1 : wo.cell? ⟨b, off + k * 3 + 1, none⟩ = some (.bool (x k).lost) := hcell 1 (by decide)
      have c2 : wo.cell? ⟨b, off + k * 3 + 2, none⟩ = some (.slice ao2 (x k).bytes.1 cap2) := hcell 2 (by decide)
      have CC := l13Copy_is _ (x k) hi wo hrk (Nat.le_trans hhi zo) (hn2 k hlt)
      clear hel hcell hrk hb
      have i1 : (0 : Int) ≤ (k : Int) := by omega
      have i2 : (k : Int) < (n : Int) := by omega
      obtain ⟨en, hen⟩ : ∃ t, ((x k).name.toList == bn.toList) = t := ⟨_, rfl⟩
      have HP : Hid ((fun i => keepT bn (x i)) k = !en) := by show (!((x k).name.toList == bn.toList)) = !en; rw [hen]
      have hen' : decide ((x k).name.toList = bn.toList) = en := by rw [← hen, Bool.eq_iff_iff]; simp
      have hen2 : ((x k).name.toList != bn.toList) = !en := by rw [← hen]; rfl
      cases en with
      | true =>
        have HK : Hid ((keptI (fun i => keepT bn (x i)) (k + 1)).length = q) := by show _ = _; rw [HQ.out, kept_skip HP.out]
        clear CC c1 c2
        go_wp2
        go_roundw
        case rel => exact ⟨k + 1, ao', cap', by omega, by go_num, by rw [HK.out], by rw [HK.out]; exact HG.out.congr (fun i hi => by rw [selF_more (by rw [← HQ.out]; exact hi)]), HB.out⟩
        case measure => simp [intOf]; omega
      | false =>
        have HK : Hid ((keptI (fun i => keepT bn (x i)) (k + 1)).length = q + 1) := by show _ = _; have hp : keepT bn (x k) = true := HP.out; rw [HQ.out, kept_succ]; simp [hp]
        go_wp2_with fail
        refine CC.mono ?_
        rintro e w2 ⟨cs', rfl, o2, b2⟩
        obtain ⟨bo2, bc2, rfl⟩ := Thing_cells o2
        clear CC c0 c1 c2
        go_wp2_with (at_builtin; refine wp_appendN el_Thing rfl (.tmp 21) (.tmp 27) rfl (lo := w.heap.size) (n := q) (v := .slice ao' q cap') (x := (fun m => x (selF (fun i => keepT bn (x i)) k m))) ?_ HG.out b2 o2 ?_ w2.heap.size 1 ?_ (fun j _ => cells_new w2 _ _ j) (by omega) (by omega) ?_; (simp [Act.eval]); (exact (Below.refl _ _).alloc (Nat.le_refl _) _); (simp [Act.eval]); intro v4 w4 g4 b4; obtain ⟨ao4, cap4, rfl⟩ := g4.form)
        go_roundw
        case rel => exact ⟨k + 1, ao4, cap4, by omega, by go_num, by rw [HK.out], by rw [HK.out]; exact g4.congr (fun i hi => by have := sel_next (fun i => keepT bn (x i)) x HP.out i (by rw [← HQ.out]; exact hi); rw [← HQ.out] at this; exact this), HB.out.trans b4⟩
        case measure => simp [intOf]; omega
    · obtain rfl : k = n := by omega
      clear hb
      go_wp2
      go_ret
      have ow := HG.out.own
      rw [HQ.out] at ow ⊢
      exact ⟨_, rfl, ow, HB.out⟩
set_option maxHeartbeats 8000000 in
set_option maxRecDepth 20000 in
theorem drop1_any (a0 : Nat) (bn na : ByteArray) (l : Bool) (o : Option Addr) (m c : Nat) (w : World) (h0 : w.cell? ⟨a0, 0, none⟩ = some (.string bn)) (hl : a0 < w.heap.size) :
    Calls Try.prog 33 #[.agg #[.string na, .bool l, .slice o m c], .pointer (some ⟨a0, 0, none⟩)] w fun e w' => e = .returned (.bool (na.toList == bn.toList)) ∧ Below w.heap.size w w' := by
  obtain ⟨en, hen⟩ : ∃ t, (na.toList == bn.toList) = t := ⟨_, rfl⟩
  have hen' : decide (na.toList = bn.toList) = en := by rw [← hen, Bool.eq_iff_iff]; simp
  have T0 := one_new w #[.string na, .bool l, .slice o m c] 40
  have h1 : (w.alloc (.cells #[.string na, .bool l, .slice o m c] 40)).cell? ⟨a0, 0, none⟩ = some (.string bn) := (T0.bel.cell (p := ⟨a0, 0, none⟩) hl).trans h0
  have HB : Hid (Below w.heap.size w (w.alloc (.cells #[.string na, .bool l, .slice o m c] 40))) := T0.bel
  clear T0
  rw [hen]
  go_enter Try.func33, Try.ntmps33
  go_wp2
  go_ret
  exact ⟨rfl, HB.out⟩
theorem thing_none {w : World} {x y : Nat → ThingD} {v : Value} {K : List Nat} (h : (layThing.slice 40).own w (0, x) [v] K) : (layThing.slice 40).own w (0, y) [v] K := by
  obtain ⟨v', ce, Ls, e, eK, hr, _⟩ := h
  exact ⟨v', ce, Ls, e, eK, hr, fun i hi => by cases hi⟩
/-- slices.DeleteFunc over an owned list of things -/
theorem delete_thing {w : World} {p : Nat × (Nat → ThingD)} {ao : Option Addr} {cap : Nat} {K : List Nat} (h : (layThing.slice 40).own w p [.slice ao p.1 cap] K) (nd : K.Nodup) (hn : p.1 ≤ 1048576) (a0 : Nat) (bn : ByteArray) (h0 : w.cell? ⟨a0, 0, none⟩ = some (.string bn)) (hl0 : a0 < w.heap.size) (hk0 : a0 ∉ K) :
    Calls Try.prog 30 #[.slice ao p.1 cap, .func (.func 33) #[] #[.pointer (some ⟨a0, 0, none⟩)]] w fun e w' => ∃ ao' cap' K', e = .returned (.slice ao' (dropL p bn).1 cap') ∧ (layThing.slice 40).own w' (dropL p bn) [.slice ao' (dropL p bn).1 cap'] K' ∧ K'.Nodup ∧ (∀ b, b ∈ K' → b ∈ K) ∧ ChgL K w w' := by
  by_cases h0' : p.1 = 0
  · obtain ⟨n, x⟩ := p
    simp only at h0'
    subst h0'
    refine (deleteNoneT ao cap _ w).mono ?_
    rintro e w' ⟨rfl, rfl⟩
    exact ⟨ao, cap, K, rfl, thing_none h, nd, fun b hb => hb, ChgL.refl _ _⟩
  · obtain ⟨g, cap', ce, Ls, e, eK, S⟩ := slice_form h h0'
    simp only [List.cons.injEq, Value.slice.injEq, and_true, true_and] at e
    obtain ⟨rfl, rfl⟩ := e
    subst eK
    have hg0 : a0 ≠ g := fun hh => hk0 (by rw [hh]; exact List.mem_cons_self ..)
    refine (delete_drop g cap p.1 0 0 ce ce a0 (fun i => ((p.2 i).name.toList == bn.toList)) w (S.raw rfl) (Nat.le_refl _) (Nat.zero_le _) hn (fun k hk w' hc => ?_)).mono ?_
    · obtain ⟨o2, c2, e2⟩ := Thing_cellsO (S.each k hk)
      rw [e2]
      exact drop1_any a0 bn _ _ _ _ _ w' (by
        have hb := hc.block a0 hl0 (by simp; exact hg0)
        have e9 : w'.cell? ⟨a0, 0, none⟩ = w.cell? ⟨a0, 0, none⟩ := by simp [World.cell?, hb]
        rw [e9]; exact h0) (Nat.lt_of_lt_of_le hl0 hc.size)
    rintro e w' ⟨rfl, hr, hc⟩
    obtain ⟨s1, s2, s3⟩ := S.select nd (p := (fun i => keepT bn (p.2 i))) hr.row (fun b hb => .inl (by simpa [Value.ownBlock] using hb.symm)) (fun b hb => hc.block b (S.mem_lt b (List.mem_cons_of_mem _ hb)) (fun hm => by
      simp only [List.mem_singleton] at hm
      subst hm
      exact (List.nodup_cons.1 nd).1 hb))
    refine ⟨_, cap, _, rfl, s1, s2, fun b hb => ?_, hc.mono (fun b hb => by simp only [List.mem_singleton] at hb; rw [hb]; exact List.mem_cons_self ..)⟩
    rcases s3 b hb with h9 | h9
    · exact h9
    · simp only [Value.ownBlock, Option.toList_some, List.mem_append, List.mem_singleton] at hb
      rcases hb with rfl | hb
      · exact List.mem_cons_self ..
      · obtain ⟨i, hi, hbi⟩ := mem_catN.1 hb
        exact List.mem_cons_of_mem _ (mem_catN.2 ⟨_, selF_lt hi, hbi⟩)
set_option maxHeartbeats 8000000 in
set_option maxRecDepth 20000 in
theorem implDrop_any (p : Nat × (Nat → ThingD)) (bn : ByteArray) (v : Value) (hi : Nat) (w : World) (h : (layThing.slice 40).rd w hi p [v]) (hhi : hi ≤ w.heap.size) (hn : szSl szThingD p ≤ 1048576) :
    Calls Try.prog 17 #[v, .string bn] w fun e w' => ∃ v', e = .returned v' ∧ OwnT (layThing.slice 40) w' w.heap.size w'.heap.size (dropL p bn) [v'] ∧ Below w.heap.size w w' := by
  have hn1 := szSl_n hn
  have T0 := one_new w #[.string bn] 9
  obtain ⟨ao, cap, hv⟩ := sl_form h
  obtain rfl := one_eq hv
  have CC := copyThingS_is _ p hi _ ((layThing.slice 40).rd_below h T0.bel hhi) (Nat.le_trans hhi T0.bel.size) hn
  have HT0 : Hid (One w (w.alloc (.cells #[.string bn] 9)) #[.string bn] 9) := T0
  clear h hv hn T0
  go_enter Try.func17, Try.ntmps17
  go_wp2_with fail
  refine CC.mono ?_
  rintro e w1 ⟨v1, rfl, o1, b1⟩
  obtain ⟨ao1, cap1, hv⟩ := sl_formT o1
  obtain rfl := one_eq hv
  have T1 := HT0.out.call b1
  obtain ⟨K, k1, k2, k3⟩ := o1
  have za : (w.alloc (.cells #[.string bn] 9)).heap.size = w.heap.size + 1 := by simp
  have CD := delete_thing k1 k2 hn1 w.heap.size bn (T1.b1.cell 0) T1.b1.lt (fun hb => by have := (k3 _ hb).1; omega)
  have HB1 : Hid (Below w.heap.size w w1) := T1.bel
  have HK3 : Hid (∀ b, b ∈ K → w.heap.size ≤ b) := fun b hb => by have := (k3 b hb).1; omega
  clear CC hv b1 T1 k1 k2 k3 za
  go_wp2_with fail
  refine CD.mono ?_
  rintro e w2 ⟨ao2, cap2, K2, rfl, p1, p2, p3, p4⟩
  have HO : Hid (OwnT (layThing.slice 40) w2 w.heap.size w2.heap.size (dropL p bn) [.slice ao2 (dropL p bn).1 cap2]) := ⟨K2, p1, p2, fun b hb => ⟨HK3.out b (p3 b hb), (layThing.slice 40).own_lt p1 b hb⟩⟩
  have HB2 : Hid (Below w.heap.size w w2) := HB1.out.trans (p4.bel (fun b hb => HK3.out b hb) HB1.out.size)
  clear CD p1 p2 p3 p4
  go_wp2
  go_ret
  exact ⟨_, rfl, HO.out, HB2.out⟩
end Go.Proofs.Ytapnjoophlckoaa

namespace Go.Proofs.Ytapnjoophlckoaa
open Go.RowKit F256
set_option linter.unusedVariables false
theorem drop_le (p : Nat × (Nat → ThingD)) (bn : ByteArray) : szSl szThingD (dropL p bn) ≤ szSl szThingD p := by
  have h1 := sum_sel (fun i => szThingD (p.2 i)) (fun i => keepT bn (p.2 i)) p.1
  have h2 := kept_le (fun i => keepT bn (p.2 i)) p.1
  unfold szSl dropL
  simp only at h1 ⊢
  omega
theorem drop_sz {p : Nat × (Nat → ThingD)} {bn : ByteArray} (h : szSl szThingD p ≤ 1048576) : szSl szThingD (dropL p bn) ≤ 4000000 := by
  have := drop_le p bn
  omega
end Go.Proofs.Ytapnjoophlckoaa

namespace Go.Proofs.Ytapnjoophlckoaa
open Go.RowKit
set_option linter.unusedVariables false
section
variable {P : Program} {ops : Array Oper} {Q : Exit → Act → World → Prop} {md : Region.Mode} {S : World → Prop} {L : Nat}
/-- whatever order is picked; S holds behind every operation but L -/
def wpAnyL (P : Program) (md : Region.Mode) (ops : Array Oper) (Q : Exit → Act → World → Prop) (S : World → Prop) (L : Nat) : Nat → Array Bool → Act → World → Prop
  | 0, listed, a, w => Region.ready md ops listed = [] ∧ Q .normal a w
  | fuel + 1, listed, a, w =>
    (Region.ready md ops listed = [] → Q .normal a w) ∧
    ∀ i ∈ Region.ready md ops listed, wpOp P ops Q i (fun a' w' => (i ≠ L → S w') ∧ wpAnyL P md ops Q S L fuel (listed.setIfInBounds i true) a' w') a w
theorem wpAny_of_L : ∀ (fuel : Nat) (listed : Array Bool) (a : Act) (w : World), wpAnyL P md ops Q S L fuel listed a w → wpAny P md ops Q fuel listed a w
  | 0, _, _, _, h => h
  | fuel + 1, _, _, _, h => ⟨h.1, fun i hi => wpOp_mono (fun a' w' h' => wpAny_of_L fuel _ a' w' h'.2) (h.2 i hi)⟩
/-- what has come up came behind all that it waits for -/
def ClosedP (md : Region.Mode) (ops : Array Oper) (listed : Array Bool) : Prop :=
  ∀ j oj, ops[j]? = some oj → listed.getD j false = true → ∀ e ∈ oj.after, Region.binds md e = true → listed.getD e.on false = true
def closedB (md : Region.Mode) (ops : Array Oper) (listed : Array Bool) : Bool :=
  (List.range ops.size).all fun j => !listed.getD j false || ((ops[j]?).map (·.after.all fun e => !Region.binds md e || listed.getD e.on false)).getD false
theorem closed_of {listed : Array Bool} (h : closedB md ops listed = true) : ClosedP md ops listed := fun j oj hj hl e he hb => by
  unfold closedB at h
  have hlt : j < ops.size := (Array.getElem?_eq_some_iff.1 hj).1
  have h1 := List.all_eq_true.1 h j (List.mem_range.2 hlt)
  rw [hl, hj] at h1
  simp only [Bool.not_true, Bool.false_or, Option.map_some, Option.getD_some, Array.all_eq_true_iff_forall_mem] at h1
  have h2 := h1 e he
  rw [hb] at h2
  simpa using h2
theorem closed_step {listed : Array Bool} {j : Nat} (h : ClosedP md ops listed) (hj : j ∈ Region.ready md ops listed) : ClosedP md ops (listed.setIfInBounds j true) := fun k ok hk hl e he hb => by
  obtain ⟨_, o, ho, hall⟩ := mem_ready.1 hj
  by_cases c : j = k
  · subst c
    rw [hk] at ho
    cases ho
    exact getD_set_true (hall e he hb)
  · rw [getD_set_ne false c] at hl
    exact getD_set_true (h k ok hk hl e he hb)
/-- l waits for i, over so many steps -/
def depB (md : Region.Mode) (ops : Array Oper) : Nat → Nat → Nat → Bool
  | 0, l, i => l == i
  | n + 1, l, i => l == i || ((ops[l]?).map (·.after.any fun e => Region.binds md e && depB md ops n e.on i)).getD false
theorem dep_listed {listed : Array Bool} (hc : ClosedP md ops listed) : ∀ (n l i : Nat), depB md ops n l i = true → listed.getD l false = true → listed.getD i false = true
  | 0, l, i, h, hl => by
    unfold depB at h
    have : l = i := by simpa using h
    rw [← this]; exact hl
  | n + 1, l, i, h, hl => by
    unfold depB at h
    rcases Bool.or_eq_true _ _ ▸ h with h1 | h1
    · have : l = i := by simpa using h1
      rw [← this]; exact hl
    · cases ho : ops[l]? with
      | none => rw [ho] at h1; simp at h1
      | some o =>
        rw [ho] at h1
        simp only [Option.map_some, Option.getD_some] at h1
        obtain ⟨k, hk, hbk⟩ := Array.any_eq_true.1 h1
        obtain ⟨hb, hd⟩ := Bool.and_eq_true _ _ ▸ hbk
        exact dep_listed hc n _ i hd (hc l o ho hl _ (Array.getElem_mem hk) hb)
theorem dep_waits {listed : Array Bool} (hc : ClosedP md ops listed) {n i : Nat} (hne : L ≠ i) (hd : depB md ops n L i = true) (hi : listed.getD i false = false) : L ∉ Region.ready md ops listed := fun hL => by
  obtain ⟨_, o, ho, hall⟩ := mem_ready.1 hL
  cases n with
  | zero => unfold depB at hd; exact hne (by simpa using hd)
  | succ n =>
    unfold depB at hd
    rcases Bool.or_eq_true _ _ ▸ hd with h1 | h1
    · exact hne (by simpa using h1)
    · rw [ho] at h1
      simp only [Option.map_some, Option.getD_some] at h1
      obtain ⟨k, hk, hbk⟩ := Array.any_eq_true.1 h1
      obtain ⟨hb, hd'⟩ := Bool.and_eq_true _ _ ▸ hbk
      have := dep_listed hc n _ i hd' (hall _ (Array.getElem_mem hk) hb)
      rw [hi] at this
      cases this
theorem unlisted_false {listed : Array Bool} {i : Nat} (h : listed.getD i true = false) : listed.getD i false = false := by
  rcases Nat.lt_or_ge i listed.size with h' | h'
  · simpa [h'] using h
  · simp [Array.getElem?_eq_none h'] at h
theorem wpAnyL_first {i : Nat} {oi : Oper} {v : Value} (hi : ops[i]? = some oi) (hsel : ∀ (j : Nat) (o : Oper) cs b, ops[j]? = some o → o.op ≠ .select cs b)
    (hQ : ∀ c a w, Q (.panic c) (a.put oi.dst v) w → Q (.panic c) a w) (hLi : L ≠ i) {n : Nat} (hd : depB md ops n L i = true) :
    ∀ (fuel : Nat) (listed : Array Bool) (a : Act) (w : World), ClosedP md ops listed →
      (∀ j oj, ops[j]? = some oj → j ≠ i → listed.getD j true = false → (∀ e ∈ oj.after, Region.binds md e = true → e.on ≠ i) → oi.apart ops oj = true) →
      i ∈ Region.ready md ops listed → YieldsIf P ops S oi v a → S w →
      wpAnyL P md ops Q S L fuel (listed.setIfInBounds i true) (a.put oi.dst v) w → wpAnyL P md ops Q S L (fuel + 1) listed a w := by
  intro fuel
  induction fuel with
  | zero =>
    intro listed a w _ _ hr hy hS H
    refine ⟨fun h => (by rw [h] at hr; cases hr), fun j hj => ?_⟩
    by_cases hji : j = i
    · subst hji; exact hy.wpOp hi hS ⟨fun _ => hS, H⟩
    · have := ready_mono hj hji
      rw [H.1] at this
      cases this
  | succ fuel ih =>
    intro listed a w hcl hfree hr hy hS H
    refine ⟨fun h => (by rw [h] at hr; cases hr), fun j hj => ?_⟩
    by_cases hji : j = i
    · subst hji; exact hy.wpOp hi hS ⟨fun _ => hS, H⟩
    · have hjL : j ≠ L := fun h => by
        subst h
        exact dep_waits hcl hLi hd (unlisted_false (mem_ready.1 hr).1) hj
      have h1 := H.2 j (ready_mono hj hji)
      obtain ⟨hjun, oj, hoj, hall⟩ := mem_ready.1 hj
      have hnot : ∀ e ∈ oj.after, Region.binds md e = true → e.on ≠ i := fun e he hb heq => by
        have h1 := hall e he hb
        have h0 := unlisted_false (mem_ready.1 hr).1
        rw [heq, h0] at h1
        cases h1
      have h2 := wpOp_putIf hoj (hfree j oj hoj hji hjun hnot) (fun cs b => hsel i oi cs b hi) (fun cs b => hsel j oj cs b hoj) hQ hy h1
      have hfree' : ∀ k ok, ops[k]? = some ok → k ≠ i → (listed.setIfInBounds j true).getD k true = false →
          (∀ e ∈ ok.after, Region.binds md e = true → e.on ≠ i) → oi.apart ops ok = true := fun k ok hk hki hun hno => by
        refine hfree k ok hk hki ?_ hno
        by_cases hjk : j = k
        · subst hjk; exact hjun
        · rw [getD_set_ne true hjk] at hun; exact hun
      refine wpOp_mono (fun a' w' h3 => ⟨h3.2.1, ih (listed.setIfInBounds j true) a' w' (closed_step hcl hj) hfree' (ready_mono hr (Ne.symm hji)) h3.1 (h3.2.1 hjL) ?_⟩) h2
      rw [Array.setIfInBounds_comm _ _ hji]
      exact h3.2.2
/-- take number i first -/
theorem wpAnyL_take {i : Nat} {oi : Oper} {v : Value} {fuel : Nat} {listed : Array Bool} {a : Act} {w : World} (n : Nat) (hi : ops[i]? = some oi)
    (hs : (Region.noSelect ops && Region.free md ops listed i && (Region.ready md ops listed).contains i && !(L == i) && depB md ops n L i && closedB md ops listed) = true)
    (hQ : ∀ c a w, Q (.panic c) (a.put oi.dst v) w → Q (.panic c) a w) (hy : YieldsIf P ops S oi v a) (hS : S w)
    (h : wpAnyL P md ops Q S L fuel (listed.setIfInBounds i true) (a.put oi.dst v) w) : wpAnyL P md ops Q S L (fuel + 1) listed a w := by
  simp only [Bool.and_eq_true, Bool.not_eq_true', beq_eq_false_iff_ne] at hs
  obtain ⟨⟨⟨⟨⟨h1, h2⟩, h3⟩, h4⟩, h5⟩, h6⟩ := hs
  exact wpAnyL_first hi (Region.noSelect_spec h1) hQ h4 h5 fuel listed a w (closed_of h6) (Region.free_spec hi h2) (by simpa using h3) hy hS h
/-- one operation alone may come up, and S holds behind it -/
theorem wpAnyL_one {i : Nat} {o : Oper} {fuel : Nat} {listed : Array Bool} {a : Act} {w : World} (ho : ops[i]? = some o) (hr : Region.ready md ops listed = [i])
    (h : ∀ K' : Act → World → Prop, Shut (∀ a w, S w → (S w → wpAnyL P md ops Q S L fuel (listed.setIfInBounds i true) a w) → K' a w) → if Region.wanted o (yielded ops a.tmps) = true then Oper.wp P o a w K' Q else K' (a.put o.dst undef) w) : wpAnyL P md ops Q S L (fuel + 1) listed a w := by
  refine ⟨fun h0 => (by rw [hr] at h0; cases h0), fun j hj => ?_⟩
  rw [hr] at hj
  obtain rfl : j = i := by simpa using hj
  exact wpOp_step ho (fun K' hK => h K' (fun a w hS hW => hK a w ⟨fun _ => hS, hW hS⟩))
/-- the last store: nothing is asked behind it -/
theorem wpAnyL_last {o : Oper} {fuel : Nat} {listed : Array Bool} {a : Act} {w : World} (ho : ops[L]? = some o) (hr : Region.ready md ops listed = [L])
    (h : ∀ K' : Act → World → Prop, Shut (∀ a w, wpAnyL P md ops Q S L fuel (listed.setIfInBounds L true) a w → K' a w) → if Region.wanted o (yielded ops a.tmps) = true then Oper.wp P o a w K' Q else K' (a.put o.dst undef) w) : wpAnyL P md ops Q S L (fuel + 1) listed a w := by
  refine ⟨fun h0 => (by rw [hr] at h0; cases h0), fun j hj => ?_⟩
  rw [hr] at hj
  obtain rfl : j = L := by simpa using hj
  exact wpOp_step ho (fun K' hK => h K' (fun a w hW => hK a w ⟨fun hn => absurd rfl hn, hW⟩))
theorem wpAnyL_done {listed : Array Bool} {a : Act} {w : World} (hr : Region.ready md ops listed = []) (h : Q .normal a w) : ∀ fuel, wpAnyL P md ops Q S L fuel listed a w
  | 0 => ⟨hr, h⟩
  | _ + 1 => ⟨fun _ => h, by rw [hr]; simp⟩
theorem wp_region_L {id : Nat} {a : Act} {w : World} (L : Nat) (S : World → Prop) (hm : P.follows .mixedOrders = true) (hS : S w.drew)
    (h : S w.drew → wpAnyL P .any ops Q S L ops.size (Array.replicate ops.size false) a w.drew) : (Code.region id ops true).wp P Q a w :=
  wp_region_any hm (wpAny_of_L _ _ _ _ (h hS))
end
end Go.Proofs.Ytapnjoophlckoaa

namespace Go.Proofs.Ytapnjoophlckoaa
open Go.RowKit
set_option linter.unusedVariables false
section
variable {P : Program} {ops : Array Oper} {Q : Exit → Act → World → Prop} {md : Region.Mode} {S : World → Prop} {L : Nat}
/-- whatever order is picked; S holds until L has come up -/
def wpAnyM (P : Program) (md : Region.Mode) (ops : Array Oper) (Q : Exit → Act → World → Prop) (S : World → Prop) (L : Nat) : Nat → Array Bool → Act → World → Prop
  | 0, listed, a, w => Region.ready md ops listed = [] ∧ Q .normal a w
  | fuel + 1, listed, a, w =>
    (Region.ready md ops listed = [] → Q .normal a w) ∧
    ∀ i ∈ Region.ready md ops listed, wpOp P ops Q i (fun a' w' => ((listed.setIfInBounds i true).getD L false = false → S w') ∧ wpAnyM P md ops Q S L fuel (listed.setIfInBounds i true) a' w') a w
theorem wpAny_of_M : ∀ (fuel : Nat) (listed : Array Bool) (a : Act) (w : World), wpAnyM P md ops Q S L fuel listed a w → wpAny P md ops Q fuel listed a w
  | 0, _, _, _, h => h
  | fuel + 1, _, _, _, h => ⟨h.1, fun i hi => wpOp_mono (fun a' w' h' => wpAny_of_M fuel _ a' w' h'.2) (h.2 i hi)⟩
theorem wpAnyM_first {i : Nat} {oi : Oper} {v : Value} (hi : ops[i]? = some oi) (hsel : ∀ (j : Nat) (o : Oper) cs b, ops[j]? = some o → o.op ≠ .select cs b)
    (hQ : ∀ c a w, Q (.panic c) (a.put oi.dst v) w → Q (.panic c) a w) (hLi : L ≠ i) {n : Nat} (hd : depB md ops n L i = true) :
    ∀ (fuel : Nat) (listed : Array Bool) (a : Act) (w : World), ClosedP md ops listed →
      (∀ j oj, ops[j]? = some oj → j ≠ i → listed.getD j true = false → (∀ e ∈ oj.after, Region.binds md e = true → e.on ≠ i) → oi.apart ops oj = true) →
      i ∈ Region.ready md ops listed → YieldsIf P ops S oi v a → S w →
      wpAnyM P md ops Q S L fuel (listed.setIfInBounds i true) (a.put oi.dst v) w → wpAnyM P md ops Q S L (fuel + 1) listed a w := by
  intro fuel
  induction fuel with
  | zero =>
    intro listed a w _ _ hr hy hS H
    refine ⟨fun h => (by rw [h] at hr; cases hr), fun j hj => ?_⟩
    by_cases hji : j = i
    · subst hji; exact hy.wpOp hi hS ⟨fun _ => hS, H⟩
    · have := ready_mono hj hji
      rw [H.1] at this
      cases this
  | succ fuel ih =>
    intro listed a w hcl hfree hr hy hS H
    refine ⟨fun h => (by rw [h] at hr; cases hr), fun j hj => ?_⟩
    by_cases hji : j = i
    · subst hji; exact hy.wpOp hi hS ⟨fun _ => hS, H⟩
    · have hjL : j ≠ L := fun h => by
        subst h
        exact dep_waits hcl hLi hd (unlisted_false (mem_ready.1 hr).1) hj
      have h1 := H.2 j (ready_mono hj hji)
      obtain ⟨hjun, oj, hoj, hall⟩ := mem_ready.1 hj
      have hnot : ∀ e ∈ oj.after, Region.binds md e = true → e.on ≠ i := fun e he hb heq => by
        have h1 := hall e he hb
        have h0 := unlisted_false (mem_ready.1 hr).1
        rw [heq, h0] at h1
        cases h1
      have h2 := wpOp_putIf hoj (hfree j oj hoj hji hjun hnot) (fun cs b => hsel i oi cs b hi) (fun cs b => hsel j oj cs b hoj) hQ hy h1
      have hfree' : ∀ k ok, ops[k]? = some ok → k ≠ i → (listed.setIfInBounds j true).getD k true = false →
          (∀ e ∈ ok.after, Region.binds md e = true → e.on ≠ i) → oi.apart ops ok = true := fun k ok hk hki hun hno => by
        refine hfree k ok hk hki ?_ hno
        by_cases hjk : j = k
        · subst hjk; exact hjun
        · rw [getD_set_ne true hjk] at hun; exact hun
      have hLn : (listed.setIfInBounds j true).getD L false = false := by
        rw [getD_set_ne false hjL]
        cases hg : listed.getD L false with
        | false => rfl
        | true => have := dep_listed hcl n L i hd hg; rw [unlisted_false (mem_ready.1 hr).1] at this; cases this
      have hLn2 : ((listed.setIfInBounds i true).setIfInBounds j true).getD L false = false := by
        rw [← Array.setIfInBounds_comm _ _ hji, getD_set_ne false (Ne.symm hLi)]
        exact hLn
      refine wpOp_mono (fun a' w' h3 => ⟨fun _ => h3.2.1 hLn2, ih (listed.setIfInBounds j true) a' w' (closed_step hcl hj) hfree' (ready_mono hr (Ne.symm hji)) h3.1 (h3.2.1 hLn2) ?_⟩) h2
      rw [Array.setIfInBounds_comm _ _ hji]
      exact h3.2.2
theorem wpAnyM_pure0 {i : Nat} {oi : Oper} {v : Value} (hi : ops[i]? = some oi) (hsel : ∀ (j : Nat) (o : Oper) cs b, ops[j]? = some o → o.op ≠ .select cs b)
    (hQ : ∀ c a w, Q (.panic c) (a.put oi.dst v) w → Q (.panic c) a w) (hLi : L ≠ i) :
    ∀ (fuel : Nat) (listed : Array Bool) (a : Act) (w : World), ClosedP md ops listed →
      (∀ j oj, ops[j]? = some oj → j ≠ i → listed.getD j true = false → (∀ e ∈ oj.after, Region.binds md e = true → e.on ≠ i) → oi.apart ops oj = true) →
      i ∈ Region.ready md ops listed → YieldsIf P ops (fun _ => True) oi v a → ((listed.setIfInBounds i true).getD L false = false → S w) →
      wpAnyM P md ops Q S L fuel (listed.setIfInBounds i true) (a.put oi.dst v) w → wpAnyM P md ops Q S L (fuel + 1) listed a w := by
  intro fuel
  induction fuel with
  | zero =>
    intro listed a w _ _ hr hy hS H
    refine ⟨fun h => (by rw [h] at hr; cases hr), fun j hj => ?_⟩
    by_cases hji : j = i
    · subst hji; exact hy.wpOp hi trivial ⟨hS, H⟩
    · have := ready_mono hj hji
      rw [H.1] at this
      cases this
  | succ fuel ih =>
    intro listed a w hcl hfree hr hy hS H
    refine ⟨fun h => (by rw [h] at hr; cases hr), fun j hj => ?_⟩
    by_cases hji : j = i
    · subst hji; exact hy.wpOp hi trivial ⟨hS, H⟩
    · skip
      have h1 := H.2 j (ready_mono hj hji)
      obtain ⟨hjun, oj, hoj, hall⟩ := mem_ready.1 hj
      have hnot : ∀ e ∈ oj.after, Region.binds md e = true → e.on ≠ i := fun e he hb heq => by
        have h1 := hall e he hb
        have h0 := unlisted_false (mem_ready.1 hr).1
        rw [heq, h0] at h1
        cases h1
      have h2 := wpOp_putIf hoj (hfree j oj hoj hji hjun hnot) (fun cs b => hsel i oi cs b hi) (fun cs b => hsel j oj cs b hoj) hQ hy h1
      have hfree' : ∀ k ok, ops[k]? = some ok → k ≠ i → (listed.setIfInBounds j true).getD k true = false →
          (∀ e ∈ ok.after, Region.binds md e = true → e.on ≠ i) → oi.apart ops ok = true := fun k ok hk hki hun hno => by
        refine hfree k ok hk hki ?_ hno
        by_cases hjk : j = k
        · subst hjk; exact hjun
        · rw [getD_set_ne true hjk] at hun; exact hun
      refine wpOp_mono (fun a' w' h3 => ?_) h2
      have hk : ((listed.setIfInBounds j true).setIfInBounds i true).getD L false = false → S w' := fun hn => h3.2.1 (by rw [Array.setIfInBounds_comm _ _ (Ne.symm hji)]; exact hn)
      refine ⟨fun hn => ?_, ih (listed.setIfInBounds j true) a' w' (closed_step hcl hj) hfree' (ready_mono hr (Ne.symm hji)) h3.1 hk ?_⟩
      · exact hk (by rw [getD_set_ne false (Ne.symm hLi)]; exact hn)
      · rw [Array.setIfInBounds_comm _ _ hji]
        exact h3.2.2
/-- take number i first, which asks nothing of the world -/
theorem wpAnyM_pure {i : Nat} {oi : Oper} {v : Value} {fuel : Nat} {listed : Array Bool} {a : Act} {w : World} (hi : ops[i]? = some oi)
    (hs : (Region.noSelect ops && Region.free md ops listed i && (Region.ready md ops listed).contains i && !(L == i) && closedB md ops listed) = true)
    (hQ : ∀ c a w, Q (.panic c) (a.put oi.dst v) w → Q (.panic c) a w) (hy : YieldsIf P ops (fun _ => True) oi v a) (hS : S w)
    (h : wpAnyM P md ops Q S L fuel (listed.setIfInBounds i true) (a.put oi.dst v) w) : wpAnyM P md ops Q S L (fuel + 1) listed a w := by
  simp only [Bool.and_eq_true, Bool.not_eq_true', beq_eq_false_iff_ne] at hs
  obtain ⟨⟨⟨⟨h1, h2⟩, h3⟩, h4⟩, h6⟩ := hs
  exact wpAnyM_pure0 hi (Region.noSelect_spec h1) hQ h4 fuel listed a w (closed_of h6) (Region.free_spec hi h2) (by simpa using h3) hy (fun _ => hS) h
/-- the same where L has come up -/
theorem wpAnyM_pureL {i : Nat} {oi : Oper} {v : Value} {fuel : Nat} {listed : Array Bool} {a : Act} {w : World} (hi : ops[i]? = some oi)
    (hs : (Region.noSelect ops && Region.free md ops listed i && (Region.ready md ops listed).contains i && !(L == i) && closedB md ops listed && listed.getD L false) = true)
    (hQ : ∀ c a w, Q (.panic c) (a.put oi.dst v) w → Q (.panic c) a w) (hy : YieldsIf P ops (fun _ => True) oi v a)
    (h : wpAnyM P md ops Q S L fuel (listed.setIfInBounds i true) (a.put oi.dst v) w) : wpAnyM P md ops Q S L (fuel + 1) listed a w := by
  simp only [Bool.and_eq_true, Bool.not_eq_true', beq_eq_false_iff_ne] at hs
  obtain ⟨⟨⟨⟨⟨h1, h2⟩, h3⟩, h4⟩, h6⟩, h7⟩ := hs
  exact wpAnyM_pure0 hi (Region.noSelect_spec h1) hQ h4 fuel listed a w (closed_of h6) (Region.free_spec hi h2) (by simpa using h3) hy (fun hn => by rw [getD_set_ne false (Ne.symm h4), h7] at hn; cases hn) h
/-- take number i first -/
theorem wpAnyM_take {i : Nat} {oi : Oper} {v : Value} {fuel : Nat} {listed : Array Bool} {a : Act} {w : World} (n : Nat) (hi : ops[i]? = some oi)
    (hs : (Region.noSelect ops && Region.free md ops listed i && (Region.ready md ops listed).contains i && !(L == i) && depB md ops n L i && closedB md ops listed) = true)
    (hQ : ∀ c a w, Q (.panic c) (a.put oi.dst v) w → Q (.panic c) a w) (hy : YieldsIf P ops S oi v a) (hS : S w)
    (h : wpAnyM P md ops Q S L fuel (listed.setIfInBounds i true) (a.put oi.dst v) w) : wpAnyM P md ops Q S L (fuel + 1) listed a w := by
  simp only [Bool.and_eq_true, Bool.not_eq_true', beq_eq_false_iff_ne] at hs
  obtain ⟨⟨⟨⟨⟨h1, h2⟩, h3⟩, h4⟩, h5⟩, h6⟩ := hs
  exact wpAnyM_first hi (Region.noSelect_spec h1) hQ h4 h5 fuel listed a w (closed_of h6) (Region.free_spec hi h2) (by simpa using h3) hy hS h
/-- one operation alone may come up, and L has come up with it -/
theorem wpAnyM_one {i : Nat} {o : Oper} {fuel : Nat} {listed : Array Bool} {a : Act} {w : World} (ho : ops[i]? = some o) (hr : Region.ready md ops listed = [i]) (hL : (listed.setIfInBounds i true).getD L false = true)
    (h : ∀ K' : Act → World → Prop, Shut (∀ a w, wpAnyM P md ops Q S L fuel (listed.setIfInBounds i true) a w → K' a w) → if Region.wanted o (yielded ops a.tmps) = true then Oper.wp P o a w K' Q else K' (a.put o.dst undef) w) : wpAnyM P md ops Q S L (fuel + 1) listed a w := by
  refine ⟨fun h0 => (by rw [hr] at h0; cases h0), fun j hj => ?_⟩
  rw [hr] at hj
  obtain rfl : j = i := by simpa using hj
  exact wpOp_step ho (fun K' hK => h K' (fun a w hW => hK a w ⟨fun hn => (by rw [hL] at hn; cases hn), hW⟩))
theorem wpAnyM_done {listed : Array Bool} {a : Act} {w : World} (hr : Region.ready md ops listed = []) (h : Q .normal a w) : ∀ fuel, wpAnyM P md ops Q S L fuel listed a w
  | 0 => ⟨hr, h⟩
  | _ + 1 => ⟨fun _ => h, by rw [hr]; simp⟩
theorem wp_region_M {id : Nat} {a : Act} {w : World} (L : Nat) (S : World → Prop) (hm : P.follows .mixedOrders = true) (hS : S w.drew)
    (h : S w.drew → wpAnyM P .any ops Q S L ops.size (Array.replicate ops.size false) a w.drew) : (Code.region id ops true).wp P Q a w :=
  wp_region_any hm (wpAny_of_M _ _ _ _ (h hS))
/-- a store of a whole struct into the midst of a block, behind which L has come up -/
theorem wpAnyM_store {i : Nat} {o : Oper} {fuel : Nat} {listed : Array Bool} {a : Act} {w : World} (ho : ops[i]? = some o) (hr : Region.ready md ops listed = [i]) (hL : (listed.setIfInBounds i true).getD L false = true) (hg : o.guard = none) (hd : o.dst = none) (T : TypeId) (x y : Operand) (hop : o.op = .store T x y)
    (b off : Nat) (cells : List Value) (hx : a.eval x = .pointer (some ⟨b, off, none⟩)) (hy : a.eval y = .agg cells.toArray) (ht : w.there b off cells.length) (hi : (P.info? T).map (·.size) = some cells.length) (h1 : ∀ v, v ∈ cells → v.oneCell' = true)
    (h : wpAnyM P md ops Q S L fuel (listed.setIfInBounds i true) a (w.setCells b off cells)) : wpAnyM P md ops Q S L (fuel + 1) listed a w := by
  refine wpAnyM_one ho hr hL (fun KC hKC => ?_)
  have hw : Region.wanted o (yielded ops a.tmps) = true := by simp [Region.wanted, hg]
  rw [if_pos hw]
  refine wp_store_mid T x y hop b off cells.toArray hx hy (by simpa using ht) (by simpa using hi) (by simpa using h1) ?_
  have e : a.put o.dst undef = a := by rw [hd]; rfl
  rw [e]
  exact hKC _ _ h
end
end Go.Proofs.Ytapnjoophlckoaa

namespace Go.Proofs.Ytapnjoophlckoaa
open Go.RowKit F256
set_option linter.unusedVariables false
set_option linter.unusedSimpArgs false
theorem el_Raw3 : ElInfo (layRaw 3) 25 40 48 [.string ByteArray.empty, .bool false, .slice none 0 0] := ⟨by decide, rfl, Try.underlying25, by kernel_rfl, by decide⟩
theorem run_from9 (g n cap m : Nat) (hm : m ≤ n) (w : World) : (Instr.slice 25 (.slice (some ⟨g, 0, none⟩) n cap) (some (.int .i64 (m : Int))) none none).run Try.prog w = .ok (.slice (if cap = m then some ⟨g, 0, none⟩ else some ⟨g, m * 3, none⟩) (n - m) (cap - m)) w := by
  have e1 : (m : Int) ≤ (n : Int) := by omega
  by_cases h : cap = m
  · subst h
    simp [Instr.slice, run_underlying Try.underlying25, Instr.sliceBounds, Instr.sliceBound, asIntOf, go_sem, e1, hm]
  · simp [Instr.slice, run_underlying Try.underlying25, Instr.sliceBounds, Instr.sliceBound, asIntOf, go_sem, e1, hm, h]
theorem run_upto9 (g n cap m : Nat) (hm : m ≤ n) (hc : n ≤ cap) (w : World) : (Instr.slice 25 (.slice (some ⟨g, 0, none⟩) n cap) none (some (.int .i64 (m : Int))) none).run Try.prog w = .ok (.slice (some ⟨g, 0, none⟩) m cap) w := by
  have e1 : (m : Int) ≤ (cap : Int) := by omega
  have e2 : m ≤ cap := by omega
  simp [Instr.slice, run_underlying Try.underlying25, Instr.sliceBounds, Instr.sliceBound, asIntOf, go_sem, e1, e2]
theorem run_from0 (w : World) : (Instr.slice 25 (.slice none 0 0) (some (.int .i64 ((0 : Nat) : Int))) none none).run Try.prog w = .ok (.slice none 0 0) w := by
  simp [Instr.slice, run_underlying Try.underlying25, Instr.sliceBounds, Instr.sliceBound, asIntOf, go_sem]
theorem run_upto0 (w : World) : (Instr.slice 25 (.slice none 0 0) none (some (.int .i64 ((0 : Nat) : Int))) none).run Try.prog w = .ok (.slice none 0 0) w := by
  simp [Instr.slice, run_underlying Try.underlying25, Instr.sliceBounds, Instr.sliceBound, asIntOf, go_sem]
section
variable {w : World} {lo hi n : Nat} {v : Value} {x : Nat → List Value} {ce : Nat → List Value}
theorem View.form2 (h : View (layRaw 3) 40 w lo hi v n x ce) : (v = .slice none 0 0 ∧ n = 0) ∨ ∃ g cap, v = .slice (some ⟨g, 0, none⟩) n cap ∧ n ≤ cap ∧ g < w.heap.size := by
  have hlt := fun b hb => (h.row.lt b hb).2
  rcases h.row.2 with hn | ⟨g, cap, cur, rfl, hbg, hgg, hnc, hcm, rest⟩
  · exact .inl hn
  · exact .inr ⟨g, cap, rfl, hnc, hlt g rfl⟩
theorem src_rd {ao : Option Addr} {m c : Nat} {y : Nat → List Value} {cy : Nat → List Value} (hs : Src (layRaw 3) w hi ao m y cy) (hh : hi ≤ w.heap.size) (hm : m ≤ maxLen) (hb : ∀ b off, ao = some ⟨b, off, none⟩ → b < w.heap.size) : ((layRaw 3).slice 40).rd w w.heap.size (m, y) [.slice ao m c] := by
  refine ⟨ao, c, rfl, hm, fun h0 => ?_⟩
  obtain ⟨b, off, e, hc⟩ := hs.1 h0
  exact ⟨b, off, e, hb b off e, fun i hi => ⟨cy i, (layRaw 3).rd_mono (hs.2 i hi) hh, hc i hi⟩⟩
theorem View.from_ (h : View (layRaw 3) 40 w lo hi v n x ce) (hh : hi ≤ w.heap.size) {al : Nat} (ha : al ≤ n) : ∃ ao c, (∀ w', (Instr.slice 25 v (some (.int .i64 (al : Int))) none none).run Try.prog w' = .ok (.slice ao (n - al) c) w') ∧ Src (layRaw 3) w hi ao (n - al) (fun j => x (al + j)) (fun j => ce (al + j)) ∧ ((layRaw 3).slice 40).rd w w.heap.size (n - al, fun j => x (al + j)) [.slice ao (n - al) c] ∧ (ao = none → c = 0 ∨ n - al = 0) := by
  have hl := h.len
  rcases h.form2 with ⟨rfl, rfl⟩ | ⟨g, cap, rfl, hnc, hg⟩
  · obtain rfl : al = 0 := by omega
    have S : Src (layRaw 3) w hi none 0 (fun j => x (0 + j)) (fun j => ce (0 + j)) := ⟨fun h => absurd rfl h, fun j hj => by omega⟩
    exact ⟨none, 0, run_from0, S, src_rd S hh (by omega) (fun b off e => by cases e), fun _ => .inl rfl⟩
  · have S : Src (layRaw 3) w hi (if cap = al then some ⟨g, 0, none⟩ else some ⟨g, al * 3, none⟩) (n - al) (fun j => x (al + j)) (fun j => ce (al + j)) := ⟨fun h0 => by
      rw [if_neg (by omega)]
      refine ⟨g, al * 3, rfl, fun j hj k hk => ?_⟩
      have := h.cell (i := al + j) (by omega) hk
      rw [← this]
      congr 2
      show al * 3 + (j * 3 + k) = (al + j) * 3 + k
      omega, fun j hj => h.each _ (by omega)⟩
    refine ⟨_, _, run_from9 g n cap al ha, S, src_rd S hh (by omega) (fun b off e => ?_), fun e => ?_⟩
    · split at e <;> cases e <;> exact hg
    · split at e <;> cases e
theorem View.upto_ (h : View (layRaw 3) 40 w lo hi v n x ce) (hh : hi ≤ w.heap.size) {al : Nat} (ha : al ≤ n) : ∃ ao c, (∀ w', (Instr.slice 25 v none (some (.int .i64 (al : Int))) none).run Try.prog w' = .ok (.slice ao al c) w') ∧ Src (layRaw 3) w hi ao al x ce ∧ (ao = none → c = 0 ∨ al = 0) := by
  rcases h.form2 with ⟨rfl, rfl⟩ | ⟨g, cap, rfl, hnc, hg⟩
  · obtain rfl : al = 0 := by omega
    exact ⟨none, 0, run_upto0, ⟨fun h => absurd rfl h, fun j hj => by omega⟩, fun _ => .inl rfl⟩
  · exact ⟨_, _, run_upto9 g n cap al ha hnc, ⟨fun h0 => ⟨g, 0, rfl, fun j hj k hk => by rw [Nat.zero_add]; exact h.cell (by omega) hk⟩, fun j hj => h.each _ (by omega)⟩, fun e => by cases e⟩
/-- what can be read as a whole, element by element -/
theorem src_of {ao : Option Addr} {m c : Nat} {y : Nat → List Value} (h : ((layRaw 3).slice 40).rd w hi (m, y) [.slice ao m c]) : ∃ cy, Src (layRaw 3) w hi ao m y cy ∧ (ao = none → c = 0 ∨ m = 0) := by
  obtain ⟨ao', cap', e, hm, hc⟩ := h
  simp only [List.cons.injEq, Value.slice.injEq, true_and, and_true] at e
  obtain ⟨rfl, rfl⟩ := e
  by_cases h0 : m = 0
  · subst h0
    exact ⟨fun _ => [], ⟨fun h => absurd rfl h, fun j hj => by omega⟩, fun _ => .inr rfl⟩
  · obtain ⟨b, off, rfl, hb, hel⟩ := hc h0
    have ch : ∀ i, ∃ ce, i < m → ((layRaw 3).rd w hi (y i) ce ∧ ∀ j, j < (layRaw 3).sz → w.cell? ⟨b, off + (i * (layRaw 3).sz + j), none⟩ = ce[j]?) := fun i => by
      by_cases c : i < m
      · obtain ⟨ce, h1, h2⟩ := hel i c
        exact ⟨ce, fun _ => ⟨h1, h2⟩⟩
      · exact ⟨[], fun h => absurd h c⟩
    obtain ⟨cy, hcy⟩ := Classical.axiomOfChoice ch
    exact ⟨cy, ⟨fun _ => ⟨b, off, rfl, fun j hj => (hcy j hj).2⟩, fun j hj => (hcy j hj).1⟩, fun e => by cases e⟩
end
theorem range_below {w w' : World} {B b o : Nat} {cs : List Value} (h : w.rangeAt b o cs) (hb : Below B w w') (hB : b < B) : w'.rangeAt b o cs := fun j v hv => (hb.cell (p := ⟨b, o + j, none⟩) hB).trans (h j v hv)
theorem Src.below {w w' : World} {B hi : Nat} {ao : Option Addr} {m : Nat} {y : Nat → List Value} {cy : Nat → List Value} (h : Src (layRaw 3) w hi ao m y cy) (hb : Below B w w') (hB : ∀ b off, ao = some ⟨b, off, none⟩ → b < B) (hh : hi ≤ B) : Src (layRaw 3) w' hi ao m y cy :=
  ⟨fun h0 => by
    obtain ⟨b, off, e, hc⟩ := h.1 h0
    exact ⟨b, off, e, fun j hj k hk => (hb.cell (p := ⟨b, off + (j * (layRaw 3).sz + k), none⟩) (hB b off e)).trans (hc j hj k hk)⟩, fun j hj => (layRaw 3).rd_below (h.2 j hj) hb hh⟩
theorem ins_up {D U : World} {lo hi m : Nat} {ao : Option Addr} {c : Nat} {y : Nat → List Value} {cy : Nat → List Value} {v0 : Value} {x' : Nat → List Value} {ce : Nat → List Value} (hS : Src (layRaw 3) D hi ao m y cy) (hz : ao = none → c = 0 ∨ m = 0) (hA : ∀ b off, ao = some ⟨b, off, none⟩ → b < D.heap.size) (hb : Below D.heap.size D U) (hh : hi ≤ D.heap.size) (hm : m ≤ 1100000)
    (V : View (layRaw 3) 40 U D.heap.size hi v0 0 x' ce) : ∃ v' w' ce', (Builtin.append_ #[25, 25] 25 #[v0, .slice ao m c]).run Try.prog U = .ok v' w' ∧ View (layRaw 3) 40 w' D.heap.size hi v' m y ce' ∧ Below D.heap.size U w' := by
  obtain ⟨v', w', hrun, V', _, b'⟩ := run_appendV el_Raw3 rdOne_raw3 25 V c (hS.below hb hA hh) hb.size hh (by omega) hz
  refine ⟨v', w', cat2 ce 0 cy, hrun, ?_, b'⟩
  rw [Nat.zero_add] at V'
  exact V'.congr (fun i hi => by unfold cat2; rw [if_neg (by omega)]; rfl)
theorem View.weakL {w : World} {lo lo' hi n : Nat} {v : Value} {x : Nat → List Value} {ce : Nat → List Value} (h : View (layRaw 3) 40 w lo hi v n x ce) (hl : lo' ≤ lo) : View (layRaw 3) 40 w lo' hi v n x ce := ⟨⟨h.row.1, by
  rcases h.row.2 with hn | ⟨g, cap, cur, rfl, hbg, rest⟩
  · exact .inl hn
  · exact .inr ⟨g, cap, cur, rfl, Nat.le_trans hl hbg, rest⟩⟩, h.each⟩
/-- the same, another block of the call's own left as it is -/
theorem ins_up4 {D U : World} {hi m g : Nat} {ao : Option Addr} {c : Nat} {y : Nat → List Value} {cy : Nat → List Value} {v0 : Value} {x' : Nat → List Value} {ce : Nat → List Value} {cR : List Value} (hS : Src (layRaw 3) D hi ao m y cy) (hz : ao = none → c = 0 ∨ m = 0) (hA : ∀ b off, ao = some ⟨b, off, none⟩ → b < D.heap.size) (hb : Below D.heap.size D U) (hh : hi ≤ D.heap.size) (hm : m ≤ 1100000)
    (V : View (layRaw 3) 40 U D.heap.size hi v0 0 x' ce) (hX : Box U g cR.toArray 40) (hg : v0.ownBlock ≠ some g) : ∃ v' w' ce', (Builtin.append_ #[25, 25] 25 #[v0, .slice ao m c]).run Try.prog U = .ok v' w' ∧ (View (layRaw 3) 40 w' D.heap.size hi v' m y ce' ∧ Box w' g cR.toArray 40) ∧ Below D.heap.size U w' := by
  obtain ⟨v', w', hrun, V', hgr, b'⟩ := run_appendV el_Raw3 rdOne_raw3 25 V c (hS.below hb hA hh) hb.size hh (by omega) hz
  refine ⟨v', w', cat2 ce 0 cy, hrun, ⟨?_, ?_⟩, b'⟩
  · rw [Nat.zero_add] at V'
    exact V'.congr (fun i hi => by unfold cat2; rw [if_neg (by omega)]; rfl)
  · exact (hgr.block g hX.lt (fun h => hg h.symm)).trans hX
theorem ins_one {D U : World} {hi m g : Nat} {v : Value} {x : Nat → List Value} {ce : Nat → List Value} {r : List Value} {cR : List Value} (hb : Below D.heap.size D U) (hh : hi ≤ D.heap.size) (hm : m ≤ 1100000) (V : View (layRaw 3) 40 U D.heap.size hi v m x ce) (hX : Box U g cR.toArray 40) (hr : (layRaw 3).rd U hi r cR) :
    ∃ v' w' ce', (Builtin.append_ #[25, 25] 25 #[v, .slice (some ⟨g, 0, none⟩) 1 1]).run Try.prog U = .ok v' w' ∧ View (layRaw 3) 40 w' D.heap.size hi v' (m + 1) (cat2 x m (fun _ => r)) ce' ∧ Below D.heap.size U w' := by
  obtain ⟨v', w', hrun, V', _, b'⟩ := run_appendV el_Raw3 rdOne_raw3 25 V 1 (src_one (b := g) (hi := hi) (y := r) (cs := cR) (fun j hj => by rw [hX.cell j]; simp) hr) hb.size hh (by omega) (fun h => by cases h)
  exact ⟨v', w', _, hrun, V', b'⟩
theorem ins_rest {D U : World} {hi m k : Nat} {ao : Option Addr} {c : Nat} {y : Nat → List Value} {cy : Nat → List Value} {v : Value} {x : Nat → List Value} {ce : Nat → List Value} (hS : Src (layRaw 3) D hi ao k y cy) (hz : ao = none → c = 0 ∨ k = 0) (hA : ∀ b off, ao = some ⟨b, off, none⟩ → b < D.heap.size) (hb : Below D.heap.size D U) (hh : hi ≤ D.heap.size) (hm : m + k ≤ 2200000)
    (V : View (layRaw 3) 40 U D.heap.size hi v m x ce) : ∃ v' w' ce', (Builtin.append_ #[25, 25] 25 #[v, .slice ao k c]).run Try.prog U = .ok v' w' ∧ View (layRaw 3) 40 w' D.heap.size hi v' (m + k) (cat2 x m y) ce' ∧ Below D.heap.size U w' := by
  obtain ⟨v', w', hrun, V', _, b'⟩ := run_appendV el_Raw3 rdOne_raw3 25 V c (hS.below hb hA hh) hb.size hh (by omega) hz
  exact ⟨v', w', _, hrun, V', b'⟩
theorem mixedO : Try.prog.follows Departure.mixedOrders = true := by kernel_rfl
section
variable {P : Program} {ops : Array Oper} {Q : Exit → Act → World → Prop} {md : Region.Mode} {S : World → Prop} {L : Nat}
/-- one operation alone may come up, ahead of L -/
theorem wpAnyM_oneS {i : Nat} {o : Oper} {fuel : Nat} {listed : Array Bool} {a : Act} {w : World} (ho : ops[i]? = some o) (hr : Region.ready md ops listed = [i])
    (h : ∀ K' : Act → World → Prop, Shut (∀ a w, S w → wpAnyM P md ops Q S L fuel (listed.setIfInBounds i true) a w → K' a w) → if Region.wanted o (yielded ops a.tmps) = true then Oper.wp P o a w K' Q else K' (a.put o.dst undef) w) : wpAnyM P md ops Q S L (fuel + 1) listed a w := by
  refine ⟨fun h0 => (by rw [hr] at h0; cases h0), fun j hj => ?_⟩
  rw [hr] at hj
  obtain rfl : j = i := by simpa using hj
  exact wpOp_step ho (fun K' hK => h K' (fun a w hS hW => hK a w ⟨fun _ => hS, hW⟩))
/-- one of two may come up, ahead of L -/
theorem wpAnyM_twoS {i j : Nat} {o o' : Oper} {fuel : Nat} {listed : Array Bool} {a : Act} {w : World} (ho : ops[i]? = some o) (ho' : ops[j]? = some o') (hr : Region.ready md ops listed = [i, j])
    (h : ∀ K' : Act → World → Prop, Shut (∀ a w, S w → wpAnyM P md ops Q S L fuel (listed.setIfInBounds i true) a w → K' a w) → if Region.wanted o (yielded ops a.tmps) = true then Oper.wp P o a w K' Q else K' (a.put o.dst undef) w)
    (h' : ∀ K' : Act → World → Prop, Shut (∀ a w, S w → wpAnyM P md ops Q S L fuel (listed.setIfInBounds j true) a w → K' a w) → if Region.wanted o' (yielded ops a.tmps) = true then Oper.wp P o' a w K' Q else K' (a.put o'.dst undef) w) : wpAnyM P md ops Q S L (fuel + 1) listed a w := by
  refine ⟨fun h0 => (by rw [hr] at h0; cases h0), fun k hk => ?_⟩
  rw [hr] at hk
  simp only [List.mem_cons, List.not_mem_nil, or_false] at hk
  rcases hk with rfl | rfl
  · exact wpOp_step ho (fun K' hK => h K' (fun a w hS hW => hK a w ⟨fun _ => hS, hW⟩))
  · exact wpOp_step ho' (fun K' hK => h' K' (fun a w hS hW => hK a w ⟨fun _ => hS, hW⟩))
end
theorem step_build0 {ops : Array Oper} {o : Oper} {a : Act} {W : World} {K : Act → World → Prop} {Q : Exit → Act → World → Prop} {F : Prop} (hg : o.guard = none) (hop : o.op = Op.buildSlice 25 0 #[])
    (hK : K (a.put o.dst (.slice (some ⟨W.heap.size, 0, none⟩) 0 0)) (W.alloc (.cells #[] 40))) : if Region.wanted o (yielded ops a.tmps) = true then Oper.wp Try.prog o a W K Q else F := by
  have hw : Region.wanted o (yielded ops a.tmps) = true := by simp [Region.wanted, hg]
  rw [if_pos hw]
  unfold Oper.wp execOp
  simp only [hop]
  go_simp
  exact hK
theorem step_build1T {ops : Array Oper} {o : Oper} {a : Act} {W : World} {K : Act → World → Prop} {Q : Exit → Act → World → Prop} {F : Prop} (hg : o.guard = none) (x : Operand) (hop : o.op = Op.buildSlice 25 1 #[(0, x)]) (s : ByteArray) (l : Bool) (b : Option Addr) (m c : Nat) (hx : a.eval x = .agg #[.string s, .bool l, .slice b m c])
    (hK : K (a.put o.dst (.slice (some ⟨W.heap.size, 0, none⟩) 1 1)) (W.alloc (.cells #[.string s, .bool l, .slice b m c] 40))) : if Region.wanted o (yielded ops a.tmps) = true then Oper.wp Try.prog o a W K Q else F := by
  have hw : Region.wanted o (yielded ops a.tmps) = true := by simp [Region.wanted, hg]
  rw [if_pos hw]
  unfold Oper.wp execOp
  simp only [hop, List.map_toArray, List.map_cons, List.map_nil, hx]
  go_simp
  exact hK
/-- a laid into the place i -/
def insF {β : Type} (f : Nat → β) (i : Nat) (a : β) : Nat → β := fun k => if k < i then f k else if k = i then a else f (k - 1)
theorem insF_lt {β : Type} (f : Nat → β) {i k : Nat} (a : β) (h : k < i) : insF f i a k = f k := if_pos h
theorem insF_at {β : Type} (f : Nat → β) (i : Nat) (a : β) : insF f i a i = a := by unfold insF; rw [if_neg (by omega), if_pos rfl]
theorem insF_gt {β : Type} (f : Nat → β) (i : Nat) (a : β) (k : Nat) : insF f i a (i + 1 + k) = f (i + k) := by
  unfold insF
  rw [if_neg (by omega), if_neg (by omega), show i + 1 + k - 1 = i + k by omega]
theorem insF_cat2 {β : Type} (f : Nat → β) (i : Nat) (a : β) (k : Nat) : cat2 (cat2 f i (fun _ => a)) (i + 1) (fun j => f (i + j)) k = insF f i a k := by
  by_cases c1 : k < i
  · rw [cat2_lt _ _ (by omega), cat2_lt _ _ c1, insF_lt f a c1]
  · by_cases c2 : k = i
    · subst c2
      have e := cat2_ge f k (fun _ => a) 0
      rw [Nat.add_zero] at e
      rw [cat2_lt _ _ (by omega), e, insF_at]
    · obtain ⟨j, rfl⟩ : ∃ j, k = i + 1 + j := ⟨k - (i + 1), by omega⟩
      rw [cat2_ge, insF_gt]
theorem catN_split {β : Type} (f : Nat → List β) (a : Nat) : ∀ b, catN (a + b) f = catN a f ++ catN b (fun k => f (a + k))
  | 0 => by simp [catN_zero]
  | b + 1 => by rw [← Nat.add_assoc, catN_succ, catN_split f a b, catN_succ, List.append_assoc]
theorem catN_insF {β : Type} (f : Nat → List β) {n i : Nat} (a : List β) (h : i ≤ n) : catN (n + 1) (insF f i a) = catN i f ++ (a ++ catN (n - i) (fun k => f (i + k))) := by
  have e : n + 1 = i + (1 + (n - i)) := by omega
  rw [e, catN_split, catN_split, catN_congr (g := f) (fun k hk => insF_lt f a hk)]
  congr 1
  have e1 : catN 1 (fun k => insF f i a (i + k)) = a := by
    rw [show (1 : Nat) = 0 + 1 from rfl, catN_succ, catN_zero, List.nil_append, Nat.add_zero, insF_at]
  rw [e1]
  congr 1
  exact catN_congr (fun k _ => by show insF f i a (i + (1 + k)) = _; rw [← Nat.add_assoc, insF_gt])
/-- a thing of its own laid into its place among owned ones -/
theorem own_ins {w w' : World} {n i : Nat} {x : Nat → ThingD} {ce : Nat → List Value} {Ls : Nat → List Nat} {v' : Value} {t : ThingD} {ct : List Value} {K : List Nat}
    (he : ∀ k, k < n → layThing.own w (x k) (ce k) (Ls k)) (nd : (catN n Ls).Nodup) (ht : layThing.own w' t ct K) (ndK : K.Nodup) (hK : ∀ b, b ∈ K → b ∉ catN n Ls) (hv : ∀ b, v'.ownBlock = some b → b ∉ catN n Ls ∧ b ∉ K)
    (hr : w'.ownsRow 0 40 3 v' (n + 1) (catN (n + 1) (insF ce i ct))) (hk : ∀ b, b ∈ catN n Ls → w'.heap[b]? = w.heap[b]?) (hi : i ≤ n) :
    (layThing.slice 40).own w' (n + 1, insF x i t) [v'] (v'.ownBlock.toList ++ catN (n + 1) (insF Ls i K)) ∧ (v'.ownBlock.toList ++ catN (n + 1) (insF Ls i K)).Nodup ∧ ∀ b, b ∈ catN (n + 1) (insF Ls i K) → b ∈ catN n Ls ∨ b ∈ K := by
  have key : ∀ k, k < n + 1 → (k < i) ∨ k = i ∨ ∃ j, k = i + 1 + j ∧ i + j < n := fun k hk => by
    by_cases c1 : k < i
    · exact .inl c1
    · by_cases c2 : k = i
      · exact .inr (.inl c2)
      · exact .inr (.inr ⟨k - (i + 1), by omega, by omega⟩)
  have mem : ∀ b, b ∈ catN (n + 1) (insF Ls i K) → b ∈ catN n Ls ∨ b ∈ K := fun b hb => by
    obtain ⟨k, hk1, hb⟩ := mem_catN.1 hb
    rcases key k hk1 with c | c | ⟨j, c, hj⟩
    · rw [insF_lt Ls K c] at hb
      exact .inl (mem_catN.2 ⟨k, by omega, hb⟩)
    · rw [c, insF_at] at hb
      exact .inr hb
    · rw [c, insF_gt] at hb
      exact .inl (mem_catN.2 ⟨i + j, hj, hb⟩)
  refine ⟨⟨v', insF ce i ct, insF Ls i K, rfl, rfl, hr, fun k hk1 => ?_⟩, ?_, mem⟩
  · show layThing.own w' (insF x i t k) (insF ce i ct k) (insF Ls i K k)
    rcases key k hk1 with c | c | ⟨j, c, hj⟩
    · rw [insF_lt x t c, insF_lt ce ct c, insF_lt Ls K c]
      exact layThing.own_kept (he k (by omega)) (fun b hb => hk b (mem_catN.2 ⟨k, by omega, hb⟩))
    · rw [c, insF_at, insF_at, insF_at]
      exact ht
    · rw [c, insF_gt, insF_gt, insF_gt]
      exact layThing.own_kept (he _ hj) (fun b hb => hk b (mem_catN.2 ⟨_, hj, hb⟩))
  · refine List.nodup_append.2 ⟨by cases v'.ownBlock <;> simp, catN_nodup (fun k hk1 => ?_) (fun k m hk1 hm hne b hb hb2 => ?_), fun a ha b hb hab => ?_⟩
    · rcases key k hk1 with c | c | ⟨j, c, hj⟩
      · rw [insF_lt Ls K c]; exact catN_each nd (by omega)
      · rw [c, insF_at]; exact ndK
      · rw [c, insF_gt]; exact catN_each nd hj
    · rcases key k hk1 with c | c | ⟨j, c, hj⟩ <;> rcases key m hm with c' | c' | ⟨j', c', hj'⟩
      · rw [insF_lt Ls K c] at hb; rw [insF_lt Ls K c'] at hb2
        exact cat_apart nd (i := m) (k := k) (by omega) (by omega) hne hb hb2
      · rw [insF_lt Ls K c] at hb; rw [c', insF_at] at hb2
        exact hK b hb2 (mem_catN.2 ⟨k, by omega, hb⟩)
      · rw [insF_lt Ls K c] at hb; rw [c', insF_gt] at hb2
        exact cat_apart nd (i := i + j') (k := k) hj' (by omega) (by omega) hb hb2
      · rw [c, insF_at] at hb; rw [insF_lt Ls K c'] at hb2
        exact hK b hb (mem_catN.2 ⟨m, by omega, hb2⟩)
      · omega
      · rw [c, insF_at] at hb; rw [c', insF_gt] at hb2
        exact hK b hb (mem_catN.2 ⟨_, hj', hb2⟩)
      · rw [c, insF_gt] at hb; rw [insF_lt Ls K c'] at hb2
        exact cat_apart nd (i := m) (k := i + j) (by omega) hj (by omega) hb hb2
      · rw [c, insF_gt] at hb; rw [c', insF_at] at hb2
        exact hK b hb2 (mem_catN.2 ⟨_, hj, hb⟩)
      · rw [c, insF_gt] at hb; rw [c', insF_gt] at hb2
        exact cat_apart nd (i := i + j') (k := i + j) hj' hj (by omega) hb hb2
    · subst hab
      have ha' : v'.ownBlock = some a := by simpa using ha
      rcases mem a hb with h1 | h1
      · exact (hv a ha').1 h1
      · exact (hv a ha').2 h1
/-- where a name is to stand -/
def leS (a b : ByteArray) : Bool := Op.bytesLess a.toList b.toList || a.toList == b.toList
structure AtP (n : Nat) (x : Nat → ThingD) (bn : ByteArray) (i : Nat) : Prop where
  le : i ≤ n
  ahead : ∀ t, t < i → leS (x t).name bn = true
  here : i < n → leS (x i).name bn = false
theorem at_ex (n : Nat) (x : Nat → ThingD) (bn : ByteArray) : ∃ i, AtP n x bn i := by
  induction n with
  | zero => exact ⟨0, by omega, fun t ht => by omega, fun h => by omega⟩
  | succ n ih =>
    obtain ⟨i, h⟩ := ih
    by_cases c : i < n
    · exact ⟨i, by omega, h.ahead, fun _ => h.here c⟩
    · obtain rfl : i = n := by have := h.le; omega
      cases hl : leS (x i).name bn with
      | false => exact ⟨i, by omega, h.ahead, fun _ => hl⟩
      | true => exact ⟨i + 1, by omega, fun t ht => by
          by_cases c : t = i
          · rw [c]; exact hl
          · exact h.ahead t (by omega), fun h => by omega⟩
theorem AtP.one {n : Nat} {x : Nat → ThingD} {bn : ByteArray} {i j : Nat} (h : AtP n x bn i) (g : AtP n x bn j) : i = j := by
  rcases Nat.lt_trichotomy i j with c | c | c
  · have h1 := h.here (by have := g.le; omega); have h2 := g.ahead i c; rw [h1] at h2; cases h2
  · exact c
  · have h1 := g.here (by have := h.le; omega); have h2 := h.ahead j c; rw [h1] at h2; cases h2
end Go.Proofs.Ytapnjoophlckoaa
