/- Owned memory changed in place: a cell of an element, a drive of a group; a world with a drive turned. -/
import Derived.Test.YtbmfndjglndnlaaGreatZwM
import Derived.Test.YtbmfndjglndnlaaGreatZwE
import Derived.Test.YtbmfndjglndnlaaGreatZwN
import Derived.Test.YtbmfndjglndnlaaGreatZwG
import Derived.Deep.DeepCutAuto
import Derived.Deep.RegionLaw
import Derived.Test.YtbmfndjglndnlaaGreatZwK
import Derived.Test.YtbmfndjglndnlaaGreatZwJ
import Derived.Test.YtbmfndjglndnlaaGreatRows
import Derived.Test.YtbmfndjglndnlaaGreatOpensW
import Derived.Test.YtbmfndjglndnlaaGreatZwB
import Derived.Test.YtbmfndjglndnlaaGreatZwC
namespace Go.Proofs.YtbmfndjglndnlaaGreat
open Go.RowKit F256
set_option linter.unusedVariables false
theorem Turn.trans {α β : Type} {A : Lay α} {B : Lay β} {w w1 w2 : World} {K K1 K2 : List Nat} {a : α} {b : β} {cs c2 : List Value} (h : Turn A w K w1 a cs K1) (k : Turn B w1 K1 w2 b c2 K2) : Turn B w K w2 b c2 K2 := by
  have z := h.chg.size
  refine ⟨k.own, k.nd, fun x hx => ?_, ?_⟩
  · rcases k.sub x hx with hx | hx
    · rcases h.sub x hx with hx | hx
      · exact .inl hx
      · exact .inr ⟨hx.1, by have := k.chg.size; omega⟩
    · exact .inr ⟨by omega, hx.2⟩
  · refine ⟨k.chg.os.trans h.chg.os, k.chg.tape.trans h.chg.tape, k.chg.output.trans h.chg.output, Nat.le_trans z k.chg.size, fun x hx hn => ?_⟩
    refine (k.chg.block x (by omega) (fun hx1 => ?_)).trans (h.chg.block x hx hn)
    rcases h.sub x hx1 with h2 | h2
    · exact hn h2
    · omega
section
variable {α : Type} {E : Lay α} {t : TypeId} {w w' : World} {g cap n : Nat} {x : Nat → α} {ce : Nat → List Value} {Ls : Nat → List Nat}
/-- the cell j of the element i is stored; what it holds came in w1 -/
theorem SlO.turn_cell {w1 : World} (h : SlO E t w g cap n x ce Ls) (nd : (g :: catN n Ls).Nodup) {i j : Nat} (hi : i < n) (hj : j < E.sz) {a' : α} (u : Value) {K' : List Nat} (ht : Turn E w (Ls i) w1 a' ((ce i).set j u) K') (hw : w' = w1.setCell ⟨g, i * E.sz + j, none⟩ u) :
    Turn (E.slice t) w (g :: catN n Ls) w' (n, upd x i a') [.slice (some ⟨g, 0, none⟩) n cap] (g :: catN n (upd Ls i K')) ∧ SlO E t w' g cap n (upd x i a') (upd ce i ((ce i).set j u)) (upd Ls i K') := by
  subst hw
  have hgi : g ∉ Ls i := fun hb => (List.nodup_cons.1 nd).1 (mem_catN.2 ⟨i, hi, hb⟩)
  have nd' := cat_swap (g := g) hi nd h.mem_lt ht.nd ht.sub
  have row1 : w1.ownsRow 0 t E.sz (.slice (some ⟨g, 0, none⟩) n cap) n (catN n ce) := by
    refine ⟨h.row.1, ?_⟩
    rcases h.row.2 with ⟨hn, _⟩ | ⟨g', cap', cur, he, hbg, hgg, rest⟩
    · cases hn
    · cases he
      exact .inr ⟨g, cap, cur, rfl, hbg, (ht.chg.block g h.lt hgi).trans hgg, rest⟩
  have hgK : ∀ b, b ∈ catN n (upd Ls i K') → b ≠ g := fun b hb hh => by
    subst hh
    exact (List.nodup_cons.1 nd').1 hb
  have hO : SlO E t (w1.setCell ⟨g, i * E.sz + j, none⟩ u) g cap n (upd x i a') (upd ce i ((ce i).set j u)) (upd Ls i K') := by
    refine ⟨?_, fun k hk => ?_⟩
    · have := (row1.stored (i * E.sz + j) u).1
      rw [catN_set h.lens hi hj] at this
      exact this
    · have own1 : E.own w1 (upd x i a' k) (upd ce i ((ce i).set j u) k) (upd Ls i K' k) := by
        by_cases c : k = i
        · subst c; rw [upd_at, upd_at, upd_at]; exact ht.own
        · rw [upd_ne x a' c, upd_ne ce _ c, upd_ne Ls K' c]
          exact E.own_chgL (h.each k hk) ht.chg (fun b hb => cat_apart (List.nodup_cons.1 nd).2 hi hk c hb)
      exact E.own_kept own1 (fun b hb => heap_setCell_other w1 _ b u (hgK b (mem_catN.2 ⟨k, hk, hb⟩)))
  have c1 : ChgL (g :: catN n Ls) w w1 := ht.chg.mono (SlO.sub i hi)
  exact ⟨⟨hO.own, nd', fun b hb => by simpa using cat_sub hi ht.sub b hb, c1.st g _ u (List.mem_cons_self ..)⟩, hO⟩
/-- as turn_at, the slice laid open behind it -/
theorem SlO.turn_at2 {w1 : World} (h : SlO E t w g cap n x ce Ls) (nd : (g :: catN n Ls).Nodup) {i : Nat} (hi : i < n) {a' : α} {cs' : List Value} {K' : List Nat} (ht : Turn E w (Ls i) w1 a' cs' K') (hw : w' = Go.Proofs.YtbmfndjglndnlaaGreat.stN w1 g (i * E.sz) cs') :
    Turn (E.slice t) w (g :: catN n Ls) w' (n, upd x i a') [.slice (some ⟨g, 0, none⟩) n cap] (g :: catN n (upd Ls i K')) ∧ SlO E t w' g cap n (upd x i a') (upd ce i cs') (upd Ls i K') := by
  have T := h.turn_at nd hi ht hw
  refine ⟨T, ?_⟩
  subst hw
  have hgi : g ∉ Ls i := fun hb => (List.nodup_cons.1 nd).1 (mem_catN.2 ⟨i, hi, hb⟩)
  have row1 : w1.ownsRow 0 t E.sz (.slice (some ⟨g, 0, none⟩) n cap) n (catN n ce) := by
    refine ⟨h.row.1, ?_⟩
    rcases h.row.2 with ⟨hn, _⟩ | ⟨g', cap', cur, he, hbg, hgg, rest⟩
    · cases hn
    · cases he
      exact .inr ⟨g, cap, cur, rfl, hbg, (ht.chg.block g h.lt hgi).trans hgg, rest⟩
  have hgK : ∀ b, b ∈ catN n (upd Ls i K') → b ≠ g := fun b hb hh => by
    subst hh
    exact (List.nodup_cons.1 T.nd).1 hb
  refine ⟨?_, fun k hk => ?_⟩
  · have := row_stN cs' w1 (i * E.sz) _ row1
    rw [catN_setL h.lens hi (E.own_len ht.own)] at this
    exact this
  · have own1 : E.own w1 (upd x i a' k) (upd ce i cs' k) (upd Ls i K' k) := by
      by_cases c : k = i
      · subst c; rw [upd_at, upd_at, upd_at]; exact ht.own
      · rw [upd_ne x a' c, upd_ne ce cs' c, upd_ne Ls K' c]
        exact E.own_chgL (h.each k hk) ht.chg (fun b hb => cat_apart (List.nodup_cons.1 nd).2 hi hk c hb)
    exact E.own_kept own1 (fun b hb => stN_heap g b (hgK b (mem_catN.2 ⟨k, hk, hb⟩)) cs' w1 _)
end
/-- the drives of a group of an open world: their slice laid open, and the way back -/
theorem WOpen.drives {w : World} {lo hi : Nat} {d : WorldD} {v1 v2 v3 : Value} {K1 K2 K3 : List Nat} (h : WOpen w lo hi d v1 v2 v3 K1 K2 K3) (hhi : hi ≤ w.heap.size) (hlo : lo ≤ w.heap.size) {G : Nat} (hG : G < d.groups.1) (hD : (d.groups.2 G).1 ≠ 0) :
    ∃ g1 c1 g cap ce Ls, v1 = .slice (some ⟨g1, 0, none⟩) d.groups.1 c1 ∧ w.cell? ⟨g1, G, none⟩ = some (.slice (some ⟨g, 0, none⟩) (d.groups.2 G).1 cap) ∧ SlO layDrive 84 w g cap (d.groups.2 G).1 (d.groups.2 G).2 ce Ls ∧ (g :: catN (d.groups.2 G).1 Ls).Nodup ∧ (∀ b, b ∈ g :: catN (d.groups.2 G).1 Ls → lo ≤ b ∧ b < hi) ∧ (lo ≤ g1 ∧ g1 < hi) ∧ g1 ∉ g :: catN (d.groups.2 G).1 Ls ∧
      ∀ (w' : World) (p : Nat × (Nat → DriveD)) (K' : List Nat), Turn (layDrive.slice 84) w (g :: catN (d.groups.2 G).1 Ls) w' p [.slice (some ⟨g, 0, none⟩) (d.groups.2 G).1 cap] K' → ∃ K1', WOpen w' lo w'.heap.size { d with groups := (d.groups.1, upd d.groups.2 G p) } v1 v2 v3 K1' K2 K3 := by
  obtain ⟨g1, c1, ce1, Ls1, e1, eL1, S1⟩ := slice_form h.g (by omega)
  cases e1
  subst eL1
  have nd1 : (g1 :: catN d.groups.1 Ls1).Nodup := (List.nodup_append.1 h.nd).1
  have in1 : ∀ b, b ∈ g1 :: catN d.groups.1 Ls1 → lo ≤ b ∧ b < hi := fun b hb => h.inn b (List.mem_append_left _ hb)
  obtain ⟨g, cap, ce, Ls, e2, eL2, S2⟩ := slice_form (S1.each G hG) hD
  have nd2 : (g :: catN (d.groups.2 G).1 Ls).Nodup := by rw [← eL2]; exact catN_each (List.nodup_cons.1 nd1).2 hG
  have sub2 : ∀ b, b ∈ g :: catN (d.groups.2 G).1 Ls → b ∈ g1 :: catN d.groups.1 Ls1 := fun b hb => SlO.sub G hG b (by rw [eL2]; exact hb)
  refine ⟨g1, c1, g, cap, ce, Ls, rfl, ?_, S2, nd2, fun b hb => in1 b (sub2 b hb), in1 g1 (List.mem_cons_self ..), fun hb => (List.nodup_cons.1 nd1).1 (mem_catN.2 ⟨G, hG, by rw [eL2]; exact hb⟩), fun w' p K' ht => ?_⟩
  · have := S1.cell hG (j := 0) (by decide)
    have e : G * (layDrive.slice 84).sz + 0 = G := by show G * 1 + 0 = G; omega
    rw [e, e2] at this
    exact this
  · rw [← eL2, ← e2] at ht
    have T1 := S1.turn_in nd1 hG ht
    exact ⟨_, h.groups hhi hlo T1⟩
end Go.Proofs.YtbmfndjglndnlaaGreat

namespace Go.Proofs.YtbmfndjglndnlaaGreat
open Go.RowKit F256
set_option linter.unusedVariables false
set_option linter.unusedSimpArgs false
def wipedD (R : Nat) : DriveD := ⟨true, (R, fun _ => blankB)⟩
def wipeDW (d : WorldD) (g k : Int) : WorldD := { d with groups := (d.groups.1, upd d.groups.2 g.toNat ((d.groups.2 g.toNat).1, upd (d.groups.2 g.toNat).2 k.toNat (wipedD (d.shape 4).toNat))) }
def WipeDAns (d : WorldD) (g k : Int) (r : WorldResultD) : Prop := (∃ x, x ≠ 0 ∧ WldAns d x ∧ r = ⟨x, zeroW⟩) ∨ (WldAns d 0 ∧ ((¬ DriveP d.shape g k ∧ r = ⟨3, zeroW⟩) ∨ (DriveP d.shape g k ∧ r = ⟨0, wipeDW d g k⟩)))
theorem WipeDAns.one {d : WorldD} {g k : Int} {r q : WorldResultD} (h : WipeDAns d g k r) (l : WipeDAns d g k q) : r = q := by
  rcases h with ⟨x, h1, h2, rfl⟩ | ⟨h1, h⟩ <;> rcases l with ⟨y, k1, k2, rfl⟩ | ⟨k1, l⟩
  · rw [h2.one k2]
  · exact absurd (h2.one k1) h1
  · exact absurd (k2.one h1) k1
  · rcases h with ⟨h2, rfl⟩ | ⟨h2, rfl⟩ <;> rcases l with ⟨k2, rfl⟩ | ⟨k2, rfl⟩
    · rfl
    · exact absurd k2 h2
    · exact absurd h2 k2
    · rfl
theorem upd_two {α : Type} (x : Nat → α) (k : Nat) (a b : α) : upd (upd x k a) k b = upd x k b := by
  funext i
  by_cases c : i = k
  · subst c; rw [upd_at, upd_at]
  · rw [upd_ne _ b c, upd_ne x a c, upd_ne x b c]
theorem place0 {s : Nat → Int} (h : OkShape s) (g k : Int) : PlaceP s g k 0 ↔ DriveP s g k := by
  have hb := okB h
  unfold PlaceP DriveP InP
  constructor
  · rintro ⟨h1, h2, _⟩; exact ⟨h1, h2⟩
  · rintro ⟨h1, h2⟩; exact ⟨h1, h2, by omega, by omega⟩
theorem drive_at {d : WorldD} (h : OkWorld d) {g k : Int} (hp : DriveP d.shape g k) : ∃ G K : Nat, g = G ∧ k = K ∧ G < d.groups.1 ∧ K < (d.groups.2 G).1 := by
  obtain ⟨hA, hB⟩ := hp
  have hf := h.form.1
  unfold InP at hA hB
  have hG : g.toNat < d.groups.1 := by have := hf.1; omega
  exact ⟨g.toNat, k.toNat, by omega, by omega, hG, by have := (hf.2 _ hG).1; omega⟩
theorem fresh_cells {w : World} {lo hi R : Nat} {cs : List Value} (h : OwnT layDrive w lo hi (freshD R) cs) : ∃ bo bc, cs = [.bool false, .slice bo R bc] := by
  obtain ⟨L, h1, _⟩ := h
  obtain ⟨ao, cap, K, e, _⟩ := Drive_own h1
  exact ⟨ao, cap, e⟩
theorem wiped_of {w : World} {lo hi R : Nat} {ao : Option Addr} {cap : Nat} (h : OwnT (layBlock.slice 46) w lo hi (R, fun _ => blankB) [.slice ao R cap]) : OwnT layDrive w lo hi (wipedD R) [.bool true, .slice ao R cap] :=
  OwnT.conv (OwnT.pre (A := layB) (a := true) (c := [.bool true]) ⟨rfl, trivial, rfl⟩ h)
end Go.Proofs.YtbmfndjglndnlaaGreat

namespace Go.Proofs.YtbmfndjglndnlaaGreat
open Go.RowKit F256
set_option linter.unusedVariables false
set_option linter.unusedSimpArgs false
theorem SlP.cellz {α : Type} {E : Lay α} {t : TypeId} {w w' : World} {lo g cap n k i : Nat} {x : Nat → α} {ce : Nat → List Value} {Ls : Nat → List Nat} {zs : List Value} (h : SlP E t w lo g cap n k x ce Ls) (hb : Below w.heap.size w w') (hi : i < n) {j : Nat} (hj : j < E.sz) (hz : ce i = zs) : w'.cell? ⟨g, i * E.sz + j, none⟩ = zs[j]? := by
  rw [← hz]
  exact (h.below hb).cell hi hj
theorem blank_of {w : World} {lo hi : Nat} {ao : Option Addr} {cap : Nat} (h : OwnT layBytes w lo hi (4, fun _ => 0) [.slice ao 4 cap]) : OwnT layBlock w lo hi blankB [.int .i64 0, .slice ao 4 cap] :=
  OwnT.conv (OwnT.pre (A := layI) (a := 0) (c := [.int .i64 0]) ⟨rfl, by omega, rfl⟩ h)
set_option maxHeartbeats 8000000 in
set_option maxRecDepth 20000 in
theorem emptyBlocks_any (R : Nat) (hR : R ≤ 1000) (w : World) : Calls Tryz.prog 69 #[.int .i64 R] w fun e w' => ∃ v, e = .returned v ∧ OwnT (layBlock.slice 46) w' w.heap.size w'.heap.size (R, fun _ => blankB) [v] ∧ Below w.heap.size w w' := by
  go_enter Tryz.func69, Tryz.ntmps69
  go_wp2_with (at_make; refine wp_makeT layBlock [.int .i64 0, .slice none 0 0] _ 46 32 el_Block.hs rfl Tryz.underlying82 el_Block.hi (fun _ => blankB) (fun _ => []) _ rfl _ _ rfl _ _ R rfl rfl rfl rfl (by omega) (by unfold maxLen; omega) ?_; intro w1 sp1 hb1)
  go_loopw [9] (fun i wr => ∃ k : Nat, k ≤ R ∧ i = .int .i64 k ∧ ∃ ce Ls, SlP layBlock 46 wr w.heap.size w.heap.size R R k (fun _ => blankB) ce Ls ∧ (∀ i, k ≤ i → ce i = [.int .i64 0, .slice none 0 0]) ∧ Below w.heap.size w wr) (fun i _ => R - (intOf i).toNat)
  case atStart => exact ⟨0, Nat.zero_le _, rfl, _, _, sp1, fun _ _ => rfl, hb1⟩
  case round =>
    clear sp1 hb1
    obtain ⟨k, hk, rfl, ce, Ls, sp, hce, hb⟩ := hrel
    obtain ⟨wo, rfl⟩ : ∃ x, x = wr := ⟨_, rfl⟩
    have HSP : Hid (SlP layBlock 46 wo w.heap.size w.heap.size R R k (fun _ => blankB) ce Ls) := sp
    have HCE : Hid (∀ i, k ≤ i → ce i = [.int .i64 0, .slice none 0 0]) := hce
    have HB : Hid (Below w.heap.size w wo) := hb
    have hz : w.heap.size ≤ wo.heap.size := hb.size
    clear sp hce hb
    by_cases hlt : k < R
    · go_wp2_with (at_make; refine wp_makeB _ rfl _ _ rfl _ _ 4 rfl rfl rfl rfl (by omega) ?_; intro w2 o2 b2 l2; have c1 : w2.cell? ⟨w.heap.size, k * 2 + 1, none⟩ = some (.slice none 0 0) := HSP.out.cellz b2 hlt (j := 1) (by decide) (HCE.out k (Nat.le_refl _)); have f1 : w2.frozen? ⟨w.heap.size, k * 2 + 1, none⟩ = false := (HSP.out.below b2).frozen _)
      obtain ⟨ce', Ls', sp3, h3⟩ := HSP.out.fill b2 hlt (j := 1) (by decide) (.slice (some ⟨wo.heap.size, 0, none⟩) 4 4) (a := blankB) (cs := [.int .i64 0, .slice (some ⟨wo.heap.size, 0, none⟩) 4 4]) (by rw [HCE.out k (Nat.le_refl _)]; rfl) (blank_of (ownB_T o2 (Nat.le_refl _) (fun _ => by decide))) hz
      go_roundw
      case rel => exact ⟨k + 1, by omega, by go_num, ce', Ls', sp3.congr (fun i _ => by rw [show upd (fun _ => blankB) k blankB = fun _ => blankB from upd_self (fun _ => blankB) k]), fun i hi => by rw [h3 i (by omega)]; exact HCE.out i (by omega), (HB.out.trans (b2.mono hz)).setCell (Nat.le_refl _) _⟩
      case measure => simp [intOf]; omega
    · obtain rfl : k = R := by omega
      go_wp2
      go_ret
      exact ⟨_, rfl, HSP.out.done (Nat.le_refl _), HB.out⟩
end Go.Proofs.YtbmfndjglndnlaaGreat

namespace Go.Proofs.YtbmfndjglndnlaaGreat
open Go.RowKit F256
set_option linter.unusedVariables false
set_option linter.unusedSimpArgs false
set_option maxHeartbeats 32000000 in
set_option maxRecDepth 20000 in
theorem specWipeD_any (d : WorldD) (g : Int) (k : Int) (cs : List Value) (hi : Nat) (w : World) (h : layWorld.rd w hi d cs) (hhi : hi ≤ w.heap.size) (hsz : szWorldD d ≤ 1048576) (hg : -9223372036854775808 ≤ g ∧ g ≤ 9223372036854775807) (hk : -9223372036854775808 ≤ k ∧ k ≤ 9223372036854775807) :
    Calls Tryz.prog 25 #[.agg cs.toArray, .int .i64 g, .int .i64 k] w (ResPost (WipeDAns d g k) w) := by
  have h' := h
  obtain ⟨ao1, cap1, ao2, cap2, ao3, cap3, rfl, g1, g2, g3, k0, k4, k5⟩ := World_rd h'
  have HRD : Hid (layWorld.rd w hi d [.int .i64 (d.shape 0), .int .i64 (d.shape 1), .int .i64 (d.shape 2), .int .i64 (d.shape 3), .int .i64 (d.shape 4), .int .i64 (d.shape 5), .int .i64 (d.shape 6), .int .i64 (d.shape 7), .int .i64 (d.shape 8), .slice ao1 d.groups.1 cap1, .slice ao2 d.on.1 cap2, .slice ao3 d.tapes.1 cap3, .int .i64 d.writes, .int .i64 d.stop, .bool d.down]) := h
  have HSZ : Hid (szWorldD d ≤ 1048576) := hsz
  have Hg : Hid (-9223372036854775808 ≤ g ∧ g ≤ 9223372036854775807) := hg
  have Hk : Hid (-9223372036854775808 ≤ k ∧ k ≤ 9223372036854775807) := hk
  clear h h' hsz g1 g2 g3 k0 k4 k5 hg hk
  have T0 := two_newb w #[.int .i64 (d.shape 0), .int .i64 (d.shape 1), .int .i64 (d.shape 2), .int .i64 (d.shape 3), .int .i64 (d.shape 4), .int .i64 (d.shape 5), .int .i64 (d.shape 6), .int .i64 (d.shape 7), .int .i64 (d.shape 8), .slice ao1 d.groups.1 cap1, .slice ao2 d.on.1 cap2, .slice ao3 d.tapes.1 cap3, .int .i64 d.writes, .int .i64 d.stop, .bool d.down] #[.int .i64 0, .int .i64 0, .int .i64 0, .int .i64 0, .int .i64 0, .int .i64 0, .int .i64 0, .int .i64 0, .int .i64 0, .int .i64 0, .slice none 0 0, .slice none 0 0, .slice none 0 0, .int .i64 0, .int .i64 0, .bool false] 34 36
  go_enter Tryz.func25, Tryz.ntmps25
  go_wp2_with (refine wp_loadBox 34 (.tmp 3) rfl rfl (w.heap.size) rfl (cs := [.int .i64 (d.shape 0), .int .i64 (d.shape 1), .int .i64 (d.shape 2), .int .i64 (d.shape 3), .int .i64 (d.shape 4), .int .i64 (d.shape 5), .int .i64 (d.shape 6), .int .i64 (d.shape 7), .int .i64 (d.shape 8), .slice ao1 d.groups.1 cap1, .slice ao2 d.on.1 cap2, .slice ao3 d.tapes.1 cap3, .int .i64 d.writes, .int .i64 d.stop, .bool d.down]) (T0.b1) Tryz.underlying34 size_W rfl ?_)
  refine (specWorld_any d _ hi _ (layWorld.rd_below HRD.out T0.bel hhi) (Nat.le_trans hhi T0.bel.size) (wld_ok_names HSZ.out)).mono ?_
  rintro e w1 ⟨x, rfl, hx, b1⟩
  have HT1 : Hid (Two w w1 #[.int .i64 (d.shape 0), .int .i64 (d.shape 1), .int .i64 (d.shape 2), .int .i64 (d.shape 3), .int .i64 (d.shape 4), .int .i64 (d.shape 5), .int .i64 (d.shape 6), .int .i64 (d.shape 7), .int .i64 (d.shape 8), .slice ao1 d.groups.1 cap1, .slice ao2 d.on.1 cap2, .slice ao3 d.tapes.1 cap3, .int .i64 d.writes, .int .i64 d.stop, .bool d.down] #[.int .i64 0, .int .i64 0, .int .i64 0, .int .i64 0, .int .i64 0, .int .i64 0, .int .i64 0, .int .i64 0, .int .i64 0, .int .i64 0, .slice none 0 0, .slice none 0 0, .slice none 0 0, .int .i64 0, .int .i64 0, .bool false] 34 36) := T0.call b1
  have HX : Hid (WldAns d x) := hx
  have z1 : w.heap.size + 1 < w1.heap.size := HT1.out.b2.lt
  clear b1 T0 hx
  by_cases hx0 : x = 0
  case neg =>
    have hne : (x != 0) = true := by simp [hx0]
    go_wp2_with (refine wp_storeBox 36 _ _ rfl rfl (w.heap.size + 1) rfl (cs := [.int .i64 x, .int .i64 0, .int .i64 0, .int .i64 0, .int .i64 0, .int .i64 0, .int .i64 0, .int .i64 0, .int .i64 0, .int .i64 0, .slice none 0 0, .slice none 0 0, .slice none 0 0, .int .i64 0, .int .i64 0, .bool false]) (old := [.int .i64 0, .int .i64 0, .int .i64 0, .int .i64 0, .int .i64 0, .int .i64 0, .int .i64 0, .int .i64 0, .int .i64 0, .int .i64 0, .slice none 0 0, .slice none 0 0, .slice none 0 0, .int .i64 0, .int .i64 0, .bool false]) rfl (HT1.out.b2) size_WR rfl rfl (code_one _ (wld_small HX.out) w) ?_; intro w9 X9 C9 z9)
    refine ret_box Tryz.results25 rfl X9 Tryz.underlying36 size_WR rfl rfl ?_
    exact post_code (wld_small HX.out) HT1.out.bel C9 (.inl ⟨x, hx0, HX.out, rfl⟩)
  subst hx0
  have HOK : Hid (OkWorld d) := WldAns.ok HX.out
  have x_0 : w1.cell? ⟨w.heap.size, 0, none⟩ = some (.int .i64 (d.shape 0)) := HT1.out.b1.cell 0
  have x_1 : w1.cell? ⟨w.heap.size, 1, none⟩ = some (.int .i64 (d.shape 1)) := HT1.out.b1.cell 1
  have x_2 : w1.cell? ⟨w.heap.size, 2, none⟩ = some (.int .i64 (d.shape 2)) := HT1.out.b1.cell 2
  have x_3 : w1.cell? ⟨w.heap.size, 3, none⟩ = some (.int .i64 (d.shape 3)) := HT1.out.b1.cell 3
  have x_4 : w1.cell? ⟨w.heap.size, 4, none⟩ = some (.int .i64 (d.shape 4)) := HT1.out.b1.cell 4
  have x_5 : w1.cell? ⟨w.heap.size, 5, none⟩ = some (.int .i64 (d.shape 5)) := HT1.out.b1.cell 5
  have x_6 : w1.cell? ⟨w.heap.size, 6, none⟩ = some (.int .i64 (d.shape 6)) := HT1.out.b1.cell 6
  have x_7 : w1.cell? ⟨w.heap.size, 7, none⟩ = some (.int .i64 (d.shape 7)) := HT1.out.b1.cell 7
  have x_8 : w1.cell? ⟨w.heap.size, 8, none⟩ = some (.int .i64 (d.shape 8)) := HT1.out.b1.cell 8
  have CP := fun w' => l5Place_any d.shape HOK.out.shape g k 0 w'
  unfold shapeV at CP
  go_wp2_with fail
  refine (CP _).mono ?_
  rintro e wA ⟨b, rfl, hb, bA⟩
  have HTA : Hid (Two w wA #[.int .i64 (d.shape 0), .int .i64 (d.shape 1), .int .i64 (d.shape 2), .int .i64 (d.shape 3), .int .i64 (d.shape 4), .int .i64 (d.shape 5), .int .i64 (d.shape 6), .int .i64 (d.shape 7), .int .i64 (d.shape 8), .slice ao1 d.groups.1 cap1, .slice ao2 d.on.1 cap2, .slice ao3 d.tapes.1 cap3, .int .i64 d.writes, .int .i64 d.stop, .bool d.down] #[.int .i64 0, .int .i64 0, .int .i64 0, .int .i64 0, .int .i64 0, .int .i64 0, .int .i64 0, .int .i64 0, .int .i64 0, .int .i64 0, .slice none 0 0, .slice none 0 0, .slice none 0 0, .int .i64 0, .int .i64 0, .bool false] 34 36) := HT1.out.call bA
  have zA : w1.heap.size ≤ wA.heap.size := bA.size
  have Hb : Hid (b = true ↔ PlaceP d.shape g k 0) := hb
  clear bA CP hb x_0 x_1 x_2 x_3 x_4 x_5 x_6 x_7 x_8
  cases b with
  | false =>
    go_wp2_with (refine wp_storeBox 36 _ _ rfl rfl (w.heap.size + 1) rfl (cs := [.int .i64 3, .int .i64 0, .int .i64 0, .int .i64 0, .int .i64 0, .int .i64 0, .int .i64 0, .int .i64 0, .int .i64 0, .int .i64 0, .slice none 0 0, .slice none 0 0, .slice none 0 0, .int .i64 0, .int .i64 0, .bool false]) (old := [.int .i64 0, .int .i64 0, .int .i64 0, .int .i64 0, .int .i64 0, .int .i64 0, .int .i64 0, .int .i64 0, .int .i64 0, .int .i64 0, .slice none 0 0, .slice none 0 0, .slice none 0 0, .int .i64 0, .int .i64 0, .bool false]) rfl (HTA.out.b2) size_WR rfl rfl (code_one _ (by decide) w) ?_; intro w9 X9 C9 z9)
    refine ret_box Tryz.results25 rfl X9 Tryz.underlying36 size_WR rfl rfl ?_
    exact post_code (by decide) HTA.out.bel C9 (.inr ⟨HX.out, .inl ⟨fun h => (by have := Hb.out.2 ((place0 HOK.out.shape g k).2 h); cases this), rfl⟩⟩)
  | true =>
  have HD : Hid (DriveP d.shape g k) := (place0 HOK.out.shape g k).1 (Hb.out.1 (by simp))
  go_wp2_with (refine wp_loadBox 34 (.tmp 3) rfl rfl (w.heap.size) rfl (cs := [.int .i64 (d.shape 0), .int .i64 (d.shape 1), .int .i64 (d.shape 2), .int .i64 (d.shape 3), .int .i64 (d.shape 4), .int .i64 (d.shape 5), .int .i64 (d.shape 6), .int .i64 (d.shape 7), .int .i64 (d.shape 8), .slice ao1 d.groups.1 cap1, .slice ao2 d.on.1 cap2, .slice ao3 d.tapes.1 cap3, .int .i64 d.writes, .int .i64 d.stop, .bool d.down]) (HTA.out.b1) Tryz.underlying34 size_W rfl ?_)
  refine (l5Copy_is _ d hi _ (layWorld.rd_below HRD.out HTA.out.bel hhi) (Nat.le_trans hhi HTA.out.bel.size) HSZ.out).mono ?_
  rintro e w2 ⟨c2, rfl, o2, b2⟩
  obtain ⟨p1, c1, p2, c2, p3, c3, K1, K2, K3, rfl, WO2⟩ := world_open o2
  have z2 : wA.heap.size ≤ w2.heap.size := b2.size
  go_upto_region 7 with (refine wp_allocStore 34 8 (.tmp 23) [.int .i64 (d.shape 0), .int .i64 (d.shape 1), .int .i64 (d.shape 2), .int .i64 (d.shape 3), .int .i64 (d.shape 4), .int .i64 (d.shape 5), .int .i64 (d.shape 6), .int .i64 (d.shape 7), .int .i64 (d.shape 8), .slice p1 d.groups.1 c1, .slice p2 d.on.1 c2, .slice p3 d.tapes.1 c3, .int .i64 d.writes, .int .i64 d.stop, .bool d.down] _ 15 rfl rfl rfl rfl rfl rfl rfl rfl info_W rfl rfl o2.one ?_)
  have bA : Below w2.heap.size w2 (w2.alloc (.cells #[.int .i64 (d.shape 0), .int .i64 (d.shape 1), .int .i64 (d.shape 2), .int .i64 (d.shape 3), .int .i64 (d.shape 4), .int .i64 (d.shape 5), .int .i64 (d.shape 6), .int .i64 (d.shape 7), .int .i64 (d.shape 8), .slice p1 d.groups.1 c1, .slice p2 d.on.1 c2, .slice p3 d.tapes.1 c3, .int .i64 d.writes, .int .i64 d.stop, .bool d.down] 34)) := (Below.refl _ _).alloc (Nat.le_refl _) _
  have X3 : Box (w2.alloc (.cells #[.int .i64 (d.shape 0), .int .i64 (d.shape 1), .int .i64 (d.shape 2), .int .i64 (d.shape 3), .int .i64 (d.shape 4), .int .i64 (d.shape 5), .int .i64 (d.shape 6), .int .i64 (d.shape 7), .int .i64 (d.shape 8), .slice p1 d.groups.1 c1, .slice p2 d.on.1 c2, .slice p3 d.tapes.1 c3, .int .i64 d.writes, .int .i64 d.stop, .bool d.down] 34)) w2.heap.size #[.int .i64 (d.shape 0), .int .i64 (d.shape 1), .int .i64 (d.shape 2), .int .i64 (d.shape 3), .int .i64 (d.shape 4), .int .i64 (d.shape 5), .int .i64 (d.shape 6), .int .i64 (d.shape 7), .int .i64 (d.shape 8), .slice p1 d.groups.1 c1, .slice p2 d.on.1 c2, .slice p3 d.tapes.1 c3, .int .i64 d.writes, .int .i64 d.stop, .bool d.down] 34 := box_new _ _ _
  obtain ⟨W3, hW3⟩ : ∃ x, x = w2.alloc (.cells #[.int .i64 (d.shape 0), .int .i64 (d.shape 1), .int .i64 (d.shape 2), .int .i64 (d.shape 3), .int .i64 (d.shape 4), .int .i64 (d.shape 5), .int .i64 (d.shape 6), .int .i64 (d.shape 7), .int .i64 (d.shape 8), .slice p1 d.groups.1 c1, .slice p2 d.on.1 c2, .slice p3 d.tapes.1 c3, .int .i64 d.writes, .int .i64 d.stop, .bool d.down] 34) := ⟨_, rfl⟩
  rw [← hW3] at bA X3 ⊢
  have T3 := (HTA.out.call b2).call bA
  have WO := WO2.below bA (Nat.le_refl _)
  have z3 : w2.heap.size < W3.heap.size := X3.lt
  clear bA hW3 o2 b2 WO2
  obtain ⟨G, K, rfl, rfl, hG, hK⟩ := drive_at HOK.out HD.out
  obtain ⟨g1, cc1, gg, cap, ce, Ls, e1, c0, S2, nd2, in2, in1, ng1, back⟩ := WO.drives (by omega) (by omega) hG (by omega)
  simp only [Value.slice.injEq, true_and] at e1
  obtain ⟨rfl, rfl⟩ := e1
  obtain ⟨ao9, cap9, K9, e9, -, -⟩ := Drive_own (S2.each K hK)
  have y0 : W3.cell? ⟨gg, K * 2, none⟩ = some (.bool ((d.groups.2 G).2 K).wiped) := (S2.cell hK (j := 0) (by decide)).trans (by rw [e9]; rfl)
  have y1 : W3.cell? ⟨gg, K * 2 + 1, none⟩ = some (.slice ao9 ((d.groups.2 G).2 K).blocks.1 cap9) := (S2.cell hK (j := 1) (by decide)).trans (by rw [e9]; rfl)
  have hgg := in2 gg (List.mem_cons_self ..)
  have xg : W3.cell? ⟨w2.heap.size, 9, none⟩ = some (.slice (some ⟨g1, 0, none⟩) d.groups.1 c1) := X3.cell 9
  have x_0 : W3.cell? ⟨w.heap.size, 0, none⟩ = some (.int .i64 (d.shape 0)) := T3.b1.cell 0
  have x_1 : W3.cell? ⟨w.heap.size, 1, none⟩ = some (.int .i64 (d.shape 1)) := T3.b1.cell 1
  have x_2 : W3.cell? ⟨w.heap.size, 2, none⟩ = some (.int .i64 (d.shape 2)) := T3.b1.cell 2
  have x_3 : W3.cell? ⟨w.heap.size, 3, none⟩ = some (.int .i64 (d.shape 3)) := T3.b1.cell 3
  have x_4 : W3.cell? ⟨w.heap.size, 4, none⟩ = some (.int .i64 (d.shape 4)) := T3.b1.cell 4
  have x_5 : W3.cell? ⟨w.heap.size, 5, none⟩ = some (.int .i64 (d.shape 5)) := T3.b1.cell 5
  have x_6 : W3.cell? ⟨w.heap.size, 6, none⟩ = some (.int .i64 (d.shape 6)) := T3.b1.cell 6
  have x_7 : W3.cell? ⟨w.heap.size, 7, none⟩ = some (.int .i64 (d.shape 7)) := T3.b1.cell 7
  have x_8 : W3.cell? ⟨w.heap.size, 8, none⟩ = some (.int .i64 (d.shape 8)) := T3.b1.cell 8
  have i1 : (0 : Int) ≤ (G : Int) := by omega
  have i2 : (G : Int) < (d.groups.1 : Int) := by omega
  have i3 : (0 : Int) ≤ (K : Int) := by omega
  have i4 : (K : Int) < ((d.groups.2 G).1 : Int) := by omega
  have KS : ∀ w', Below W3.heap.size W3 w' → (w'.cell? ⟨w2.heap.size, 9, none⟩ = some (.slice (some ⟨g1, 0, none⟩) d.groups.1 c1) ∧ w'.cell? ⟨g1, G, none⟩ = some (.slice (some ⟨gg, 0, none⟩) (d.groups.2 G).1 cap) ∧ w'.cell? ⟨w.heap.size, 0, none⟩ = some (.int .i64 (d.shape 0)) ∧ w'.cell? ⟨w.heap.size, 1, none⟩ = some (.int .i64 (d.shape 1)) ∧ w'.cell? ⟨w.heap.size, 2, none⟩ = some (.int .i64 (d.shape 2)) ∧ w'.cell? ⟨w.heap.size, 3, none⟩ = some (.int .i64 (d.shape 3)) ∧ w'.cell? ⟨w.heap.size, 4, none⟩ = some (.int .i64 (d.shape 4)) ∧ w'.cell? ⟨w.heap.size, 5, none⟩ = some (.int .i64 (d.shape 5)) ∧ w'.cell? ⟨w.heap.size, 6, none⟩ = some (.int .i64 (d.shape 6)) ∧ w'.cell? ⟨w.heap.size, 7, none⟩ = some (.int .i64 (d.shape 7)) ∧ w'.cell? ⟨w.heap.size, 8, none⟩ = some (.int .i64 (d.shape 8))) := fun w' hb => ⟨(hb.cell (p := ⟨w2.heap.size, 9, none⟩) z3).trans xg, (hb.cell (p := ⟨g1, G, none⟩) (by show g1 < W3.heap.size; omega)).trans c0, (hb.cell (p := ⟨w.heap.size, 0, none⟩) (by show w.heap.size < W3.heap.size; omega)).trans x_0, (hb.cell (p := ⟨w.heap.size, 1, none⟩) (by show w.heap.size < W3.heap.size; omega)).trans x_1, (hb.cell (p := ⟨w.heap.size, 2, none⟩) (by show w.heap.size < W3.heap.size; omega)).trans x_2, (hb.cell (p := ⟨w.heap.size, 3, none⟩) (by show w.heap.size < W3.heap.size; omega)).trans x_3, (hb.cell (p := ⟨w.heap.size, 4, none⟩) (by show w.heap.size < W3.heap.size; omega)).trans x_4, (hb.cell (p := ⟨w.heap.size, 5, none⟩) (by show w.heap.size < W3.heap.size; omega)).trans x_5, (hb.cell (p := ⟨w.heap.size, 6, none⟩) (by show w.heap.size < W3.heap.size; omega)).trans x_6, (hb.cell (p := ⟨w.heap.size, 7, none⟩) (by show w.heap.size < W3.heap.size; omega)).trans x_7, (hb.cell (p := ⟨w.heap.size, 8, none⟩) (by show w.heap.size < W3.heap.size; omega)).trans x_8⟩
  obtain ⟨R, hR⟩ : ∃ R, R = (d.shape 4).toNat := ⟨_, rfl⟩
  have CC := (l5Fresh_any d.shape HOK.out.shape W3.drew).mono (R' := fun e w' => ∃ bo bc, e = .returned (.agg #[.bool false, .slice bo R bc]) ∧ OwnT layDrive w' W3.drew.heap.size w'.heap.size (freshD R) [.bool false, .slice bo R bc] ∧ Below W3.drew.heap.size W3.drew w') (fun e w' ⟨cs, he, o5, b5⟩ => by
    rw [← hR] at o5
    obtain ⟨bo, bc, rfl⟩ := fresh_cells o5
    exact ⟨bo, bc, he, o5, b5⟩)
  unfold shapeV at CC
  have HR : Hid (R = (d.shape 4).toNat) := hR
  clear hR
  refine wp_region_L 10 (fun w' => w'.cell? ⟨w2.heap.size, 9, none⟩ = some (.slice (some ⟨g1, 0, none⟩) d.groups.1 c1) ∧ w'.cell? ⟨g1, G, none⟩ = some (.slice (some ⟨gg, 0, none⟩) (d.groups.2 G).1 cap) ∧ w'.cell? ⟨w.heap.size, 0, none⟩ = some (.int .i64 (d.shape 0)) ∧ w'.cell? ⟨w.heap.size, 1, none⟩ = some (.int .i64 (d.shape 1)) ∧ w'.cell? ⟨w.heap.size, 2, none⟩ = some (.int .i64 (d.shape 2)) ∧ w'.cell? ⟨w.heap.size, 3, none⟩ = some (.int .i64 (d.shape 3)) ∧ w'.cell? ⟨w.heap.size, 4, none⟩ = some (.int .i64 (d.shape 4)) ∧ w'.cell? ⟨w.heap.size, 5, none⟩ = some (.int .i64 (d.shape 5)) ∧ w'.cell? ⟨w.heap.size, 6, none⟩ = some (.int .i64 (d.shape 6)) ∧ w'.cell? ⟨w.heap.size, 7, none⟩ = some (.int .i64 (d.shape 7)) ∧ w'.cell? ⟨w.heap.size, 8, none⟩ = some (.int .i64 (d.shape 8))) (by kernel_rfl) (KS _ ⟨rfl, rfl, rfl, Nat.le_refl _, fun _ _ => rfl⟩) (fun hHeld => ?_)
  refine wpAnyL_take (i := 0) (oi := _) (v := ?_) 16 rfl (by kernel_rfl) (fun _ _ _ h => h) (Or.inl ⟨by rfl, ?_⟩) (by assumption) ?_
  rotate_left
  · intro w' hSw
    try dsimp only at hSw
    obtain ⟨hq0, hq1, hq2, hq3, hq4, hq5, hq6, hq7, hq8, hq9, hq10⟩ := hSw
    go_simp
    try with_reducible rfl
  try simp only [Act.put, List.setIfInBounds_toArray, List.set_cons_zero, List.set_cons_succ]
  refine wpAnyL_take (i := 1) (oi := _) (v := ?_) 16 rfl (by kernel_rfl) (fun _ _ _ h => h) (Or.inl ⟨by rfl, ?_⟩) (by assumption) ?_
  rotate_left
  · intro w' hSw
    try dsimp only at hSw
    obtain ⟨hq0, hq1, hq2, hq3, hq4, hq5, hq6, hq7, hq8, hq9, hq10⟩ := hSw
    go_simp
    try with_reducible rfl
  try simp only [Act.put, List.setIfInBounds_toArray, List.set_cons_zero, List.set_cons_succ]
  refine wpAnyL_take (i := 2) (oi := _) (v := ?_) 16 rfl (by kernel_rfl) (fun _ _ _ h => h) (Or.inl ⟨by rfl, ?_⟩) (by assumption) ?_
  rotate_left
  · intro w' hSw
    try dsimp only at hSw
    obtain ⟨hq0, hq1, hq2, hq3, hq4, hq5, hq6, hq7, hq8, hq9, hq10⟩ := hSw
    go_simp
    try with_reducible rfl
  try simp only [Act.put, List.setIfInBounds_toArray, List.set_cons_zero, List.set_cons_succ]
  refine wpAnyL_take (i := 3) (oi := _) (v := ?_) 16 rfl (by kernel_rfl) (fun _ _ _ h => h) (Or.inl ⟨by rfl, ?_⟩) (by assumption) ?_
  rotate_left
  · intro w' hSw
    try dsimp only at hSw
    obtain ⟨hq0, hq1, hq2, hq3, hq4, hq5, hq6, hq7, hq8, hq9, hq10⟩ := hSw
    go_simp
    try with_reducible rfl
  try simp only [Act.put, List.setIfInBounds_toArray, List.set_cons_zero, List.set_cons_succ]
  refine wpAnyL_take (i := 4) (oi := _) (v := ?_) 16 rfl (by kernel_rfl) (fun _ _ _ h => h) (Or.inl ⟨by rfl, ?_⟩) (by assumption) ?_
  rotate_left
  · intro w' hSw
    try dsimp only at hSw
    obtain ⟨hq0, hq1, hq2, hq3, hq4, hq5, hq6, hq7, hq8, hq9, hq10⟩ := hSw
    go_simp
    try with_reducible rfl
  try simp only [Act.put, List.setIfInBounds_toArray, List.set_cons_zero, List.set_cons_succ]
  refine wpAnyL_take (i := 5) (oi := _) (v := ?_) 16 rfl (by kernel_rfl) (fun _ _ _ h => h) (Or.inl ⟨by rfl, ?_⟩) (by assumption) ?_
  rotate_left
  · intro w' hSw
    try dsimp only at hSw
    obtain ⟨hq0, hq1, hq2, hq3, hq4, hq5, hq6, hq7, hq8, hq9, hq10⟩ := hSw
    go_simp
    try with_reducible rfl
  try simp only [Act.put, List.setIfInBounds_toArray, List.set_cons_zero, List.set_cons_succ]
  refine wpAnyL_take (i := 6) (oi := _) (v := ?_) 16 rfl (by kernel_rfl) (fun _ _ _ h => h) (Or.inl ⟨by rfl, ?_⟩) (by assumption) ?_
  rotate_left
  · intro w' hSw
    try dsimp only at hSw
    obtain ⟨hq0, hq1, hq2, hq3, hq4, hq5, hq6, hq7, hq8, hq9, hq10⟩ := hSw
    go_simp
    try with_reducible rfl
  try simp only [Act.put, List.setIfInBounds_toArray, List.set_cons_zero, List.set_cons_succ]
  refine wpAnyL_take (i := 7) (oi := _) (v := ?_) 16 rfl (by kernel_rfl) (fun _ _ _ h => h) (Or.inl ⟨by rfl, ?_⟩) (by assumption) ?_
  rotate_left
  · intro w' hSw
    try dsimp only at hSw
    obtain ⟨hq0, hq1, hq2, hq3, hq4, hq5, hq6, hq7, hq8, hq9, hq10⟩ := hSw
    go_simp
    try with_reducible rfl
  try simp only [Act.put, List.setIfInBounds_toArray, List.set_cons_zero, List.set_cons_succ]
  refine wpAnyL_one (i := 8) (o := _) rfl (by kernel_rfl) (fun KC hKC => ?_)
  refine step_call rfl 67 _ _ rfl #[.agg #[.int .i64 (d.shape 0), .int .i64 (d.shape 1), .int .i64 (d.shape 2), .int .i64 (d.shape 3), .int .i64 (d.shape 4), .int .i64 (d.shape 5), .int .i64 (d.shape 6), .int .i64 (d.shape 7), .int .i64 (d.shape 8)]] ?_ Tryz.func67 (by kernel_rfl) (by kernel_rfl) CC ?_; (simp [Act.eval, Act.put]); rintro ee w5 ⟨bo, bc, rfl, o5, b5'⟩; have b5w : Below W3.heap.size W3 w5 := ⟨b5'.os, b5'.tape, b5'.output, b5'.size, b5'.block⟩; have q0 : w5.cell? ⟨gg, K * 2, none⟩ = some (.bool ((d.groups.2 G).2 K).wiped) := (b5w.cell (p := ⟨gg, K * 2, none⟩) (by show gg < W3.heap.size; omega)).trans y0; have q1 : w5.cell? ⟨gg, K * 2 + 1, none⟩ = some (.slice ao9 ((d.groups.2 G).2 K).blocks.1 cap9) := (b5w.cell (p := ⟨gg, K * 2 + 1, none⟩) (by show gg < W3.heap.size; omega)).trans y1; have S5 := S2.kept (w' := w5) (fun b hb => b5w.block b (by have := in2 b hb; omega)); have f0 : w5.frozen? ⟨gg, K * 2, none⟩ = false := S5.frozen _; have f1 : w5.frozen? ⟨gg, K * 2 + 1, none⟩ = false := S5.frozen _; refine ⟨_, rfl, ?_⟩
  refine hKC.out _ _ (KS _ b5w) (fun hHeld => ?_)
  clear hKC KC
  try simp only [Act.put, List.setIfInBounds_toArray, List.set_cons_zero, List.set_cons_succ]
  refine wpAnyL_take (i := 9) (oi := _) (v := ?_) 16 rfl (by kernel_rfl) (fun _ _ _ h => h) (Or.inl ⟨by rfl, ?_⟩) (by assumption) ?_
  rotate_left
  · intro w' hSw
    try dsimp only at hSw
    obtain ⟨hq0, hq1, hq2, hq3, hq4, hq5, hq6, hq7, hq8, hq9, hq10⟩ := hSw
    go_simp
    try with_reducible rfl
  try simp only [Act.put, List.setIfInBounds_toArray, List.set_cons_zero, List.set_cons_succ]
  refine wpAnyL_last (o := _) rfl (by kernel_rfl) (fun KC hKC => ?_)
  go_simp
  refine hKC.out _ _ ?_
  clear hKC KC
  try simp only [Act.put, List.setIfInBounds_toArray, List.set_cons_zero, List.set_cons_succ]
  refine wpAnyL_done (by kernel_rfl) ?_ _
  obtain ⟨K', TF⟩ := Turn.fresh (K := Ls K) (w := W3) o5 (Nat.le_refl _) (ChgL.of_below b5w)
  obtain ⟨T6, S6⟩ := S2.turn_at2 nd2 hK TF (w' := stN w5 gg (K * layDrive.sz) [.bool false, .slice bo R bc]) rfl
  have e6 : upd ce K [.bool false, .slice bo R bc] K = [.bool false, .slice bo R bc] := upd_at ..
  have h0 : (stN w5 gg (K * layDrive.sz) [.bool false, .slice bo R bc]).cell? ⟨gg, K * 2, none⟩ = some (.bool false) := (S6.cell hK (j := 0) (by decide)).trans (by rw [e6]; rfl)
  have h0f : (stN w5 gg (K * layDrive.sz) [.bool false, .slice bo R bc]).frozen? ⟨gg, K * 2, none⟩ = false := S6.frozen _
  have TK : Turn layDrive (stN w5 gg (K * layDrive.sz) [.bool false, .slice bo R bc]) (upd Ls K K' K) (stN w5 gg (K * layDrive.sz) [.bool false, .slice bo R bc]) (wipedD R) ((upd ce K [.bool false, .slice bo R bc] K).set 0 (.bool true)) K' := by
    rw [e6, upd_at]
    have h6 := S6.each K hK
    rw [e6, upd_at, upd_at] at h6
    obtain ⟨ao, cp, KK, ee, rfl, h7⟩ := Drive_own h6
    simp only [List.cons.injEq, Value.slice.injEq, and_true, true_and] at ee
    obtain ⟨-, rfl, -, rfl⟩ := ee
    exact ⟨Drive_mk (wipedD R) h7, TF.nd, fun b hb => .inl hb, ChgL.refl _ _⟩
  obtain ⟨T7, -⟩ := S6.turn_cell T6.nd hK (j := 0) (by decide) (.bool true) TK (w' := (stN w5 gg (K * layDrive.sz) [.bool false, .slice bo R bc]).setCell ⟨gg, K * layDrive.sz + 0, none⟩ (.bool true)) rfl
  rw [upd_two] at T7
  have TT := T6.trans T7
  have xg6 : (stN w5 gg (K * layDrive.sz) [.bool false, .slice bo R bc]).cell? ⟨w2.heap.size, 9, none⟩ = some (.slice (some ⟨g1, 0, none⟩) d.groups.1 c1) := (X3.chgl T6.chg (fun hb => by have := in2 _ hb; omega)).cell 9
  have c06 : (stN w5 gg (K * layDrive.sz) [.bool false, .slice bo R bc]).cell? ⟨g1, G, none⟩ = some (.slice (some ⟨gg, 0, none⟩) (d.groups.2 G).1 cap) := (World.cell?_of_block (T6.chg.block g1 (by omega) ng1)).trans c0
  clear T6 T7 TK S6 e6 TF
  obtain ⟨K1', WO7⟩ := back _ _ _ TT
  have X7 := X3.chgl TT.chg (fun hb => by have := in2 _ hb; omega)
  have T7 := T3.chgK TT.chg (fun b hb => by have := in2 _ hb; omega)
  have O7 : OwnT layWorld ((stN w5 gg (K * layDrive.sz) [.bool false, .slice bo R bc]).setCell ⟨gg, K * layDrive.sz + 0, none⟩ (.bool true)) wA.heap.size ((stN w5 gg (K * layDrive.sz) [.bool false, .slice bo R bc]).setCell ⟨gg, K * layDrive.sz + 0, none⟩ (.bool true)).heap.size (wipeDW d G K) [.int .i64 (d.shape 0), .int .i64 (d.shape 1), .int .i64 (d.shape 2), .int .i64 (d.shape 3), .int .i64 (d.shape 4), .int .i64 (d.shape 5), .int .i64 (d.shape 6), .int .i64 (d.shape 7), .int .i64 (d.shape 8), .slice (some ⟨g1, 0, none⟩) d.groups.1 c1, .slice p2 d.on.1 c2, .slice p3 d.tapes.1 c3, .int .i64 d.writes, .int .i64 d.stop, .bool d.down] := by
    have e : wipeDW d G K = { d with groups := (d.groups.1, upd d.groups.2 G ((d.groups.2 G).1, upd (d.groups.2 G).2 K (wipedD R))) } := by rw [HR.out]; rfl
    rw [e]
    exact WO7.own
  clear WO7 TT back WO S2 nd2 e9 X3 T3 KS hHeld
  obtain ⟨W6, hW6⟩ : ∃ x, x = stN w5 gg (K * layDrive.sz) [.bool false, .slice bo R bc] := ⟨_, rfl⟩
  rw [← hW6] at h0 h0f xg6 c06 X7 T7 O7
  go_upto_region 8 with fail
  change Code.wp Tryz.prog _ _ _ (stN w5 gg (K * layDrive.sz) [.bool false, .slice bo R bc])
  rw [← hW6]
  have z6 : W6.heap.size = w5.heap.size := by rw [hW6]; simp [stN_size]
  clear hW6
  go_upto_region 9 with fail
  obtain ⟨W7, hW7⟩ : ∃ x, x = W6.setCell ⟨gg, K * layDrive.sz + 0, none⟩ (.bool true) := ⟨_, rfl⟩
  change Code.wp Tryz.prog _ _ _ (W6.setCell ⟨gg, K * layDrive.sz + 0, none⟩ (.bool true))
  have z7 : W7.heap.size = w5.heap.size := by rw [hW7]; simp [z6]
  rw [← hW7] at X7 T7 O7 ⊢
  have z5 := b5w.size
  clear hW7
  go_wp2_with (first | (refine wp_loadBox 34 (.tmp 8) rfl rfl (w2.heap.size) rfl (cs := [.int .i64 (d.shape 0), .int .i64 (d.shape 1), .int .i64 (d.shape 2), .int .i64 (d.shape 3), .int .i64 (d.shape 4), .int .i64 (d.shape 5), .int .i64 (d.shape 6), .int .i64 (d.shape 7), .int .i64 (d.shape 8), .slice (some ⟨g1, 0, none⟩) d.groups.1 c1, .slice p2 d.on.1 c2, .slice p3 d.tapes.1 c3, .int .i64 d.writes, .int .i64 d.stop, .bool d.down]) (X7) Tryz.underlying34 size_W rfl ?_) | (refine wp_storeBox 36 _ _ rfl rfl (w.heap.size + 1) rfl (cs := [.int .i64 0, .int .i64 (d.shape 0), .int .i64 (d.shape 1), .int .i64 (d.shape 2), .int .i64 (d.shape 3), .int .i64 (d.shape 4), .int .i64 (d.shape 5), .int .i64 (d.shape 6), .int .i64 (d.shape 7), .int .i64 (d.shape 8), .slice (some ⟨g1, 0, none⟩) d.groups.1 c1, .slice p2 d.on.1 c2, .slice p3 d.tapes.1 c3, .int .i64 d.writes, .int .i64 d.stop, .bool d.down]) (old := [.int .i64 0, .int .i64 0, .int .i64 0, .int .i64 0, .int .i64 0, .int .i64 0, .int .i64 0, .int .i64 0, .int .i64 0, .int .i64 0, .slice none 0 0, .slice none 0 0, .slice none 0 0, .int .i64 0, .int .i64 0, .bool false]) rfl (T7.b2) size_WR rfl rfl ((own_resOf 0 (by decide) O7).one) ?_; intro w9 X9 C9 z9))
  refine ret_box Tryz.results25 rfl X9 Tryz.underlying36 size_WR rfl rfl ?_
  exact post_world (by decide) T7.bel C9 O7 (by omega) (by omega) (.inr ⟨HX.out, .inr ⟨HD.out, rfl⟩⟩)
end Go.Proofs.YtbmfndjglndnlaaGreat

namespace Go.Proofs.YtbmfndjglndnlaaGreat
open Go.RowKit F256
set_option linter.unusedVariables false
set_option linter.unusedSimpArgs false
set_option maxHeartbeats 32000000 in
set_option maxRecDepth 20000 in
theorem implWipeD_any (d : WorldD) (g : Int) (k : Int) (cs : List Value) (hi : Nat) (w : World) (h : layWorld.rd w hi d cs) (hhi : hi ≤ w.heap.size) (hsz : szWorldD d ≤ 1048576) (hg : -9223372036854775808 ≤ g ∧ g ≤ 9223372036854775807) (hk : -9223372036854775808 ≤ k ∧ k ≤ 9223372036854775807) :
    Calls Tryz.prog 26 #[.agg cs.toArray, .int .i64 g, .int .i64 k] w (ResPost (WipeDAns d g k) w) := by
  have h' := h
  obtain ⟨ao1, cap1, ao2, cap2, ao3, cap3, rfl, g1, g2, g3, k0, k4, k5⟩ := World_rd h'
  have HRD : Hid (layWorld.rd w hi d [.int .i64 (d.shape 0), .int .i64 (d.shape 1), .int .i64 (d.shape 2), .int .i64 (d.shape 3), .int .i64 (d.shape 4), .int .i64 (d.shape 5), .int .i64 (d.shape 6), .int .i64 (d.shape 7), .int .i64 (d.shape 8), .slice ao1 d.groups.1 cap1, .slice ao2 d.on.1 cap2, .slice ao3 d.tapes.1 cap3, .int .i64 d.writes, .int .i64 d.stop, .bool d.down]) := h
  have HSZ : Hid (szWorldD d ≤ 1048576) := hsz
  have Hg : Hid (-9223372036854775808 ≤ g ∧ g ≤ 9223372036854775807) := hg
  have Hk : Hid (-9223372036854775808 ≤ k ∧ k ≤ 9223372036854775807) := hk
  clear h h' hsz g1 g2 g3 k0 k4 k5 hg hk
  have T0 := two_newb w #[.int .i64 (d.shape 0), .int .i64 (d.shape 1), .int .i64 (d.shape 2), .int .i64 (d.shape 3), .int .i64 (d.shape 4), .int .i64 (d.shape 5), .int .i64 (d.shape 6), .int .i64 (d.shape 7), .int .i64 (d.shape 8), .slice ao1 d.groups.1 cap1, .slice ao2 d.on.1 cap2, .slice ao3 d.tapes.1 cap3, .int .i64 d.writes, .int .i64 d.stop, .bool d.down] #[.int .i64 0, .int .i64 0, .int .i64 0, .int .i64 0, .int .i64 0, .int .i64 0, .int .i64 0, .int .i64 0, .int .i64 0, .int .i64 0, .slice none 0 0, .slice none 0 0, .slice none 0 0, .int .i64 0, .int .i64 0, .bool false] 34 36
  go_enter Tryz.func26, Tryz.ntmps26
  go_wp2_with (refine wp_loadBox 34 (.tmp 3) rfl rfl (w.heap.size) rfl (cs := [.int .i64 (d.shape 0), .int .i64 (d.shape 1), .int .i64 (d.shape 2), .int .i64 (d.shape 3), .int .i64 (d.shape 4), .int .i64 (d.shape 5), .int .i64 (d.shape 6), .int .i64 (d.shape 7), .int .i64 (d.shape 8), .slice ao1 d.groups.1 cap1, .slice ao2 d.on.1 cap2, .slice ao3 d.tapes.1 cap3, .int .i64 d.writes, .int .i64 d.stop, .bool d.down]) (T0.b1) Tryz.underlying34 size_W rfl ?_)
  refine (implWorld_any d _ hi _ (layWorld.rd_below HRD.out T0.bel hhi) (Nat.le_trans hhi T0.bel.size) (wld_ok_names HSZ.out)).mono ?_
  rintro e w1 ⟨x, rfl, hx, b1⟩
  have HT1 : Hid (Two w w1 #[.int .i64 (d.shape 0), .int .i64 (d.shape 1), .int .i64 (d.shape 2), .int .i64 (d.shape 3), .int .i64 (d.shape 4), .int .i64 (d.shape 5), .int .i64 (d.shape 6), .int .i64 (d.shape 7), .int .i64 (d.shape 8), .slice ao1 d.groups.1 cap1, .slice ao2 d.on.1 cap2, .slice ao3 d.tapes.1 cap3, .int .i64 d.writes, .int .i64 d.stop, .bool d.down] #[.int .i64 0, .int .i64 0, .int .i64 0, .int .i64 0, .int .i64 0, .int .i64 0, .int .i64 0, .int .i64 0, .int .i64 0, .int .i64 0, .slice none 0 0, .slice none 0 0, .slice none 0 0, .int .i64 0, .int .i64 0, .bool false] 34 36) := T0.call b1
  have HX : Hid (WldAns d x) := hx
  have z1 : w.heap.size + 1 < w1.heap.size := HT1.out.b2.lt
  clear b1 T0 hx
  by_cases hx0 : x = 0
  case neg =>
    have hne : (x != 0) = true := by simp [hx0]
    go_wp2_with (refine wp_storeBox 36 _ _ rfl rfl (w.heap.size + 1) rfl (cs := [.int .i64 x, .int .i64 0, .int .i64 0, .int .i64 0, .int .i64 0, .int .i64 0, .int .i64 0, .int .i64 0, .int .i64 0, .int .i64 0, .slice none 0 0, .slice none 0 0, .slice none 0 0, .int .i64 0, .int .i64 0, .bool false]) (old := [.int .i64 0, .int .i64 0, .int .i64 0, .int .i64 0, .int .i64 0, .int .i64 0, .int .i64 0, .int .i64 0, .int .i64 0, .int .i64 0, .slice none 0 0, .slice none 0 0, .slice none 0 0, .int .i64 0, .int .i64 0, .bool false]) rfl (HT1.out.b2) size_WR rfl rfl (code_one _ (wld_small HX.out) w) ?_; intro w9 X9 C9 z9)
    refine ret_box Tryz.results26 rfl X9 Tryz.underlying36 size_WR rfl rfl ?_
    exact post_code (wld_small HX.out) HT1.out.bel C9 (.inl ⟨x, hx0, HX.out, rfl⟩)
  subst hx0
  have HOK : Hid (OkWorld d) := WldAns.ok HX.out
  have x_0 : w1.cell? ⟨w.heap.size, 0, none⟩ = some (.int .i64 (d.shape 0)) := HT1.out.b1.cell 0
  have x_1 : w1.cell? ⟨w.heap.size, 1, none⟩ = some (.int .i64 (d.shape 1)) := HT1.out.b1.cell 1
  have x_2 : w1.cell? ⟨w.heap.size, 2, none⟩ = some (.int .i64 (d.shape 2)) := HT1.out.b1.cell 2
  have x_3 : w1.cell? ⟨w.heap.size, 3, none⟩ = some (.int .i64 (d.shape 3)) := HT1.out.b1.cell 3
  have x_4 : w1.cell? ⟨w.heap.size, 4, none⟩ = some (.int .i64 (d.shape 4)) := HT1.out.b1.cell 4
  have x_5 : w1.cell? ⟨w.heap.size, 5, none⟩ = some (.int .i64 (d.shape 5)) := HT1.out.b1.cell 5
  have x_6 : w1.cell? ⟨w.heap.size, 6, none⟩ = some (.int .i64 (d.shape 6)) := HT1.out.b1.cell 6
  have x_7 : w1.cell? ⟨w.heap.size, 7, none⟩ = some (.int .i64 (d.shape 7)) := HT1.out.b1.cell 7
  have x_8 : w1.cell? ⟨w.heap.size, 8, none⟩ = some (.int .i64 (d.shape 8)) := HT1.out.b1.cell 8
  have CP := fun w' => isDrive_any d.shape HOK.out.shape g k w'
  unfold shapeV at CP
  go_wp2_with fail
  refine (CP _).mono ?_
  rintro e wA ⟨b, rfl, hb, bA⟩
  have HTA : Hid (Two w wA #[.int .i64 (d.shape 0), .int .i64 (d.shape 1), .int .i64 (d.shape 2), .int .i64 (d.shape 3), .int .i64 (d.shape 4), .int .i64 (d.shape 5), .int .i64 (d.shape 6), .int .i64 (d.shape 7), .int .i64 (d.shape 8), .slice ao1 d.groups.1 cap1, .slice ao2 d.on.1 cap2, .slice ao3 d.tapes.1 cap3, .int .i64 d.writes, .int .i64 d.stop, .bool d.down] #[.int .i64 0, .int .i64 0, .int .i64 0, .int .i64 0, .int .i64 0, .int .i64 0, .int .i64 0, .int .i64 0, .int .i64 0, .int .i64 0, .slice none 0 0, .slice none 0 0, .slice none 0 0, .int .i64 0, .int .i64 0, .bool false] 34 36) := HT1.out.call bA
  have zA : w1.heap.size ≤ wA.heap.size := bA.size
  have Hb : Hid (b = true ↔ DriveP d.shape g k) := hb
  clear bA CP hb x_0 x_1 x_2 x_3 x_4 x_5 x_6 x_7 x_8
  cases b with
  | false =>
    go_wp2_with (refine wp_storeBox 36 _ _ rfl rfl (w.heap.size + 1) rfl (cs := [.int .i64 3, .int .i64 0, .int .i64 0, .int .i64 0, .int .i64 0, .int .i64 0, .int .i64 0, .int .i64 0, .int .i64 0, .int .i64 0, .slice none 0 0, .slice none 0 0, .slice none 0 0, .int .i64 0, .int .i64 0, .bool false]) (old := [.int .i64 0, .int .i64 0, .int .i64 0, .int .i64 0, .int .i64 0, .int .i64 0, .int .i64 0, .int .i64 0, .int .i64 0, .int .i64 0, .slice none 0 0, .slice none 0 0, .slice none 0 0, .int .i64 0, .int .i64 0, .bool false]) rfl (HTA.out.b2) size_WR rfl rfl (code_one _ (by decide) w) ?_; intro w9 X9 C9 z9)
    refine ret_box Tryz.results26 rfl X9 Tryz.underlying36 size_WR rfl rfl ?_
    exact post_code (by decide) HTA.out.bel C9 (.inr ⟨HX.out, .inl ⟨fun h => (by have := Hb.out.2 h; cases this), rfl⟩⟩)
  | true =>
  have HD : Hid (DriveP d.shape g k) := Hb.out.1 (by simp)
  go_wp2_with (refine wp_loadBox 34 (.tmp 3) rfl rfl (w.heap.size) rfl (cs := [.int .i64 (d.shape 0), .int .i64 (d.shape 1), .int .i64 (d.shape 2), .int .i64 (d.shape 3), .int .i64 (d.shape 4), .int .i64 (d.shape 5), .int .i64 (d.shape 6), .int .i64 (d.shape 7), .int .i64 (d.shape 8), .slice ao1 d.groups.1 cap1, .slice ao2 d.on.1 cap2, .slice ao3 d.tapes.1 cap3, .int .i64 d.writes, .int .i64 d.stop, .bool d.down]) (HTA.out.b1) Tryz.underlying34 size_W rfl ?_)
  refine (copyWorld_is _ d hi _ (layWorld.rd_below HRD.out HTA.out.bel hhi) (Nat.le_trans hhi HTA.out.bel.size) HSZ.out).mono ?_
  rintro e w2 ⟨c2, rfl, o2, b2⟩
  obtain ⟨p1, c1, p2, c2, p3, c3, K1, K2, K3, rfl, WO2⟩ := world_open o2
  have z2 : wA.heap.size ≤ w2.heap.size := b2.size
  go_upto_region 7 with (refine wp_allocStore 34 8 (.tmp 23) [.int .i64 (d.shape 0), .int .i64 (d.shape 1), .int .i64 (d.shape 2), .int .i64 (d.shape 3), .int .i64 (d.shape 4), .int .i64 (d.shape 5), .int .i64 (d.shape 6), .int .i64 (d.shape 7), .int .i64 (d.shape 8), .slice p1 d.groups.1 c1, .slice p2 d.on.1 c2, .slice p3 d.tapes.1 c3, .int .i64 d.writes, .int .i64 d.stop, .bool d.down] _ 15 rfl rfl rfl rfl rfl rfl rfl rfl info_W rfl rfl o2.one ?_)
  have bA : Below w2.heap.size w2 (w2.alloc (.cells #[.int .i64 (d.shape 0), .int .i64 (d.shape 1), .int .i64 (d.shape 2), .int .i64 (d.shape 3), .int .i64 (d.shape 4), .int .i64 (d.shape 5), .int .i64 (d.shape 6), .int .i64 (d.shape 7), .int .i64 (d.shape 8), .slice p1 d.groups.1 c1, .slice p2 d.on.1 c2, .slice p3 d.tapes.1 c3, .int .i64 d.writes, .int .i64 d.stop, .bool d.down] 34)) := (Below.refl _ _).alloc (Nat.le_refl _) _
  have X3 : Box (w2.alloc (.cells #[.int .i64 (d.shape 0), .int .i64 (d.shape 1), .int .i64 (d.shape 2), .int .i64 (d.shape 3), .int .i64 (d.shape 4), .int .i64 (d.shape 5), .int .i64 (d.shape 6), .int .i64 (d.shape 7), .int .i64 (d.shape 8), .slice p1 d.groups.1 c1, .slice p2 d.on.1 c2, .slice p3 d.tapes.1 c3, .int .i64 d.writes, .int .i64 d.stop, .bool d.down] 34)) w2.heap.size #[.int .i64 (d.shape 0), .int .i64 (d.shape 1), .int .i64 (d.shape 2), .int .i64 (d.shape 3), .int .i64 (d.shape 4), .int .i64 (d.shape 5), .int .i64 (d.shape 6), .int .i64 (d.shape 7), .int .i64 (d.shape 8), .slice p1 d.groups.1 c1, .slice p2 d.on.1 c2, .slice p3 d.tapes.1 c3, .int .i64 d.writes, .int .i64 d.stop, .bool d.down] 34 := box_new _ _ _
  obtain ⟨W3, hW3⟩ : ∃ x, x = w2.alloc (.cells #[.int .i64 (d.shape 0), .int .i64 (d.shape 1), .int .i64 (d.shape 2), .int .i64 (d.shape 3), .int .i64 (d.shape 4), .int .i64 (d.shape 5), .int .i64 (d.shape 6), .int .i64 (d.shape 7), .int .i64 (d.shape 8), .slice p1 d.groups.1 c1, .slice p2 d.on.1 c2, .slice p3 d.tapes.1 c3, .int .i64 d.writes, .int .i64 d.stop, .bool d.down] 34) := ⟨_, rfl⟩
  rw [← hW3] at bA X3 ⊢
  have T3 := (HTA.out.call b2).call bA
  have WO := WO2.below bA (Nat.le_refl _)
  have z3 : w2.heap.size < W3.heap.size := X3.lt
  clear bA hW3 o2 b2 WO2
  obtain ⟨G, K, rfl, rfl, hG, hK⟩ := drive_at HOK.out HD.out
  obtain ⟨g1, cc1, gg, cap, ce, Ls, e1, c0, S2, nd2, in2, in1, ng1, back⟩ := WO.drives (by omega) (by omega) hG (by omega)
  simp only [Value.slice.injEq, true_and] at e1
  obtain ⟨rfl, rfl⟩ := e1
  obtain ⟨ao9, cap9, K9, e9, -, -⟩ := Drive_own (S2.each K hK)
  have y0 : W3.cell? ⟨gg, K * 2, none⟩ = some (.bool ((d.groups.2 G).2 K).wiped) := (S2.cell hK (j := 0) (by decide)).trans (by rw [e9]; rfl)
  have y1 : W3.cell? ⟨gg, K * 2 + 1, none⟩ = some (.slice ao9 ((d.groups.2 G).2 K).blocks.1 cap9) := (S2.cell hK (j := 1) (by decide)).trans (by rw [e9]; rfl)
  have hgg := in2 gg (List.mem_cons_self ..)
  have xg : W3.cell? ⟨w2.heap.size, 9, none⟩ = some (.slice (some ⟨g1, 0, none⟩) d.groups.1 c1) := X3.cell 9
  have x_4 : W3.cell? ⟨w.heap.size, 4, none⟩ = some (.int .i64 (d.shape 4)) := T3.b1.cell 4
  have i1 : (0 : Int) ≤ (G : Int) := by omega
  have i2 : (G : Int) < (d.groups.1 : Int) := by omega
  have i3 : (0 : Int) ≤ (K : Int) := by omega
  have i4 : (K : Int) < ((d.groups.2 G).1 : Int) := by omega
  have KS : ∀ w', Below W3.heap.size W3 w' → (w'.cell? ⟨w2.heap.size, 9, none⟩ = some (.slice (some ⟨g1, 0, none⟩) d.groups.1 c1) ∧ w'.cell? ⟨g1, G, none⟩ = some (.slice (some ⟨gg, 0, none⟩) (d.groups.2 G).1 cap) ∧ w'.cell? ⟨w.heap.size, 4, none⟩ = some (.int .i64 (d.shape 4))) := fun w' hb => ⟨(hb.cell (p := ⟨w2.heap.size, 9, none⟩) z3).trans xg, (hb.cell (p := ⟨g1, G, none⟩) (by show g1 < W3.heap.size; omega)).trans c0, (hb.cell (p := ⟨w.heap.size, 4, none⟩) (by show w.heap.size < W3.heap.size; omega)).trans x_4⟩
  obtain ⟨R, hR⟩ : ∃ R, R = (d.shape 4).toNat := ⟨_, rfl⟩
  have hr4 : d.shape 4 = (R : Int) := by have := okB HOK.out.shape; omega
  have CC := (emptyBlocks_any R (by have := okB HOK.out.shape; omega) W3.drew).mono (R' := fun e w' => ∃ bo bc, e = .returned (.slice bo R bc) ∧ OwnT (layBlock.slice 46) w' W3.drew.heap.size w'.heap.size (R, fun _ => blankB) [.slice bo R bc] ∧ Below W3.drew.heap.size W3.drew w') (fun e w' ⟨v, he, o5, b5⟩ => by
    obtain ⟨bo, bc, hv⟩ := sl_formT o5
    obtain rfl := one_eq hv
    exact ⟨bo, bc, he, o5, b5⟩)
  rw [← hr4] at CC
  have HR : Hid (R = (d.shape 4).toNat) := hR
  clear hR hr4
  refine wp_region_L 12 (fun w' => w'.cell? ⟨w2.heap.size, 9, none⟩ = some (.slice (some ⟨g1, 0, none⟩) d.groups.1 c1) ∧ w'.cell? ⟨g1, G, none⟩ = some (.slice (some ⟨gg, 0, none⟩) (d.groups.2 G).1 cap) ∧ w'.cell? ⟨w.heap.size, 4, none⟩ = some (.int .i64 (d.shape 4))) (by kernel_rfl) (KS _ ⟨rfl, rfl, rfl, Nat.le_refl _, fun _ _ => rfl⟩) (fun hHeld => ?_)
  refine wpAnyL_take (i := 0) (oi := _) (v := ?_) 16 rfl (by kernel_rfl) (fun _ _ _ h => h) (Or.inl ⟨by rfl, ?_⟩) (by assumption) ?_
  rotate_left
  · intro w' hSw
    try dsimp only at hSw
    obtain ⟨hq0, hq1, hq2⟩ := hSw
    go_simp
    try with_reducible rfl
  try simp only [Act.put, List.setIfInBounds_toArray, List.set_cons_zero, List.set_cons_succ]
  refine wpAnyL_take (i := 1) (oi := _) (v := ?_) 16 rfl (by kernel_rfl) (fun _ _ _ h => h) (Or.inl ⟨by rfl, ?_⟩) (by assumption) ?_
  rotate_left
  · intro w' hSw
    try dsimp only at hSw
    obtain ⟨hq0, hq1, hq2⟩ := hSw
    go_simp
    try with_reducible rfl
  try simp only [Act.put, List.setIfInBounds_toArray, List.set_cons_zero, List.set_cons_succ]
  refine wpAnyL_take (i := 2) (oi := _) (v := ?_) 16 rfl (by kernel_rfl) (fun _ _ _ h => h) (Or.inl ⟨by rfl, ?_⟩) (by assumption) ?_
  rotate_left
  · intro w' hSw
    try dsimp only at hSw
    obtain ⟨hq0, hq1, hq2⟩ := hSw
    go_simp
    try with_reducible rfl
  try simp only [Act.put, List.setIfInBounds_toArray, List.set_cons_zero, List.set_cons_succ]
  refine wpAnyL_take (i := 3) (oi := _) (v := ?_) 16 rfl (by kernel_rfl) (fun _ _ _ h => h) (Or.inl ⟨by rfl, ?_⟩) (by assumption) ?_
  rotate_left
  · intro w' hSw
    try dsimp only at hSw
    obtain ⟨hq0, hq1, hq2⟩ := hSw
    go_simp
    try with_reducible rfl
  try simp only [Act.put, List.setIfInBounds_toArray, List.set_cons_zero, List.set_cons_succ]
  refine wpAnyL_take (i := 4) (oi := _) (v := ?_) 16 rfl (by kernel_rfl) (fun _ _ _ h => h) (Or.inl ⟨by rfl, ?_⟩) (by assumption) ?_
  rotate_left
  · intro w' hSw
    try dsimp only at hSw
    obtain ⟨hq0, hq1, hq2⟩ := hSw
    go_simp
    try with_reducible rfl
  try simp only [Act.put, List.setIfInBounds_toArray, List.set_cons_zero, List.set_cons_succ]
  refine wpAnyL_take (i := 5) (oi := _) (v := ?_) 16 rfl (by kernel_rfl) (fun _ _ _ h => h) (Or.inl ⟨by rfl, ?_⟩) (by assumption) ?_
  rotate_left
  · intro w' hSw
    try dsimp only at hSw
    obtain ⟨hq0, hq1, hq2⟩ := hSw
    go_simp
    try with_reducible rfl
  try simp only [Act.put, List.setIfInBounds_toArray, List.set_cons_zero, List.set_cons_succ]
  refine wpAnyL_take (i := 6) (oi := _) (v := ?_) 16 rfl (by kernel_rfl) (fun _ _ _ h => h) (Or.inl ⟨by rfl, ?_⟩) (by assumption) ?_
  rotate_left
  · intro w' hSw
    try dsimp only at hSw
    obtain ⟨hq0, hq1, hq2⟩ := hSw
    go_simp
    try with_reducible rfl
  try simp only [Act.put, List.setIfInBounds_toArray, List.set_cons_zero, List.set_cons_succ]
  refine wpAnyL_take (i := 7) (oi := _) (v := ?_) 16 rfl (by kernel_rfl) (fun _ _ _ h => h) (Or.inl ⟨by rfl, ?_⟩) (by assumption) ?_
  rotate_left
  · intro w' hSw
    try dsimp only at hSw
    obtain ⟨hq0, hq1, hq2⟩ := hSw
    go_simp
    try with_reducible rfl
  try simp only [Act.put, List.setIfInBounds_toArray, List.set_cons_zero, List.set_cons_succ]
  refine wpAnyL_take (i := 8) (oi := _) (v := ?_) 16 rfl (by kernel_rfl) (fun _ _ _ h => h) (Or.inl ⟨by rfl, ?_⟩) (by assumption) ?_
  rotate_left
  · intro w' hSw
    try dsimp only at hSw
    obtain ⟨hq0, hq1, hq2⟩ := hSw
    go_simp
    try with_reducible rfl
  try simp only [Act.put, List.setIfInBounds_toArray, List.set_cons_zero, List.set_cons_succ]
  refine wpAnyL_one (i := 9) (o := _) rfl (by kernel_rfl) (fun KC hKC => ?_)
  refine step_call rfl 69 _ _ rfl #[.int .i64 (d.shape 4)] ?_ Tryz.func69 (by kernel_rfl) (by kernel_rfl) CC ?_; (simp [Act.eval, Act.put]); rintro ee w5 ⟨bo, bc, rfl, o5, b5'⟩; have b5w : Below W3.heap.size W3 w5 := ⟨b5'.os, b5'.tape, b5'.output, b5'.size, b5'.block⟩; have q0 : w5.cell? ⟨gg, K * 2, none⟩ = some (.bool ((d.groups.2 G).2 K).wiped) := (b5w.cell (p := ⟨gg, K * 2, none⟩) (by show gg < W3.heap.size; omega)).trans y0; have q1 : w5.cell? ⟨gg, K * 2 + 1, none⟩ = some (.slice ao9 ((d.groups.2 G).2 K).blocks.1 cap9) := (b5w.cell (p := ⟨gg, K * 2 + 1, none⟩) (by show gg < W3.heap.size; omega)).trans y1; have S5 := S2.kept (w' := w5) (fun b hb => b5w.block b (by have := in2 b hb; omega)); have f0 : w5.frozen? ⟨gg, K * 2, none⟩ = false := S5.frozen _; have f1 : w5.frozen? ⟨gg, K * 2 + 1, none⟩ = false := S5.frozen _; refine ⟨_, rfl, ?_⟩
  refine hKC.out _ _ (KS _ b5w) (fun hHeld => ?_)
  clear hKC KC
  try simp only [Act.put, List.setIfInBounds_toArray, List.set_cons_zero, List.set_cons_succ]
  refine wpAnyL_take (i := 10) (oi := _) (v := ?_) 16 rfl (by kernel_rfl) (fun _ _ _ h => h) (Or.inl ⟨by rfl, ?_⟩) (by assumption) ?_
  rotate_left
  · intro w' hSw
    try dsimp only at hSw
    obtain ⟨hq0, hq1, hq2⟩ := hSw
    go_simp
    try with_reducible rfl
  try simp only [Act.put, List.setIfInBounds_toArray, List.set_cons_zero, List.set_cons_succ]
  refine wpAnyL_take (i := 11) (oi := _) (v := ?_) 16 rfl (by kernel_rfl) (fun _ _ _ h => h) (Or.inl ⟨by rfl, ?_⟩) (by assumption) ?_
  rotate_left
  · intro w' hSw
    try dsimp only at hSw
    obtain ⟨hq0, hq1, hq2⟩ := hSw
    go_simp
    try with_reducible rfl
  try simp only [Act.put, List.setIfInBounds_toArray, List.set_cons_zero, List.set_cons_succ]
  refine wpAnyL_last (o := _) rfl (by kernel_rfl) (fun KC hKC => ?_)
  go_simp
  refine hKC.out _ _ ?_
  clear hKC KC
  try simp only [Act.put, List.setIfInBounds_toArray, List.set_cons_zero, List.set_cons_succ]
  refine wpAnyL_done (by kernel_rfl) ?_ _
  obtain ⟨K', TF⟩ := Turn.fresh (K := Ls K) (w := W3) (wiped_of o5) (Nat.le_refl _) (ChgL.of_below b5w)
  obtain ⟨T6, S6⟩ := S2.turn_at2 nd2 hK TF (w' := stN w5 gg (K * layDrive.sz) [.bool true, .slice bo R bc]) rfl
  have TT := T6
  clear T6 S6 TF
  obtain ⟨K1', WO7⟩ := back _ _ _ TT
  have X7 := X3.chgl TT.chg (fun hb => by have := in2 _ hb; omega)
  have T7 := T3.chgK TT.chg (fun b hb => by have := in2 _ hb; omega)
  have O7 : OwnT layWorld (stN w5 gg (K * layDrive.sz) [.bool true, .slice bo R bc]) wA.heap.size (stN w5 gg (K * layDrive.sz) [.bool true, .slice bo R bc]).heap.size (wipeDW d G K) [.int .i64 (d.shape 0), .int .i64 (d.shape 1), .int .i64 (d.shape 2), .int .i64 (d.shape 3), .int .i64 (d.shape 4), .int .i64 (d.shape 5), .int .i64 (d.shape 6), .int .i64 (d.shape 7), .int .i64 (d.shape 8), .slice (some ⟨g1, 0, none⟩) d.groups.1 c1, .slice p2 d.on.1 c2, .slice p3 d.tapes.1 c3, .int .i64 d.writes, .int .i64 d.stop, .bool d.down] := by
    have e : wipeDW d G K = { d with groups := (d.groups.1, upd d.groups.2 G ((d.groups.2 G).1, upd (d.groups.2 G).2 K (wipedD R))) } := by rw [HR.out]; rfl
    rw [e]
    exact WO7.own
  clear WO7 TT back WO S2 nd2 e9 X3 T3 KS hHeld
  obtain ⟨W7, hW7⟩ : ∃ x, x = stN w5 gg (K * layDrive.sz) [.bool true, .slice bo R bc] := ⟨_, rfl⟩
  go_upto_region 8 with fail
  change Code.wp Tryz.prog _ _ _ (stN w5 gg (K * layDrive.sz) [.bool true, .slice bo R bc])
  have z7 : W7.heap.size = w5.heap.size := by rw [hW7]; simp [stN_size]
  rw [← hW7] at X7 T7 O7 ⊢
  have z5 := b5w.size
  clear hW7
  go_wp2_with (first | (refine wp_loadBox 34 (.tmp 8) rfl rfl (w2.heap.size) rfl (cs := [.int .i64 (d.shape 0), .int .i64 (d.shape 1), .int .i64 (d.shape 2), .int .i64 (d.shape 3), .int .i64 (d.shape 4), .int .i64 (d.shape 5), .int .i64 (d.shape 6), .int .i64 (d.shape 7), .int .i64 (d.shape 8), .slice (some ⟨g1, 0, none⟩) d.groups.1 c1, .slice p2 d.on.1 c2, .slice p3 d.tapes.1 c3, .int .i64 d.writes, .int .i64 d.stop, .bool d.down]) (X7) Tryz.underlying34 size_W rfl ?_) | (refine wp_storeBox 36 _ _ rfl rfl (w.heap.size + 1) rfl (cs := [.int .i64 0, .int .i64 (d.shape 0), .int .i64 (d.shape 1), .int .i64 (d.shape 2), .int .i64 (d.shape 3), .int .i64 (d.shape 4), .int .i64 (d.shape 5), .int .i64 (d.shape 6), .int .i64 (d.shape 7), .int .i64 (d.shape 8), .slice (some ⟨g1, 0, none⟩) d.groups.1 c1, .slice p2 d.on.1 c2, .slice p3 d.tapes.1 c3, .int .i64 d.writes, .int .i64 d.stop, .bool d.down]) (old := [.int .i64 0, .int .i64 0, .int .i64 0, .int .i64 0, .int .i64 0, .int .i64 0, .int .i64 0, .int .i64 0, .int .i64 0, .int .i64 0, .slice none 0 0, .slice none 0 0, .slice none 0 0, .int .i64 0, .int .i64 0, .bool false]) rfl (T7.b2) size_WR rfl rfl ((own_resOf 0 (by decide) O7).one) ?_; intro w9 X9 C9 z9))
  refine ret_box Tryz.results26 rfl X9 Tryz.underlying36 size_WR rfl rfl ?_
  exact post_world (by decide) T7.bel C9 O7 (by omega) (by omega) (.inr ⟨HX.out, .inr ⟨HD.out, rfl⟩⟩)
end Go.Proofs.YtbmfndjglndnlaaGreat

namespace Go.Proofs.YtbmfndjglndnlaaGreat
open Go.ChangeShapes Go.WideShapes Go.ChangeAt Go.RowKit F256
set_option linter.unusedVariables false
set_option linter.unusedSimpArgs false
theorem fifteen {w : World} {b : Nat} {t : TypeId} {a0 a1 a2 a3 a4 a5 a6 a7 a8 a9 a10 a11 a12 a13 a14 : Value} (h : Box w b #[a0, a1, a2, a3, a4, a5, a6, a7, a8, a9, a10, a11, a12, a13, a14] t) :
    w.cell? ⟨b, 0, none⟩ = some a0 ∧ w.cell? ⟨b, 1, none⟩ = some a1 ∧ w.cell? ⟨b, 2, none⟩ = some a2 ∧ w.cell? ⟨b, 3, none⟩ = some a3 ∧ w.cell? ⟨b, 4, none⟩ = some a4 ∧ w.cell? ⟨b, 5, none⟩ = some a5 ∧ w.cell? ⟨b, 6, none⟩ = some a6 ∧ w.cell? ⟨b, 7, none⟩ = some a7 ∧ w.cell? ⟨b, 8, none⟩ = some a8 ∧ w.cell? ⟨b, 9, none⟩ = some a9 ∧ w.cell? ⟨b, 10, none⟩ = some a10 ∧ w.cell? ⟨b, 11, none⟩ = some a11 ∧ w.cell? ⟨b, 12, none⟩ = some a12 ∧ w.cell? ⟨b, 13, none⟩ = some a13 ∧ w.cell? ⟨b, 14, none⟩ = some a14 :=
  ⟨h.cell 0, h.cell 1, h.cell 2, h.cell 3, h.cell 4, h.cell 5, h.cell 6, h.cell 7, h.cell 8, h.cell 9, h.cell 10, h.cell 11, h.cell 12, h.cell 13, h.cell 14⟩
theorem sum_upd {α : Type} (c : α → Nat) (x : Nat → α) (k : Nat) (a : α) : ∀ n : Nat, sumN (fun i => c (upd x k a i)) n ≤ sumN (fun i => c (x i)) n + (if k < n then c a else 0)
  | 0 => by simp [sumN]
  | n + 1 => by
    have ih := sum_upd c x k a n
    rw [sumN_succ, sumN_succ]
    by_cases h : n = k
    · subst h
      rw [upd_at, if_pos (by omega)]
      rw [if_neg (by omega)] at ih
      omega
    · rw [upd_ne x a h]
      by_cases h2 : k < n
      · rw [if_pos h2] at ih; rw [if_pos (by omega)]; omega
      · rw [if_neg h2] at ih; rw [if_neg (by omega)]; omega
theorem cSl_upd {α : Type} (c : α → Nat) (p : Nat × (Nat → α)) (k : Nat) (a : α) : cSl c (p.1, upd p.2 k a) ≤ cSl c p + c a := by
  have := sum_upd c p.2 k a p.1
  unfold cSl
  show sumN (fun i => c (upd p.2 k a i)) p.1 ≤ _
  split at this <;> omega
theorem wiped_ex (d : WorldD) (g k : Int) : ∃ q, WipeDAns d g k q := by
  obtain ⟨x, hx⟩ := world_ex d
  by_cases h : x = 0
  · subst h
    by_cases h1 : DriveP d.shape g k
    · exact ⟨_, .inr ⟨hx, .inr ⟨h1, rfl⟩⟩⟩
    · exact ⟨_, .inr ⟨hx, .inl ⟨h1, rfl⟩⟩⟩
  · exact ⟨_, .inl ⟨x, h, hx, rfl⟩⟩
theorem wiped_cv {d : WorldD} {g k : Int} {q : WorldResultD} (hq : WipeDAns d g k q) (hsz : szWorldD d ≤ 1048576) : cvWorldResultD q ≤ 90000000 := by
  rcases hq with ⟨x, _, _, rfl⟩ | ⟨h0, ⟨_, rfl⟩ | ⟨hp, rfl⟩⟩
  · exact Nat.zero_le _
  · exact Nat.zero_le _
  · have hb := okB h0.ok.shape
    obtain ⟨G, K, rfl, rfl, hG, hK⟩ := drive_at h0.ok hp
    have h1 := cvWorld_le d
    have hs : szSl (szSl szDriveD) d.groups ≤ 1048576 := by unfold szWorldD at hsz; omega
    have h2 := cSl_upd (cSl cDriveD) d.groups G ((d.groups.2 G).1, upd (d.groups.2 G).2 K (wipedD (d.shape 4).toNat))
    have h3 := cSl_upd cDriveD (d.groups.2 G) K (wipedD (d.shape 4).toNat)
    have h4 := cSl_le (k := 6) cDrive_le (d.groups.2 G)
    have h5 : szSl szDriveD (d.groups.2 G) ≤ 1048576 := szSl_at hs hG
    have h6 : cDriveD (wipedD (d.shape 4).toNat) = 1 + (d.shape 4).toNat * 5 := by
      show 1 + sumN (fun _ => 5) (d.shape 4).toNat = _
      rw [sumN_const]
    show cvWorldD (wipeDW d G K) ≤ _
    unfold cvWorldD at h1 ⊢
    show (cSl (cSl cDriveD)) (d.groups.1, upd d.groups.2 G ((d.groups.2 G).1, upd (d.groups.2 G).2 K (wipedD (d.shape 4).toNat))) + lenD d.on + (cSl cTapeD) d.tapes ≤ _
    omega
theorem wiped_det {d : WorldD} {g k : Int} {q : WorldResultD} {w : World} {f : Nat} {args : Array Value} (hq : WipeDAns d g k q) (h : Calls Tryz.prog f args w (ResPost (WipeDAns d g k) w)) : Calls Tryz.prog f args w fun e w' => ∃ cs, e = .returned (.agg cs.toArray) ∧ OwnT layWorldResult w' w.heap.size w'.heap.size q cs ∧ Below w.heap.size w w' :=
  h.mono fun e w' ⟨d', cs, h1, h2, h3, h4⟩ => ⟨cs, h1, by rw [hq.one h2]; exact h3, h4⟩
set_option maxHeartbeats 16000000 in
set_option maxRecDepth 20000 in
theorem fnExactWipeDrive_walk (d : WorldD) (cs : List Value) (i0 : Int) (i1 : Int) (w : World) (rd0 : layWorld.rd w w.heap.size d cs) (hi0 : -9223372036854775808 ≤ i0 ∧ i0 ≤ 9223372036854775807) (hi1 : -9223372036854775808 ≤ i1 ∧ i1 ≤ 9223372036854775807) :
    Calls Tryz.prog 6 #[.agg cs.toArray, .int .i64 i0, .int .i64 i1] w fun e w' => e = .returned (.bool true) ∧ Below w.heap.size w w' := by
  obtain ⟨v0, v1, v2, v3, v4, v5, v6, v7, v8, vp0, vl0, vq0, vp1, vl1, vq1, vp2, vl2, vq2, v9, v10, vb, rfl⟩ := world15 rd0
  have HR : Hid (layWorld.rd w w.heap.size d [.int .i64 v0, .int .i64 v1, .int .i64 v2, .int .i64 v3, .int .i64 v4, .int .i64 v5, .int .i64 v6, .int .i64 v7, .int .i64 v8, .slice vp0 vl0 vq0, .slice vp1 vl1 vq1, .slice vp2 vl2 vq2, .int .i64 v9, .int .i64 v10, .bool vb]) := rd0
  have HHi0 : Hid (-9223372036854775808 ≤ i0 ∧ i0 ≤ 9223372036854775807) := hi0
  have HHi1 : Hid (-9223372036854775808 ≤ i1 ∧ i1 ≤ 9223372036854775807) := hi1
  clear rd0 hi0 hi1
  have T0 := one_new w #[.int .i64 v0, .int .i64 v1, .int .i64 v2, .int .i64 v3, .int .i64 v4, .int .i64 v5, .int .i64 v6, .int .i64 v7, .int .i64 v8, .slice vp0 vl0 vq0, .slice vp1 vl1 vq1, .slice vp2 vl2 vq2, .int .i64 v9, .int .i64 v10, .bool vb] 28
  go_enter Tryz.func6, Tryz.ntmps6
  go_wp2_with (refine wp_loadBox 28 (.tmp 3) rfl rfl (w.heap.size) rfl (cs := [.int .i64 v0, .int .i64 v1, .int .i64 v2, .int .i64 v3, .int .i64 v4, .int .i64 v5, .int .i64 v6, .int .i64 v7, .int .i64 v8, .slice vp0 vl0 vq0, .slice vp1 vl1 vq1, .slice vp2 vl2 vq2, .int .i64 v9, .int .i64 v10, .bool vb]) T0.b1 Tryz.underlying28 size_LW rfl ?_)
  refine (szWorld_is _ d w.heap.size 1048576 _ (layWorld.rd_below HR.out T0.bel (Nat.le_refl _)) T0.bel.size (by omega)).mono ?_
  rintro e w1 ⟨x, rfl, hx, b1⟩
  have T1 := T0.call b1
  have HT1 : Hid (One w w1 #[.int .i64 v0, .int .i64 v1, .int .i64 v2, .int .i64 v3, .int .i64 v4, .int .i64 v5, .int .i64 v6, .int .i64 v7, .int .i64 v8, .slice vp0 vl0 vq0, .slice vp1 vl1 vq1, .slice vp2 vl2 vq2, .int .i64 v9, .int .i64 v10, .bool vb] 28) := T1
  clear b1 T0
  rcases hx with rfl | ⟨hsz, hx⟩
  · clear T1
    go_wp2
    go_ret
    exact ⟨rfl, HT1.out.bel⟩
  have hx0 : ¬ x < 0 := by omega
  clear hx
  obtain ⟨q, hq⟩ := wiped_ex d i0 i1
  obtain ⟨N, hN⟩ : ∃ N, N = 1 + cvWorldResultD q := ⟨_, rfl⟩
  have hj : 1 + cvWorldResultD q ≤ 100000000 := by have := wiped_cv hq hsz; omega
  obtain ⟨M, hM⟩ : ∃ M, M = 1 + cvWorldD d := ⟨_, rfl⟩
  have hk : 1 + cvWorldD d ≤ 100000000 := by have := cvWorld_le d; omega
  have CT : ∀ w', Below w1.heap.size w1 w' → Calls Tryz.prog 11 #[.agg #[.int .i64 v0, .int .i64 v1, .int .i64 v2, .int .i64 v3, .int .i64 v4, .int .i64 v5, .int .i64 v6, .int .i64 v7, .int .i64 v8, .slice vp0 vl0 vq0, .slice vp1 vl1 vq1, .slice vp2 vl2 vq2, .int .i64 v9, .int .i64 v10, .bool vb]] w' fun e w'' => ∃ cs', e = .returned (.agg cs'.toArray) ∧ OwnT layWorld w'' w'.heap.size w''.heap.size d cs' ∧ Below w'.heap.size w' w'' := fun w' hb =>
    toWorld_is _ d w.heap.size w' (layWorld.rd_below (layWorld.rd_below HR.out HT1.out.bel (Nat.le_refl _)) hb HT1.out.bel.size) (Nat.le_trans HT1.out.bel.size hb.size) hsz
  have CS := fun (cs' : List Value) (hi : Nat) (w' : World) (h1 : layWorld.rd w' hi d cs') (h2 : hi ≤ w'.heap.size) => wiped_det hq (specWipeD_any d i0 i1 cs' hi w' h1 h2 hsz HHi0.out HHi1.out)
  have CI := fun (cs' : List Value) (hi : Nat) (w' : World) (h1 : layWorld.rd w' hi d cs') (h2 : hi ≤ w'.heap.size) => wiped_det hq (implWipeD_any d i0 i1 cs' hi w' h1 h2 hsz HHi0.out HHi1.out)
  have CE := fun c1 c2 h1 h2 w' => eqWorldResult_is c1 c2 q h1 h2 w'
  have CW := fun c1 c2 h1 h2 w' => eqWorld_is c1 c2 d h1 h2 w'
  have CM := fun {w' : World} {lo hi : Nat} {cs : List Value} (h : OwnT layWorldResult w' lo hi q cs) => mark_T markWorldResult_is h 1 hj
  have CK := fun {w' : World} {lo hi : Nat} {cs : List Value} (h : OwnT layWorld w' lo hi d cs) => mark_T markWorld_is h 1 hk
  have CH := fun (cs : List Value) (hi : Nat) (w' : World) (h : layWorldResult.rd w' hi (mkvWorldResultD 1 q) cs) (hh : hi ≤ w'.heap.size) => heldWorldResult_is cs q hi 1 w' h hh hj
  rw [← hN] at CM CH
  rw [← hM] at CK
  clear hN hM hj hk hq hsz
  go_wp2_with (refine wp_loadBox 28 (.tmp 3) rfl rfl (w.heap.size) rfl (cs := [.int .i64 v0, .int .i64 v1, .int .i64 v2, .int .i64 v3, .int .i64 v4, .int .i64 v5, .int .i64 v6, .int .i64 v7, .int .i64 v8, .slice vp0 vl0 vq0, .slice vp1 vl1 vq1, .slice vp2 vl2 vq2, .int .i64 v9, .int .i64 v10, .bool vb]) T1.b1 Tryz.underlying28 size_LW rfl ?_)
  refine (CT _ (Below.refl _ _)).mono ?_
  rintro e w2 ⟨c2, rfl, o2, b2⟩
  have z1 : w.heap.size < w1.heap.size := T1.b1.lt
  clear T1
  go_wp2_with fail
  refine (CS _ _ _ o2.rd (Nat.le_refl _)).mono ?_
  rintro e w3 ⟨cS, rfl, oS, b3⟩
  obtain ⟨sc, s0, s1, s2, s3, s4, s5, s6, s7, s8, sp0, sl0, sq0, sp1, sl1, sq1, sp2, sl2, sq2, s9, s10, sb, rfl⟩ := wres16 oS.rd
  have z2 : w1.heap.size ≤ w2.heap.size := b2.size
  have z3 : w2.heap.size ≤ w3.heap.size := b3.size
  have B3 : Below w1.heap.size w1 w3 := b2.trans (b3.mono b2.size)
  clear o2 b2 b3
  go_upto_region 6 with (refine wp_allocStore 36 8 (.tmp 24) [.int .i64 sc, .int .i64 s0, .int .i64 s1, .int .i64 s2, .int .i64 s3, .int .i64 s4, .int .i64 s5, .int .i64 s6, .int .i64 s7, .int .i64 s8, .slice sp0 sl0 sq0, .slice sp1 sl1 sq1, .slice sp2 sl2 sq2, .int .i64 s9, .int .i64 s10, .bool sb] _ 16 rfl rfl rfl rfl rfl rfl rfl rfl info_WR rfl rfl oS.one ?_)
  have bA : Below w3.heap.size w3 (w3.alloc (.cells #[.int .i64 sc, .int .i64 s0, .int .i64 s1, .int .i64 s2, .int .i64 s3, .int .i64 s4, .int .i64 s5, .int .i64 s6, .int .i64 s7, .int .i64 s8, .slice sp0 sl0 sq0, .slice sp1 sl1 sq1, .slice sp2 sl2 sq2, .int .i64 s9, .int .i64 s10, .bool sb] 36)) := (Below.refl _ _).alloc (Nat.le_refl _) _
  have S4 : Box (w3.alloc (.cells #[.int .i64 sc, .int .i64 s0, .int .i64 s1, .int .i64 s2, .int .i64 s3, .int .i64 s4, .int .i64 s5, .int .i64 s6, .int .i64 s7, .int .i64 s8, .slice sp0 sl0 sq0, .slice sp1 sl1 sq1, .slice sp2 sl2 sq2, .int .i64 s9, .int .i64 s10, .bool sb] 36)) w3.heap.size #[.int .i64 sc, .int .i64 s0, .int .i64 s1, .int .i64 s2, .int .i64 s3, .int .i64 s4, .int .i64 s5, .int .i64 s6, .int .i64 s7, .int .i64 s8, .slice sp0 sl0 sq0, .slice sp1 sl1 sq1, .slice sp2 sl2 sq2, .int .i64 s9, .int .i64 s10, .bool sb] 36 := box_new _ _ _
  obtain ⟨W4, hW4⟩ : ∃ x, x = w3.alloc (.cells #[.int .i64 sc, .int .i64 s0, .int .i64 s1, .int .i64 s2, .int .i64 s3, .int .i64 s4, .int .i64 s5, .int .i64 s6, .int .i64 s7, .int .i64 s8, .slice sp0 sl0 sq0, .slice sp1 sl1 sq1, .slice sp2 sl2 sq2, .int .i64 s9, .int .i64 s10, .bool sb] 36) := ⟨_, rfl⟩
  rw [← hW4] at bA S4 ⊢
  have B4 := B3.trans (bA.mono (by omega))
  have P4 := HT1.out.call B4
  have OS4 := oS.call bA
  have z4 : w3.heap.size < W4.heap.size := S4.lt
  clear bA hW4 oS B3
  go_wp2_with (refine wp_loadBox 28 (.tmp 3) rfl rfl (w.heap.size) rfl (cs := [.int .i64 v0, .int .i64 v1, .int .i64 v2, .int .i64 v3, .int .i64 v4, .int .i64 v5, .int .i64 v6, .int .i64 v7, .int .i64 v8, .slice vp0 vl0 vq0, .slice vp1 vl1 vq1, .slice vp2 vl2 vq2, .int .i64 v9, .int .i64 v10, .bool vb]) P4.b1 Tryz.underlying28 size_LW rfl ?_)
  refine (CT _ B4).mono ?_
  rintro e w5 ⟨cX, rfl, oX, b5⟩
  obtain ⟨x0, x1, x2, x3, x4, x5, x6, x7, x8, xp0, xl0, xq0, xp1, xl1, xq1, xp2, xl2, xq2, x9, x10, xb, rfl⟩ := world15O oX
  have z5 : W4.heap.size ≤ w5.heap.size := b5.size
  have B5 := B4.trans (b5.mono (by omega))
  have S5 := S4.call b5
  have OS5 := OS4.call b5
  clear P4 b5 B4 S4 OS4
  go_upto_region 7 with (refine wp_allocStore 34 9 (.tmp 26) [.int .i64 x0, .int .i64 x1, .int .i64 x2, .int .i64 x3, .int .i64 x4, .int .i64 x5, .int .i64 x6, .int .i64 x7, .int .i64 x8, .slice xp0 xl0 xq0, .slice xp1 xl1 xq1, .slice xp2 xl2 xq2, .int .i64 x9, .int .i64 x10, .bool xb] _ 15 rfl rfl rfl rfl rfl rfl rfl rfl info_W rfl rfl oX.one ?_)
  have bA : Below w5.heap.size w5 (w5.alloc (.cells #[.int .i64 x0, .int .i64 x1, .int .i64 x2, .int .i64 x3, .int .i64 x4, .int .i64 x5, .int .i64 x6, .int .i64 x7, .int .i64 x8, .slice xp0 xl0 xq0, .slice xp1 xl1 xq1, .slice xp2 xl2 xq2, .int .i64 x9, .int .i64 x10, .bool xb] 34)) := (Below.refl _ _).alloc (Nat.le_refl _) _
  have X6 : Box (w5.alloc (.cells #[.int .i64 x0, .int .i64 x1, .int .i64 x2, .int .i64 x3, .int .i64 x4, .int .i64 x5, .int .i64 x6, .int .i64 x7, .int .i64 x8, .slice xp0 xl0 xq0, .slice xp1 xl1 xq1, .slice xp2 xl2 xq2, .int .i64 x9, .int .i64 x10, .bool xb] 34)) w5.heap.size #[.int .i64 x0, .int .i64 x1, .int .i64 x2, .int .i64 x3, .int .i64 x4, .int .i64 x5, .int .i64 x6, .int .i64 x7, .int .i64 x8, .slice xp0 xl0 xq0, .slice xp1 xl1 xq1, .slice xp2 xl2 xq2, .int .i64 x9, .int .i64 x10, .bool xb] 34 := box_new _ _ _
  obtain ⟨W6, hW6⟩ : ∃ x, x = w5.alloc (.cells #[.int .i64 x0, .int .i64 x1, .int .i64 x2, .int .i64 x3, .int .i64 x4, .int .i64 x5, .int .i64 x6, .int .i64 x7, .int .i64 x8, .slice xp0 xl0 xq0, .slice xp1 xl1 xq1, .slice xp2 xl2 xq2, .int .i64 x9, .int .i64 x10, .bool xb] 34) := ⟨_, rfl⟩
  rw [← hW6] at bA X6 ⊢
  have B6 := B5.trans (bA.mono (by omega))
  have S6 := S5.call bA
  have OS6 := OS5.call bA
  have OX6 := oX.call bA
  have z6 : w5.heap.size < W6.heap.size := X6.lt
  clear bA hW6 oX B5 S5 OS5
  go_wp2_with (refine wp_loadBox 34 (.tmp 9) rfl rfl (w5.heap.size) rfl (cs := [.int .i64 x0, .int .i64 x1, .int .i64 x2, .int .i64 x3, .int .i64 x4, .int .i64 x5, .int .i64 x6, .int .i64 x7, .int .i64 x8, .slice xp0 xl0 xq0, .slice xp1 xl1 xq1, .slice xp2 xl2 xq2, .int .i64 x9, .int .i64 x10, .bool xb]) X6 Tryz.underlying34 size_W rfl ?_)
  refine (CI _ _ _ OX6.rd (by omega)).mono ?_
  rintro e w7 ⟨cG, rfl, oG, b7⟩
  obtain ⟨gc, g0, g1, g2, g3, g4, g5, g6, g7, g8, gp0, gl0, gq0, gp1, gl1, gq1, gp2, gl2, gq2, g9, g10, gb, rfl⟩ := wres16 oG.rd
  have z7 : W6.heap.size ≤ w7.heap.size := b7.size
  have B7 := B6.trans (b7.mono (by omega))
  have S7 := S6.call b7
  have OS7 := OS6.call b7
  have X7 := X6.call b7
  have OX7 := OX6.call b7
  clear b7 B6 S6 OS6 X6 OX6
  go_upto_region 8 with (refine wp_allocStore 36 10 (.tmp 30) [.int .i64 gc, .int .i64 g0, .int .i64 g1, .int .i64 g2, .int .i64 g3, .int .i64 g4, .int .i64 g5, .int .i64 g6, .int .i64 g7, .int .i64 g8, .slice gp0 gl0 gq0, .slice gp1 gl1 gq1, .slice gp2 gl2 gq2, .int .i64 g9, .int .i64 g10, .bool gb] _ 16 rfl rfl rfl rfl rfl rfl rfl rfl info_WR rfl rfl oG.one ?_)
  have bA : Below w7.heap.size w7 (w7.alloc (.cells #[.int .i64 gc, .int .i64 g0, .int .i64 g1, .int .i64 g2, .int .i64 g3, .int .i64 g4, .int .i64 g5, .int .i64 g6, .int .i64 g7, .int .i64 g8, .slice gp0 gl0 gq0, .slice gp1 gl1 gq1, .slice gp2 gl2 gq2, .int .i64 g9, .int .i64 g10, .bool gb] 36)) := (Below.refl _ _).alloc (Nat.le_refl _) _
  have G8 : Box (w7.alloc (.cells #[.int .i64 gc, .int .i64 g0, .int .i64 g1, .int .i64 g2, .int .i64 g3, .int .i64 g4, .int .i64 g5, .int .i64 g6, .int .i64 g7, .int .i64 g8, .slice gp0 gl0 gq0, .slice gp1 gl1 gq1, .slice gp2 gl2 gq2, .int .i64 g9, .int .i64 g10, .bool gb] 36)) w7.heap.size #[.int .i64 gc, .int .i64 g0, .int .i64 g1, .int .i64 g2, .int .i64 g3, .int .i64 g4, .int .i64 g5, .int .i64 g6, .int .i64 g7, .int .i64 g8, .slice gp0 gl0 gq0, .slice gp1 gl1 gq1, .slice gp2 gl2 gq2, .int .i64 g9, .int .i64 g10, .bool gb] 36 := box_new _ _ _
  obtain ⟨W8, hW8⟩ : ∃ x, x = w7.alloc (.cells #[.int .i64 gc, .int .i64 g0, .int .i64 g1, .int .i64 g2, .int .i64 g3, .int .i64 g4, .int .i64 g5, .int .i64 g6, .int .i64 g7, .int .i64 g8, .slice gp0 gl0 gq0, .slice gp1 gl1 gq1, .slice gp2 gl2 gq2, .int .i64 g9, .int .i64 g10, .bool gb] 36) := ⟨_, rfl⟩
  rw [← hW8] at bA G8 ⊢
  have B8 := B7.trans (bA.mono (by omega))
  have S8 := S7.call bA
  have OS8 := OS7.call bA
  have X8 := X7.call bA
  have OX8 := OX7.call bA
  have OG8 := oG.call bA
  have z8 : w7.heap.size < W8.heap.size := G8.lt
  clear bA hW8 oG B7 S7 OS7 X7 OX7
  go_wp2_with (first | (refine wp_loadBox 36 (.tmp 10) rfl rfl (w7.heap.size) rfl (cs := [.int .i64 gc, .int .i64 g0, .int .i64 g1, .int .i64 g2, .int .i64 g3, .int .i64 g4, .int .i64 g5, .int .i64 g6, .int .i64 g7, .int .i64 g8, .slice gp0 gl0 gq0, .slice gp1 gl1 gq1, .slice gp2 gl2 gq2, .int .i64 g9, .int .i64 g10, .bool gb]) G8 Tryz.underlying36 size_WR rfl ?_) | (refine wp_loadBox 36 (.tmp 8) rfl rfl (w3.heap.size) rfl (cs := [.int .i64 sc, .int .i64 s0, .int .i64 s1, .int .i64 s2, .int .i64 s3, .int .i64 s4, .int .i64 s5, .int .i64 s6, .int .i64 s7, .int .i64 s8, .slice sp0 sl0 sq0, .slice sp1 sl1 sq1, .slice sp2 sl2 sq2, .int .i64 s9, .int .i64 s10, .bool sb]) S8 Tryz.underlying36 size_WR rfl ?_))
  refine (CE _ _ _ _ _ OG8.rd OS8.rd (by omega) (by omega)).mono ?_
  rintro e w9 ⟨rfl, b9⟩
  have z9 : W8.heap.size ≤ w9.heap.size := b9.size
  have B9 := B8.trans (b9.mono (by omega))
  have S9 : Hid (Box w9 w3.heap.size #[.int .i64 sc, .int .i64 s0, .int .i64 s1, .int .i64 s2, .int .i64 s3, .int .i64 s4, .int .i64 s5, .int .i64 s6, .int .i64 s7, .int .i64 s8, .slice sp0 sl0 sq0, .slice sp1 sl1 sq1, .slice sp2 sl2 sq2, .int .i64 s9, .int .i64 s10, .bool sb] 36) := S8.call b9
  have OS9 : Hid (OwnT layWorldResult w9 w2.heap.size w3.heap.size q [.int .i64 sc, .int .i64 s0, .int .i64 s1, .int .i64 s2, .int .i64 s3, .int .i64 s4, .int .i64 s5, .int .i64 s6, .int .i64 s7, .int .i64 s8, .slice sp0 sl0 sq0, .slice sp1 sl1 sq1, .slice sp2 sl2 sq2, .int .i64 s9, .int .i64 s10, .bool sb]) := OS8.call b9
  have X9 : Hid (Box w9 w5.heap.size #[.int .i64 x0, .int .i64 x1, .int .i64 x2, .int .i64 x3, .int .i64 x4, .int .i64 x5, .int .i64 x6, .int .i64 x7, .int .i64 x8, .slice xp0 xl0 xq0, .slice xp1 xl1 xq1, .slice xp2 xl2 xq2, .int .i64 x9, .int .i64 x10, .bool xb] 34) := X8.call b9
  have OX9 : Hid (OwnT layWorld w9 W4.heap.size w5.heap.size d [.int .i64 x0, .int .i64 x1, .int .i64 x2, .int .i64 x3, .int .i64 x4, .int .i64 x5, .int .i64 x6, .int .i64 x7, .int .i64 x8, .slice xp0 xl0 xq0, .slice xp1 xl1 xq1, .slice xp2 xl2 xq2, .int .i64 x9, .int .i64 x10, .bool xb]) := OX8.call b9
  have G9 : Hid (Box w9 w7.heap.size #[.int .i64 gc, .int .i64 g0, .int .i64 g1, .int .i64 g2, .int .i64 g3, .int .i64 g4, .int .i64 g5, .int .i64 g6, .int .i64 g7, .int .i64 g8, .slice gp0 gl0 gq0, .slice gp1 gl1 gq1, .slice gp2 gl2 gq2, .int .i64 g9, .int .i64 g10, .bool gb] 36) := G8.call b9
  have OG9 : Hid (OwnT layWorldResult w9 W6.heap.size w7.heap.size q [.int .i64 gc, .int .i64 g0, .int .i64 g1, .int .i64 g2, .int .i64 g3, .int .i64 g4, .int .i64 g5, .int .i64 g6, .int .i64 g7, .int .i64 g8, .slice gp0 gl0 gq0, .slice gp1 gl1 gq1, .slice gp2 gl2 gq2, .int .i64 g9, .int .i64 g10, .bool gb]) := OG8.call b9
  have HB9 : Hid (Below w1.heap.size w1 w9) := B9
  have P9 : Hid (One w w9 #[.int .i64 v0, .int .i64 v1, .int .i64 v2, .int .i64 v3, .int .i64 v4, .int .i64 v5, .int .i64 v6, .int .i64 v7, .int .i64 v8, .slice vp0 vl0 vq0, .slice vp1 vl1 vq1, .slice vp2 vl2 vq2, .int .i64 v9, .int .i64 v10, .bool vb] 28) := HT1.out.call B9
  have u_0 : w9.cell? ⟨w5.heap.size, 0, none⟩ = some (.int .i64 x0) := X9.out.cell 0
  have u_1 : w9.cell? ⟨w5.heap.size, 1, none⟩ = some (.int .i64 x1) := X9.out.cell 1
  have u_2 : w9.cell? ⟨w5.heap.size, 2, none⟩ = some (.int .i64 x2) := X9.out.cell 2
  have u_3 : w9.cell? ⟨w5.heap.size, 3, none⟩ = some (.int .i64 x3) := X9.out.cell 3
  have u_4 : w9.cell? ⟨w5.heap.size, 4, none⟩ = some (.int .i64 x4) := X9.out.cell 4
  have u_5 : w9.cell? ⟨w5.heap.size, 5, none⟩ = some (.int .i64 x5) := X9.out.cell 5
  have u_6 : w9.cell? ⟨w5.heap.size, 6, none⟩ = some (.int .i64 x6) := X9.out.cell 6
  have u_7 : w9.cell? ⟨w5.heap.size, 7, none⟩ = some (.int .i64 x7) := X9.out.cell 7
  have u_8 : w9.cell? ⟨w5.heap.size, 8, none⟩ = some (.int .i64 x8) := X9.out.cell 8
  have u_9 : w9.cell? ⟨w5.heap.size, 9, none⟩ = some (.slice xp0 xl0 xq0) := X9.out.cell 9
  have u_10 : w9.cell? ⟨w5.heap.size, 10, none⟩ = some (.slice xp1 xl1 xq1) := X9.out.cell 10
  have u_11 : w9.cell? ⟨w5.heap.size, 11, none⟩ = some (.slice xp2 xl2 xq2) := X9.out.cell 11
  have u_12 : w9.cell? ⟨w5.heap.size, 12, none⟩ = some (.int .i64 x9) := X9.out.cell 12
  have u_13 : w9.cell? ⟨w5.heap.size, 13, none⟩ = some (.int .i64 x10) := X9.out.cell 13
  have u_14 : w9.cell? ⟨w5.heap.size, 14, none⟩ = some (.bool xb) := X9.out.cell 14
  have y_0 : w9.cell? ⟨w.heap.size, 0, none⟩ = some (.int .i64 v0) := P9.out.b1.cell 0
  have y_1 : w9.cell? ⟨w.heap.size, 1, none⟩ = some (.int .i64 v1) := P9.out.b1.cell 1
  have y_2 : w9.cell? ⟨w.heap.size, 2, none⟩ = some (.int .i64 v2) := P9.out.b1.cell 2
  have y_3 : w9.cell? ⟨w.heap.size, 3, none⟩ = some (.int .i64 v3) := P9.out.b1.cell 3
  have y_4 : w9.cell? ⟨w.heap.size, 4, none⟩ = some (.int .i64 v4) := P9.out.b1.cell 4
  have y_5 : w9.cell? ⟨w.heap.size, 5, none⟩ = some (.int .i64 v5) := P9.out.b1.cell 5
  have y_6 : w9.cell? ⟨w.heap.size, 6, none⟩ = some (.int .i64 v6) := P9.out.b1.cell 6
  have y_7 : w9.cell? ⟨w.heap.size, 7, none⟩ = some (.int .i64 v7) := P9.out.b1.cell 7
  have y_8 : w9.cell? ⟨w.heap.size, 8, none⟩ = some (.int .i64 v8) := P9.out.b1.cell 8
  have y_9 : w9.cell? ⟨w.heap.size, 9, none⟩ = some (.slice vp0 vl0 vq0) := P9.out.b1.cell 9
  have y_10 : w9.cell? ⟨w.heap.size, 10, none⟩ = some (.slice vp1 vl1 vq1) := P9.out.b1.cell 10
  have y_11 : w9.cell? ⟨w.heap.size, 11, none⟩ = some (.slice vp2 vl2 vq2) := P9.out.b1.cell 11
  have y_12 : w9.cell? ⟨w.heap.size, 12, none⟩ = some (.int .i64 v9) := P9.out.b1.cell 12
  have y_13 : w9.cell? ⟨w.heap.size, 13, none⟩ = some (.int .i64 v10) := P9.out.b1.cell 13
  have y_14 : w9.cell? ⟨w.heap.size, 14, none⟩ = some (.bool vb) := P9.out.b1.cell 14
  clear b9 B8 S8 OS8 X8 OX8 G8 OG8 B9
  go_upto_region 10 with fail
  go_cut [39] (fun v wx => v = .bool false ∧ Below w9.heap.size w9 wx)
  case first =>
    go_region_with (first | (go_at_call 11; refine (CT _ (HB9.out.trans ((below_drewN (Below.refl _ _) 1).mono HB9.out.size))).mono ?_; rintro ee wb ⟨cs', rfl, oR, bb⟩; have bR : Below w9.heap.size w9 wb := (below_drewN (Below.refl _ _) 1).trans bb; obtain ⟨qb0, qb1, qb2, qb3, qb4, qb5, qb6, qb7, qb8, qb9, qb10, qb11, qb12, qb13, qb14⟩ := fifteen (X9.out.call bR)) | (go_at_call 14; refine (CW _ _ _ _ _ (OX9.out.call bR).rd oR.rd (Nat.le_trans (by omega) bR.size) (Nat.le_refl _)).mono ?_; rintro ee wc' ⟨rfl, bc⟩; have bC : Below w9.heap.size w9 wc' := bR.trans (bc.mono bR.size)))
    all_goals
      go_wp2
      go_meet
      exact ⟨rfl, bC⟩
  case rest =>
    obtain ⟨rfl, b10⟩ := hcut
    obtain ⟨w10, rfl⟩ : ∃ x, x = wc := ⟨_, rfl⟩
    clear u_0 u_1 u_2 u_3 u_4 u_5 u_6 u_7 u_8 u_9 u_10 u_11 u_12 u_13 u_14 y_0 y_1 y_2 y_3 y_4 y_5 y_6 y_7 y_8 y_9 y_10 y_11 y_12 y_13 y_14
    have z10 : w9.heap.size ≤ w10.heap.size := b10.size
    have B10 := HB9.out.trans (b10.mono (by omega))
    have S10 := S9.out.call b10
    have OS10 := OS9.out.call b10
    have X10 := X9.out.call b10
    have OX10 := OX9.out.call b10
    have G10 := G9.out.call b10
    have OG10 := OG9.out.call b10
    clear b10 HB9 S9 OS9 X9 OX9 G9 OG9 P9
    have hm0 : ¬ (M : Int) < 0 := by omega
    go_wp2_with (refine wp_loadBox 34 (.tmp 9) rfl rfl (w5.heap.size) rfl (cs := [.int .i64 x0, .int .i64 x1, .int .i64 x2, .int .i64 x3, .int .i64 x4, .int .i64 x5, .int .i64 x6, .int .i64 x7, .int .i64 x8, .slice xp0 xl0 xq0, .slice xp1 xl1 xq1, .slice xp2 xl2 xq2, .int .i64 x9, .int .i64 x10, .bool xb]) X10 Tryz.underlying34 size_W rfl ?_)
    refine (CK OX10).mono ?_
    rintro e w11 ⟨rfl, OX11, c11⟩
    have z11 : w10.heap.size ≤ w11.heap.size := c11.size
    have B11 := B10.trans (c11.bel (B := w1.heap.size) (by omega) (by omega))
    have S11 := S10.chg c11 (.inl (by omega))
    have OS11 := OS10.chg c11 (.inl (by omega))
    have G11 := G10.chg c11 (.inr (by omega))
    have OG11 := OG10.chg c11 (.inr (by omega))
    have u_0 : w11.cell? ⟨w7.heap.size, 0, none⟩ = some (.int .i64 gc) := G11.cell 0
    have u_1 : w11.cell? ⟨w7.heap.size, 1, none⟩ = some (.int .i64 g0) := G11.cell 1
    have u_2 : w11.cell? ⟨w7.heap.size, 2, none⟩ = some (.int .i64 g1) := G11.cell 2
    have u_3 : w11.cell? ⟨w7.heap.size, 3, none⟩ = some (.int .i64 g2) := G11.cell 3
    have u_4 : w11.cell? ⟨w7.heap.size, 4, none⟩ = some (.int .i64 g3) := G11.cell 4
    have u_5 : w11.cell? ⟨w7.heap.size, 5, none⟩ = some (.int .i64 g4) := G11.cell 5
    have u_6 : w11.cell? ⟨w7.heap.size, 6, none⟩ = some (.int .i64 g5) := G11.cell 6
    have u_7 : w11.cell? ⟨w7.heap.size, 7, none⟩ = some (.int .i64 g6) := G11.cell 7
    have u_8 : w11.cell? ⟨w7.heap.size, 8, none⟩ = some (.int .i64 g7) := G11.cell 8
    have u_9 : w11.cell? ⟨w7.heap.size, 9, none⟩ = some (.int .i64 g8) := G11.cell 9
    have u_10 : w11.cell? ⟨w7.heap.size, 10, none⟩ = some (.slice gp0 gl0 gq0) := G11.cell 10
    have u_11 : w11.cell? ⟨w7.heap.size, 11, none⟩ = some (.slice gp1 gl1 gq1) := G11.cell 11
    have u_12 : w11.cell? ⟨w7.heap.size, 12, none⟩ = some (.slice gp2 gl2 gq2) := G11.cell 12
    have u_13 : w11.cell? ⟨w7.heap.size, 13, none⟩ = some (.int .i64 g9) := G11.cell 13
    have u_14 : w11.cell? ⟨w7.heap.size, 14, none⟩ = some (.int .i64 g10) := G11.cell 14
    have u_15 : w11.cell? ⟨w7.heap.size, 15, none⟩ = some (.bool gb) := G11.cell 15
    have y_0 : w11.cell? ⟨w3.heap.size, 0, none⟩ = some (.int .i64 sc) := S11.cell 0
    have y_1 : w11.cell? ⟨w3.heap.size, 1, none⟩ = some (.int .i64 s0) := S11.cell 1
    have y_2 : w11.cell? ⟨w3.heap.size, 2, none⟩ = some (.int .i64 s1) := S11.cell 2
    have y_3 : w11.cell? ⟨w3.heap.size, 3, none⟩ = some (.int .i64 s2) := S11.cell 3
    have y_4 : w11.cell? ⟨w3.heap.size, 4, none⟩ = some (.int .i64 s3) := S11.cell 4
    have y_5 : w11.cell? ⟨w3.heap.size, 5, none⟩ = some (.int .i64 s4) := S11.cell 5
    have y_6 : w11.cell? ⟨w3.heap.size, 6, none⟩ = some (.int .i64 s5) := S11.cell 6
    have y_7 : w11.cell? ⟨w3.heap.size, 7, none⟩ = some (.int .i64 s6) := S11.cell 7
    have y_8 : w11.cell? ⟨w3.heap.size, 8, none⟩ = some (.int .i64 s7) := S11.cell 8
    have y_9 : w11.cell? ⟨w3.heap.size, 9, none⟩ = some (.int .i64 s8) := S11.cell 9
    have y_10 : w11.cell? ⟨w3.heap.size, 10, none⟩ = some (.slice sp0 sl0 sq0) := S11.cell 10
    have y_11 : w11.cell? ⟨w3.heap.size, 11, none⟩ = some (.slice sp1 sl1 sq1) := S11.cell 11
    have y_12 : w11.cell? ⟨w3.heap.size, 12, none⟩ = some (.slice sp2 sl2 sq2) := S11.cell 12
    have y_13 : w11.cell? ⟨w3.heap.size, 13, none⟩ = some (.int .i64 s9) := S11.cell 13
    have y_14 : w11.cell? ⟨w3.heap.size, 14, none⟩ = some (.int .i64 s10) := S11.cell 14
    have y_15 : w11.cell? ⟨w3.heap.size, 15, none⟩ = some (.bool sb) := S11.cell 15
    clear OX11 c11 B10 S10 OS10 X10 OX10 G10 OG10
    go_wp2_with fail
    refine (CE _ _ _ _ _ OG11.rd OS11.rd (by omega) (by omega)).mono ?_
    rintro e w12 ⟨rfl, b12⟩
    have z12 : w11.heap.size ≤ w12.heap.size := b12.size
    have B12 := B11.trans (b12.mono (by omega))
    have S12 := S11.call b12
    have OS12 := OS11.call b12
    have G12 := G11.call b12
    have OG12 := OG11.call b12
    clear b12 B11 S11 OS11 G11 OG11 u_0 u_1 u_2 u_3 u_4 u_5 u_6 u_7 u_8 u_9 u_10 u_11 u_12 u_13 u_14 u_15 y_0 y_1 y_2 y_3 y_4 y_5 y_6 y_7 y_8 y_9 y_10 y_11 y_12 y_13 y_14 y_15
    go_wp2_with (refine wp_loadBox 36 (.tmp 10) rfl rfl (w7.heap.size) rfl (cs := [.int .i64 gc, .int .i64 g0, .int .i64 g1, .int .i64 g2, .int .i64 g3, .int .i64 g4, .int .i64 g5, .int .i64 g6, .int .i64 g7, .int .i64 g8, .slice gp0 gl0 gq0, .slice gp1 gl1 gq1, .slice gp2 gl2 gq2, .int .i64 g9, .int .i64 g10, .bool gb]) G12 Tryz.underlying36 size_WR rfl ?_)
    refine (CM OG12).mono ?_
    rintro e w13 ⟨rfl, OG13, c13⟩
    have z13 : w12.heap.size ≤ w13.heap.size := c13.size
    have B13 := B12.trans (c13.bel (B := w1.heap.size) (by omega) (by omega))
    have S13 := S12.chg c13 (.inl (by omega))
    have OS13 := OS12.chg c13 (.inl (by omega))
    have G13 := G12.chg c13 (.inr (by omega))
    clear c13 B12 S12 OS12 G12 OG12
    go_wp2_with (refine wp_loadBox 36 (.tmp 10) rfl rfl (w7.heap.size) rfl (cs := [.int .i64 gc, .int .i64 g0, .int .i64 g1, .int .i64 g2, .int .i64 g3, .int .i64 g4, .int .i64 g5, .int .i64 g6, .int .i64 g7, .int .i64 g8, .slice gp0 gl0 gq0, .slice gp1 gl1 gq1, .slice gp2 gl2 gq2, .int .i64 g9, .int .i64 g10, .bool gb]) G13 Tryz.underlying36 size_WR rfl ?_)
    refine (CH _ _ _ OG13.rd (by omega)).mono ?_
    rintro e w14 ⟨rfl, b14⟩
    have z14 : w13.heap.size ≤ w14.heap.size := b14.size
    have B14 := B13.trans (b14.mono (by omega))
    have S14 := S13.call b14
    have OS14 := OS13.call b14
    have G14 := G13.call b14
    have OG14 := OG13.call b14
    have P14 := HT1.out.call B14
    clear b14 B13 S13 OS13 G13 OG13
    have hn0 : ¬ (N : Int) < 0 := by omega
    go_wp2_with (refine wp_loadBox 28 (.tmp 3) rfl rfl (w.heap.size) rfl (cs := [.int .i64 v0, .int .i64 v1, .int .i64 v2, .int .i64 v3, .int .i64 v4, .int .i64 v5, .int .i64 v6, .int .i64 v7, .int .i64 v8, .slice vp0 vl0 vq0, .slice vp1 vl1 vq1, .slice vp2 vl2 vq2, .int .i64 v9, .int .i64 v10, .bool vb]) P14.b1 Tryz.underlying28 size_LW rfl ?_)
    refine (CT _ B14).mono ?_
    rintro e w15 ⟨c15, rfl, o15, b15⟩
    go_wp2_with fail
    refine (CI _ _ _ o15.rd (Nat.le_refl _)).mono ?_
    rintro e w16 ⟨cH, rfl, oH, b16⟩
    obtain ⟨hc, h0, h1, h2, h3, h4, h5, h6, h7, h8, hp0, hl0, hq0, hp1, hl1, hq1, hp2, hl2, hq2, h9, h10, hb, rfl⟩ := wres16 oH.rd
    have z15 : w14.heap.size ≤ w15.heap.size := b15.size
    have z16 : w15.heap.size ≤ w16.heap.size := b16.size
    have B16 := (B14.trans (b15.mono (by omega))).trans (b16.mono (by omega))
    have S16 := (S14.call b15).call b16
    have OS16 := (OS14.call b15).call b16
    have G16 := (G14.call b15).call b16
    have OG16 := (OG14.call b15).call b16
    clear P14 o15 b15 b16 B14 S14 OS14 G14 OG14
    go_upto_region 25 with (refine wp_allocStore 36 14 (.tmp 66) [.int .i64 hc, .int .i64 h0, .int .i64 h1, .int .i64 h2, .int .i64 h3, .int .i64 h4, .int .i64 h5, .int .i64 h6, .int .i64 h7, .int .i64 h8, .slice hp0 hl0 hq0, .slice hp1 hl1 hq1, .slice hp2 hl2 hq2, .int .i64 h9, .int .i64 h10, .bool hb] _ 16 rfl rfl rfl rfl rfl rfl rfl rfl info_WR rfl rfl oH.one ?_)
    have bA : Below w16.heap.size w16 (w16.alloc (.cells #[.int .i64 hc, .int .i64 h0, .int .i64 h1, .int .i64 h2, .int .i64 h3, .int .i64 h4, .int .i64 h5, .int .i64 h6, .int .i64 h7, .int .i64 h8, .slice hp0 hl0 hq0, .slice hp1 hl1 hq1, .slice hp2 hl2 hq2, .int .i64 h9, .int .i64 h10, .bool hb] 36)) := (Below.refl _ _).alloc (Nat.le_refl _) _
    have H17 : Box (w16.alloc (.cells #[.int .i64 hc, .int .i64 h0, .int .i64 h1, .int .i64 h2, .int .i64 h3, .int .i64 h4, .int .i64 h5, .int .i64 h6, .int .i64 h7, .int .i64 h8, .slice hp0 hl0 hq0, .slice hp1 hl1 hq1, .slice hp2 hl2 hq2, .int .i64 h9, .int .i64 h10, .bool hb] 36)) w16.heap.size #[.int .i64 hc, .int .i64 h0, .int .i64 h1, .int .i64 h2, .int .i64 h3, .int .i64 h4, .int .i64 h5, .int .i64 h6, .int .i64 h7, .int .i64 h8, .slice hp0 hl0 hq0, .slice hp1 hl1 hq1, .slice hp2 hl2 hq2, .int .i64 h9, .int .i64 h10, .bool hb] 36 := box_new _ _ _
    obtain ⟨W17, hW17⟩ : ∃ x, x = w16.alloc (.cells #[.int .i64 hc, .int .i64 h0, .int .i64 h1, .int .i64 h2, .int .i64 h3, .int .i64 h4, .int .i64 h5, .int .i64 h6, .int .i64 h7, .int .i64 h8, .slice hp0 hl0 hq0, .slice hp1 hl1 hq1, .slice hp2 hl2 hq2, .int .i64 h9, .int .i64 h10, .bool hb] 36) := ⟨_, rfl⟩
    rw [← hW17] at bA H17 ⊢
    have B17 := B16.trans (bA.mono (by omega))
    have S17 := S16.call bA
    have OS17 := OS16.call bA
    have G17 := G16.call bA
    have OG17 := OG16.call bA
    have OH17 := oH.call bA
    have z17 : w16.heap.size < W17.heap.size := H17.lt
    clear bA hW17 oH B16 S16 OS16 G16 OG16
    go_wp2_with (first | (refine wp_loadBox 36 (.tmp 14) rfl rfl (w16.heap.size) rfl (cs := [.int .i64 hc, .int .i64 h0, .int .i64 h1, .int .i64 h2, .int .i64 h3, .int .i64 h4, .int .i64 h5, .int .i64 h6, .int .i64 h7, .int .i64 h8, .slice hp0 hl0 hq0, .slice hp1 hl1 hq1, .slice hp2 hl2 hq2, .int .i64 h9, .int .i64 h10, .bool hb]) H17 Tryz.underlying36 size_WR rfl ?_) | (refine wp_loadBox 36 (.tmp 8) rfl rfl (w3.heap.size) rfl (cs := [.int .i64 sc, .int .i64 s0, .int .i64 s1, .int .i64 s2, .int .i64 s3, .int .i64 s4, .int .i64 s5, .int .i64 s6, .int .i64 s7, .int .i64 s8, .slice sp0 sl0 sq0, .slice sp1 sl1 sq1, .slice sp2 sl2 sq2, .int .i64 s9, .int .i64 s10, .bool sb]) S17 Tryz.underlying36 size_WR rfl ?_))
    refine (CE _ _ _ _ _ OH17.rd OS17.rd (by omega) (by omega)).mono ?_
    rintro e w18 ⟨rfl, b18⟩
    have z18 : W17.heap.size ≤ w18.heap.size := b18.size
    have B18 := B17.trans (b18.mono (by omega))
    have G18 := G17.call b18
    have OG18 := OG17.call b18
    clear b18 B17 S17 OS17 G17 OG17 OH17 H17
    go_wp2_with (refine wp_loadBox 36 (.tmp 10) rfl rfl (w7.heap.size) rfl (cs := [.int .i64 gc, .int .i64 g0, .int .i64 g1, .int .i64 g2, .int .i64 g3, .int .i64 g4, .int .i64 g5, .int .i64 g6, .int .i64 g7, .int .i64 g8, .slice gp0 gl0 gq0, .slice gp1 gl1 gq1, .slice gp2 gl2 gq2, .int .i64 g9, .int .i64 g10, .bool gb]) G18 Tryz.underlying36 size_WR rfl ?_)
    refine (CH _ _ _ OG18.rd (by omega)).mono ?_
    rintro e w19 ⟨rfl, b19⟩
    have HB : Hid (Below w.heap.size w w19) := (HT1.out.call (B18.trans (b19.mono (by omega)))).bel
    clear b19 B18 G18 OG18
    go_wp2
    go_ret
    exact ⟨rfl, HB.out⟩

set_option maxRecDepth 100000 in
theorem fnExactWipeDrive_lifted (os : Os) (started : os.Started) (H : Type) (enc : TypeId × Value → H) :
    ReturnsInHanded {} Tryz.checked os 6 .any (Rows.fnExactWipeDriveSpec.pre6 enc Tryz.prog Tryz.f6 Rows.fnExactWipeDriveRow.domain false) (Rows.fnExactWipeDriveSpec.post enc Tryz.prog Tryz.f6 false true false false) := by
  refine returnsInHanded_of_change (C := Tryz.checked) frame_own started (by kernel_rfl) Tryz.func6
    (ChangeSpec.witness6 (enc := enc) (C := Tryz.checked) false ⟨#[], #[.agg #[.int .i64 0, .int .i64 0, .int .i64 0, .int .i64 0, .int .i64 0, .int .i64 0, .int .i64 0, .int .i64 0, .int .i64 0, .slice none 0 0, .slice none 0 0, .slice none 0 0, .int .i64 0, .int .i64 0, .bool false], .int .i64 0, .int .i64 0], []⟩ 8 (by kernel_rfl) (by kernel_rfl) (by kernel_rfl) (by kernel_rfl)) ?_
  intro W base args ds gs before hval0 hW hcnd _
  have hval : ∀ (j : Nat) t v, Tryz.f6.params[j]? = some t → args[j]? = some v → Value.okWide Tryz.prog W .any base t v := hval0
  have hW' := hW
  obtain ⟨p, q, hA0, hV, rfl, hfz, hnd⟩ := hW
  have hA : DataW.TrodAll enc Tryz.prog W 0 (fun _ => true) true Tryz.f6.params.toList args.toList ds p := hA0
  rw [Tryz.params6] at hA hval
  obtain ⟨v0, vs0, d0, ds0, p0, q0, hargs, rfl, rfl, h0, r0⟩ := trodAll_cons hA
  obtain ⟨v1, vs1, d1, ds1, p1, q1, rfl, rfl, rfl, h1, r1⟩ := trodAll_cons r0
  obtain ⟨v2, vs2, d2, ds2, p2, q2, rfl, rfl, rfl, h2, r2⟩ := trodAll_cons r1
  obtain ⟨rfl, rfl, rfl⟩ := trodAll_nil r2
  obtain rfl : args = #[v0, v1, v2] := by cases args; simp_all
  obtain ⟨rfl, rfl⟩ := trodVars_none hV
  have k0 := h0
  have lt0 : ∀ x ∈ p0, x.block < W.heap.size := by obtain ⟨m, hm⟩ := k0; exact DataW.trod_lt m _ _ _ hm
  obtain ⟨cs0, a0, rfl, rd0⟩ := struct_of_trod opensWorld Tryz.underlying28 (hval 0 28 v0 rfl rfl) h0
  obtain ⟨n1, rfl, rfl, rfl, hn1⟩ := open_int Tryz.underlying2 (hval 1 2 v1 rfl rfl) h1
  obtain ⟨n2, rfl, rfl, rfl, hn2⟩ := open_int Tryz.underlying2 (hval 2 2 v2 rfl rfl) h2
  clear hA0 hval0
  refine (fnExactWipeDrive_walk a0 cs0 n1 n2 W rd0 (bounds_i64 hn1) (bounds_i64 hn2)).mono fun e W' ⟨he, bel⟩ => ?_
  subst he
  exact ⟨_, rfl, _, _, _, [], _, [], hW', trodAll_mk1 (shut_bool Tryz.underlying4 _), (trodAll_cons_mk (Below.trod frame_laid (by kernel_rfl) (of_decide_eq_true (by kernel_rfl)) k0 bel lt0) (trodAll_cons_mk (shut_int Tryz.underlying2 hn1) (trodAll_cons_mk (shut_int Tryz.underlying2 hn2) trodAll_mk0))), rfl, bel.frame _, fun h => by cases h⟩

end Go.Proofs.YtbmfndjglndnlaaGreat
