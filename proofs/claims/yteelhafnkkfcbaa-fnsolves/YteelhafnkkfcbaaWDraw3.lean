/- Walks of the draws of rows and of a system. -/
import Derived.Test.YteelhafnkkfcbaaWDraw2
import Derived.Test.YteelhafnkkfcbaaWBld
import Derived.Test.YteelhafnkkfcbaaWScale
import Derived.Test.YteelhafnkkfcbaaWBytess
import Derived.Deep.DeepCutAuto
namespace Go.Proofs.Yteelhafnkkfcbaa
open Go.RowKit F256
set_option linter.unusedVariables false

theorem Src.over {wx w4 : World} {B bs t n : Nat} {v : Value} {f : Nat → Nat} (h : Src wx bs t v n f) (b : Below B wx w4) (hB : bs < B) : Src w4 bs t v n f := ⟨h.1.below b hB, h.2.1.below b (by omega), h.2.2⟩
/-- rows that were drawn: N of them, the slice of their slices as it is -/
def St (w wx : World) (bs T : Nat) (v : Value) (n : Nat) (f : Nat → Nat) (N g cap : Nat) : Prop :=
  ∃ nn ff e t', OwnE wx w.heap.size wx.heap.size (.slice (some ⟨g, 0, none⟩) N cap) N nn ff g cap e ∧ Byt ff ∧ (∀ i, nn i ≤ 10) ∧ t' ≤ T ∧ Src wx bs t' v n f ∧ Chg bs (bs + 1) w wx
theorem St.mono {w wx : World} {bs T T' : Nat} {v : Value} {n : Nat} {f : Nat → Nat} {N g cap : Nat} (h : St w wx bs T v n f N g cap) (hT : T ≤ T') : St w wx bs T' v n f N g cap := by
  obtain ⟨nn, ff, e, t', h1, h2, h3, h4, h5⟩ := h
  exact ⟨nn, ff, e, t', h1, h2, h3, by omega, h5⟩
theorem OwnE.chg1 {w w2 : World} {bs lo : Nat} {v : Value} {R : Nat} {n : Nat → Nat} {M : Mat} {g cap : Nat} {e : Nat → Value} (h : OwnE w lo w.heap.size v R n M g cap e) (c : Chg bs (bs + 1) w w2) (hb : bs < lo) : OwnE w2 lo w2.heap.size v R n M g cap e :=
  (h.keep (w2 := w2) fun b h1 h2 => c.block b h2 (.inr (by omega))).weaken c.size

theorem Chg.undrewN {lo hi q : Nat} {w w2 : World} (h : Chg lo hi (w.drewN q) w2) : Chg lo hi w w2 := ⟨h.os, h.tape, h.output, h.size, h.block⟩

theorem own_made {w w2 w3 : World} {N : Nat} (hs : w.heap.size ≤ w2.heap.size) (h : w3.ownsRow w2.heap.size 22 1 (.slice (some ⟨w2.heap.size, 0, none⟩) N N) N (valsOf N fun _ => nilS)) : OwnM w3 w.heap.size w3.heap.size (.slice (some ⟨w2.heap.size, 0, none⟩) N N) N (fun _ => 0) (fun _ _ => 0) := by
  refine ⟨w2.heap.size, N, fun _ => nilS, rfl, hs, (h.lt _ rfl).2, ⟨h.1, ?_⟩, fun i _ => own_nil _ _ _ _, ⟨fun i _ hh => (by cases hh), fun i j _ _ _ k hk => (by cases hk)⟩⟩
  rcases h.2 with hn | ⟨g, cap, cur, hg, hbg, rest⟩
  · exact .inl hn
  · exact .inr ⟨g, cap, cur, hg, by omega, rest⟩

set_option maxHeartbeats 4000000 in
theorem l1Rows_any (bs t : Nat) (v : Value) (n : Nat) (f : Nat → Nat) (ht : t ≤ 700000) (w : World) (h : Src w bs t v n f) :
    Calls Try.prog 20 #[.pointer (some ⟨bs, 0, none⟩)] w fun e w' => ∃ vr R nn ff t', e = .returned vr ∧ OwnM w' w.heap.size w'.heap.size vr R nn ff ∧ Byt ff ∧ R ≤ 17 ∧ (∀ i, nn i ≤ 10) ∧ t' ≤ t + 1000 ∧ Src w' bs t' v n f ∧ Chg bs (bs + 1) w w' := by
  have hbs := h.1.lt
  go_enter Try.func20, Try.ntmps20
  go_wp2_with fail
  have hb : Below w.heap.size w (w.alloc (.cells #[.int .i64 1, .int .i64 2, .int .i64 3, .int .i64 4, .int .i64 3, .int .i64 2, .int .i64 0] 2)) := (Below.refl _ _).alloc (Nat.le_refl _) _
  refine (l1Pick_any bs t v n f #[.int .i64 1, .int .i64 2, .int .i64 3, .int .i64 4, .int .i64 3, .int .i64 2, .int .i64 0] (fun i => ([1, 2, 3, 4, 3, 2, 0] : List Int).getD i 0) w.heap.size 7 (by omega) (by show 1 ≤ 7; omega) (by show 7 ≤ 100000; omega) ?_ _ (h.chgTrans hb) (box_new _ _ _) (by omega)).mono ?_
  · intro i hi
    have hi7 : i < 7 := hi
    have : i = 0 ∨ i = 1 ∨ i = 2 ∨ i = 3 ∨ i = 4 ∨ i = 5 ∨ i = 6 := by omega
    rcases this with rfl | rfl | rfl | rfl | rfl | rfl | rfl <;> rfl
  rintro e w1 ⟨j, hj, rfl, h1, c1⟩
  have hj7 : j < 7 := hj
  obtain ⟨N, hN, hNe⟩ : ∃ N : Nat, N ≤ 4 ∧ ([1, 2, 3, 4, 3, 2, 0] : List Int).getD j 0 = (N : Int) := by
    have : j = 0 ∨ j = 1 ∨ j = 2 ∨ j = 3 ∨ j = 4 ∨ j = 5 ∨ j = 6 := by omega
    rcases this with rfl | rfl | rfl | rfl | rfl | rfl | rfl
    · exact ⟨1, by omega, rfl⟩
    · exact ⟨2, by omega, rfl⟩
    · exact ⟨3, by omega, rfl⟩
    · exact ⟨4, by omega, rfl⟩
    · exact ⟨3, by omega, rfl⟩
    · exact ⟨2, by omega, rfl⟩
    · exact ⟨0, by omega, rfl⟩
  rw [hNe]
  have C1 : Chg bs (bs + 1) w w1 := (Below.chg hb bs (bs + 1)).trans c1
  have H1 : Hid (Src w1 bs (t + 1) v n f) := h1
  have s1 := C1.size
  clear hNe hj hj7 h1 c1 hb h
  go_wp2
  go_loopw [4, 5] (fun r i wr => ∃ k : Nat, k ≤ N ∧ i = .int .i64 k ∧ ∃ ff e t', BldR wr w.heap.size wr.heap.size r k (fun _ => N) ff e ∧ Byt ff ∧ t' ≤ t + 1 + 12 * k ∧ Src wr bs t' v n f ∧ Chg bs (bs + 1) w wr) (fun _ i _ => N - (intOf i).toNat)
  case atStart =>
    have b0 : Below w1.heap.size w1 (w1.alloc (.cells #[] 22)) := (Below.refl _ _).alloc (Nat.le_refl _) _
    have hl := World.ownsRow_lit (base := w.heap.size) (e := 22) (size := 1) w1 #[] 0 s1 (Nat.zero_le _) rfl
    exact ⟨0, Nat.zero_le _, rfl, fun _ _ => 0, fun _ => nilS, t + 1, ⟨hl, by simp, fun b hb => (hl.lt b hb).2, fun i hi => by omega, fun i j hi => by omega, by simp; omega, Nat.le_refl _⟩, fun _ _ => by show (0 : Nat) < 256; omega, by omega, H1.out.chgTrans b0, C1.trans (Below.chg b0 _ _)⟩
  case round =>
    obtain ⟨k, hk, rfl, ff, e, t', hB, kff, ht', hsrc, hchg⟩ := hrel
    by_cases hlt : k < N
    · have C := l1Some_any bs t' v n f N (by omega) (by omega) wr hsrc
      have hsz := hchg.size
      have HB : Hid (BldR wr w.heap.size wr.heap.size u4 k (fun _ => N) ff e) := hB
      have HF : Hid (Byt ff) := kff
      clear hB kff hsrc
      go_wp2_with (first | (go_at_call 21; refine C.mono ?_; rintro ee wx ⟨vx, gx, rfl, ox, kgx, sx, cx⟩; obtain ⟨aox, capx, rfl⟩ := ox.slice; have HBX : Hid (BldR wx w.heap.size wr.heap.size u4 k (fun _ => N) ff e) := HB.out.kept (fun b h1 h2 => cx.block b h2 (.inr (by omega))) cx.size) | (at_builtin; refine wp_appendM rfl (.tmp 15) (.tmp 19) rfl w.heap.size u4 k e ?_ ?_ wx.heap.size 1 (.slice aox N capx) ?_ ?_ rfl (by omega) ?_ ?_; (simp [Act.eval]); exact HBX.out.row.alloc _; (simp [Act.eval]); simp; (simp; have := cx.size; omega); intro v4 w4 hr4 hg4 hn4))
      have NX := HBX.out.next (n' := fun _ => N) (f' := fun i => if i = k then gx else ff i) (by simpa using ox) (Nat.le_refl _) (fun _ _ => rfl) (fun i hi => by simp [show ¬ i = k by omega]) hr4 hg4 hn4
      have hcx := cx.size
      have b4 : Below w.heap.size wx w4 := ((Below.refl w.heap.size wx).alloc (by omega) _).grown hg4 (by simp; omega) (fun b hb' => (HBX.out.row.lt b hb').1)
      have R1 := sx.over b4 hbs
      have R2 := Chg.then (hchg.trans cx) b4
      have R3 : Byt (fun i => if i = k then gx else ff i) := fun i j => by
        by_cases c : i = k
        · simp [c]; exact kgx j
        · simp [c]; exact HF.out i j
      clear hr4 hg4 hn4 b4 sx cx ox kgx HBX HB HF hchg C
      go_wp2
      go_roundw
      case rel => exact ⟨k + 1, by omega, by go_num, _, _, _, NX, R3, by omega, R1, R2⟩
      case measure => simp [intOf]; omega
    · obtain rfl : k = N := by omega
      obtain ⟨g, cap, hE⟩ := hB.done
      have hv := hE.val
      subst hv
      have S0 : St w wr bs (t + 50) v n f k g cap := ⟨_, _, _, _, hE, kff, fun i => by show k ≤ 10; omega, by omega, hsrc, hchg⟩
      clear hE hB kff hsrc hchg
      have HS0 : Hid (St w wr bs (t + 50) v n f k g cap) := S0
      clear S0
      go_upto_region 7 with fail
      go_cut [26] (fun c wx => ∃ b : Bool, c = .bool b ∧ (b = true → 1 < k) ∧ St w wx bs (t + 51) v n f k g cap)
      case first =>
        by_cases hN1 : 1 < k
        · obtain ⟨nn, ff, e, t', h1, h2, h3, h4, h5, h6⟩ := HS0.out
          go_wp2_with fail
          refine (l1Chance_any bs t' v n f 3 (by omega) (by omega) (by omega) _ h5).mono ?_
          rintro ee w2 ⟨b, rfl, h7, c7⟩
          have S1 : St w w2 bs (t + 51) v n f k g cap := ⟨nn, ff, e, t' + 1, h1.chg1 c7 hbs, h2, h3, by omega, h7, h6.trans c7⟩
          clear h1 h2 h3 h4 h5 h6 h7 c7
          go_wp2
          go_meet
          exact ⟨b, rfl, fun _ => hN1, S1⟩
        · go_wp2
          go_meet
          exact ⟨false, rfl, fun h => by simp at h, HS0.out.mono (by omega)⟩
      case rest =>
        obtain ⟨b, rfl, hb1, S1⟩ := hcut
        clear HS0
        have HS1 : Hid (St w wc bs (t + 51) v n f k g cap) := S1
        clear S1
        go_upto_if 26 with fail
        go_cut [] (fun wx => St w wx bs (t + 60) v n f k g cap)
        case first =>
          cases b with
          | false =>
            go_wp2
            go_meet
            exact HS1.out.mono (by omega)
          | true =>
            have hk1 := hb1 rfl
            obtain ⟨nn, ff, e, t', h1, h2, h3, h4, h5, h6⟩ := HS1.out
            have sz6 := h6.size
            obtain ⟨k1, hkk⟩ : ∃ k1, k1 + 1 = k := ⟨k - 1, by omega⟩
            have wsub : IntKind.i64.wrap ((k : Int) - 1) = (k1 : Int) := by rw [IntKind.wrap_i64]; omega
            obtain ⟨ao0, cap0, hs0⟩ := (h1.each 0 (by omega)).slice
            have ho0 := h1.each 0 (by omega)
            have hc0 := h1.cell 0 (by omega)
            have hn0 := h3 0
            rw [hs0] at hc0 ho0
            obtain ⟨n0, hn⟩ : ∃ x, x = nn 0 := ⟨_, rfl⟩
            rw [← hn] at hc0 ho0 hn0
            have HN : Hid (n0 = nn 0) := hn
            have H1 : Hid (OwnE wc w.heap.size wc.heap.size (.slice (some ⟨g, 0, none⟩) k cap) k nn ff g cap e) := h1
            have H3 : Hid (∀ i, nn i ≤ 10) := h3
            have H0 : Hid (Own wc w.heap.size wc.heap.size (.slice ao0 n0 cap0) n0 (ff 0)) := ho0
            have hlt1 : k1 < k := by omega
            clear hn hs0 h1 ho0 h3
            have Q1 : ∀ w2, Chg bs (bs + 1) wc w2 → w2.cell? ⟨g, 0, none⟩ = some (.slice ao0 n0 cap0) := fun w2 c => by
              have := (H1.out.chg1 c hbs).cell 0 (by omega)
              rw [this, ← H1.out.cell 0 (by omega), hc0]
            have Q2 : ∀ w2 w3, Chg bs (bs + 1) wc w2 → Below w2.heap.size w2 w3 → w3.cell? ⟨g, k1, none⟩ = some (e k1) ∧ w3.frozen? ⟨g, k1, none⟩ = false := fun w2 w3 c b => by
              have h := ((H1.out.chg1 c hbs).below b (Nat.le_refl _))
              exact ⟨h.cell k1 hlt1, h.frozen k1⟩
            have H2 : Hid (Byt ff) := h2
            have H5 : Hid (Src wc bs t' v n f) := h5
            clear h2 h5
            go_wp2
            go_region_with (first | (go_at_call 16; refine (l1Byte_any bs t' v n f (by omega) _ ?_).mono ?_; exact H5.out; rintro ee w2 ⟨y, hy, rfl, sy, cy⟩; replace cy := Chg.undrewN cy; have q0 := Q1 w2 cy) | (go_at_call 30; refine (l1Scale_any (.slice ao0 n0 cap0) n0 (ff 0) (fun i => mulN y (ff 0 i)) y w2.heap.size _ ?_ ?_ (H2.out 0) hy (fun i hi => rfl) (by omega)).mono ?_; exact ((H0.out.chg cy (.inr (by omega))).mono cy.size).rd; exact Nat.le_refl _; rintro ee w3 ⟨v3, rfl, o3, b3⟩; obtain ⟨ao3, cap3, rfl⟩ := o3.slice; have q1 := (Q2 w2 w3 cy b3).1; have q2 := (Q2 w2 w3 cy b3).2))
            all_goals
              have hgl := H1.out.low
              have s2 := cy.size
              have s3 := b3.size
              have E3 := (H1.out.chg1 cy hbs).below b3 (Nat.le_refl _)
              have L3 := E3.lay k1 hlt1 (n' := fun i => if i = k1 then n0 else nn i) (M' := fun i => if i = k1 then (fun i => mulN y (ff 0 i)) else ff i) (by simpa using o3) (Nat.le_refl _) s3 (fun j _ hj => by simp [hj]) (fun j _ hj => by simp [hj])
              have o4 := out_store w3 g (g + 1) g k1 (.slice ao3 n0 cap3) (Nat.le_refl _) (by omega)
              have b4 : Below w.heap.size w2 (w3.setCell ⟨g, k1, none⟩ (.slice ao3 n0 cap3)) := (b3.mono (by omega)).trans ((Below.refl w.heap.size w3).setCell hgl _)
              have S2 : St w (w3.setCell ⟨g, k1, none⟩ (.slice ao3 n0 cap3)) bs (t + 60) v n f k g cap := ⟨_, _, _, _, L3.weaken (Nat.le_of_eq o4.size.symm), fun i j => by
                by_cases c : i = k1
                · simp [c]; exact mulN_lt hy
                · simp [c]; exact H2.out i j, fun i => by
                by_cases c : i = k1
                · simp [c]; omega
                · simp [c]; exact H3.out i, by omega, sy.over b4 hbs, Chg.then (h6.trans cy) b4⟩
              clear E3 L3 o4 b4 o3 b3 cy sy q0 q1 q2
              go_wp2
              go_meet
              exact S2
        case rest =>
          have HS2 : Hid (St w wc bs (t + 60) v n f k g cap) := hcut
          clear hcut hb1 HS1
          go_upto_region 9 with fail
          go_cut [42] (fun c wx => ∃ b : Bool, c = .bool b ∧ (b = true → 0 < k) ∧ St w wx bs (t + 61) v n f k g cap)
          case first =>
            by_cases hN1 : 0 < k
            · obtain ⟨nn, ff, e, t', h1, h2, h3, h4, h5, h6⟩ := HS2.out
              go_wp2_with fail
              refine (l1Chance_any bs t' v n f 12 (by omega) (by omega) (by omega) _ h5).mono ?_
              rintro ee w2 ⟨b, rfl, h7, c7⟩
              have S1 : St w w2 bs (t + 61) v n f k g cap := ⟨nn, ff, e, t' + 1, h1.chg1 c7 hbs, h2, h3, by omega, h7, h6.trans c7⟩
              clear h1 h2 h3 h4 h5 h6 h7 c7
              go_wp2
              go_meet
              exact ⟨b, rfl, fun _ => hN1, S1⟩
            · go_wp2
              go_meet
              exact ⟨false, rfl, fun h => by simp at h, HS2.out.mono (by omega)⟩
          case rest =>
            obtain ⟨b2, rfl, hb2, S3⟩ := hcut
            have HS3 : Hid (St w wc bs (t + 61) v n f k g cap) := S3
            clear S3 HS2
            go_upto_if 42 with fail
            go_cut [] (fun wx => St w wx bs (t + 100) v n f k g cap)
            case first =>
              cases b2 with
              | false =>
                go_wp2
                go_meet
                exact HS3.out.mono (by omega)
              | true =>
                have hk0 := hb2 rfl
                obtain ⟨nn, ff, e, t', h1, h2, h3, h4, h5, h6⟩ := HS3.out
                have sz6 := h6.size
                have ek : ((k : Int) + 1) = ((k + 1 : Nat) : Int) := by simp
                have C := l1Some_any bs t' v n f (k + 1) (by omega) (by omega) wc h5
                rw [← ek] at C
                clear ek
                go_wp2_with fail
                refine C.mono ?_
                rintro ee w2 ⟨v2, g2, rfl, o2, kg2, sy, cy⟩
                have hgl := h1.low
                have s2 := cy.size
                have E2 : OwnE w2 w.heap.size wc.heap.size (.slice (some ⟨g, 0, none⟩) k cap) k nn ff g cap e := h1.keep (w2 := w2) fun b h1 h2 => cy.block b h2 (.inr (by omega))
                have hgh := E2.high
                have q1 := E2.cell 0 hk0
                have q2 := E2.frozen 0
                have L3 := E2.lay 0 hk0 (n' := fun i => if i = 0 then k + 1 else nn i) (M' := fun i => if i = 0 then g2 else ff i) (by simpa using o2) (Nat.le_refl _) s2 (fun j _ hj => by simp [hj]) (fun j _ hj => by simp [hj])
                obtain ⟨ao2, cap2, hv2⟩ := o2.slice
                subst hv2
                have o4 := out_store w2 g (g + 1) g 0 (.slice ao2 (k + 1) cap2) (Nat.le_refl _) (by omega)
                have b4 : Below w.heap.size w2 (w2.setCell ⟨g, 0, none⟩ (.slice ao2 (k + 1) cap2)) := (Below.refl w.heap.size w2).setCell hgl _
                have S2 : St w (w2.setCell ⟨g, 0, none⟩ (.slice ao2 (k + 1) cap2)) bs (t + 100) v n f k g cap := ⟨_, _, _, _, L3.weaken (Nat.le_of_eq o4.size.symm), fun i j => by
                  by_cases c : i = 0
                  · simp [c]; exact kg2 j
                  · simp [c]; exact h2 i j, fun i => by
                  by_cases c : i = 0
                  · simp [c]; omega
                  · simp [c]; exact h3 i, by omega, sy.over b4 hbs, Chg.then (h6.trans cy) b4⟩
                clear E2 L3 o4 b4 o2 cy sy h1 h2 h3 h4 h5 h6 C kg2
                go_wp2
                go_meet
                exact S2
            case rest =>
              have HS4 : Hid (St w wc bs (t + 100) v n f k g cap) := hcut
              clear hcut hb2 HS3
              obtain ⟨nn, ff, e, t', h1, h2, h3, h4, h5, h6⟩ := HS4.out
              have C := l1Chance_any bs t' v n f 40 (by omega) (by omega) (by omega) _ h5
              go_wp2_with fail
              refine C.mono ?_
              rintro ee w2 ⟨b, rfl, h7, c7⟩
              have E2 := h1.chg1 c7 hbs
              have hc2 := h6.trans c7
              have s2 := hc2.size
              clear h1 h5 h6 c7 C HS4
              cases b with
              | false =>
                go_wp2
                go_ret
                exact ⟨_, k, nn, ff, t' + 1, rfl, ⟨_, _, _, E2⟩, h2, by omega, h3, by omega, h7, hc2⟩
              | true =>
                go_wp2_with (at_make; refine wp_makeM _ rfl _ _ rfl _ _ 17 rfl rfl rfl rfl (by omega) ?_; intro w3 hown3 hb3 hz3)
                go_ret
                exact ⟨_, 17, fun _ => 0, fun _ _ => 0, t' + 1, rfl, own_made s2 hown3, fun _ _ => by show (0 : Nat) < 256; omega, by omega, fun _ => by show (0 : Nat) ≤ 10; omega, by omega, h7.over hb3 (by omega), hc2.trans (Below.chg hb3 _ _)⟩
end Go.Proofs.Yteelhafnkkfcbaa
